/-
  Walks: is a row of spans fit? The document.
-/
import Derived.Test.YtmpegkcleajhhaaDoorDb
namespace Go.Proofs.YtmpegkcleajhhaaDoor
open Go.RowKit Go.Shelf
set_option linter.unusedVariables false

set_option maxRecDepth 100000 in
set_option maxHeartbeats 4000000 in
theorem RFit_any (n : Int) (v : Value) (s : List Sp) (w : World) (hA : Spans w v s) (hl : s.length ≤ 1000000000000000) :
    Calls Tryd.prog 8 #[.int .i64 n, v] w fun e w' => e = .returned (.bool (fitL n s)) ∧ Below w.heap.size w w' := by
  obtain ⟨aa, ca, rfl, hra⟩ := hA
  have HA := hide hra
  clear hra
  by_cases g0 : n < 0
  · have HX := hide (fitL_no (s := s) (.inl g0))
    go_enter Tryd.func8, Tryd.ntmps8
    go_wp2_with fail
    go_ret
    exact ⟨by rw [HX.out]; rfl, Below.refl _ _⟩
  by_cases g1 : 65536 < n
  · have HX := hide (fitL_no (s := s) (.inr g1))
    go_enter Tryd.func8, Tryd.ntmps8
    go_wp2_with fail
    go_ret
    exact ⟨by rw [HX.out]; rfl, Below.refl _ _⟩
  have HX := hide (fitL_in (s := s) (by omega : 0 ≤ n) (by omega : n ≤ 65536))
  go_enter Tryd.func8, Tryd.ntmps8
  go_wp2_with fail
  go_loopw [5, 6] (fun x y wr => ∃ (i : Nat) (last : Int), i ≤ s.length ∧ -1 ≤ last ∧ x = .int .i64 last ∧ y = .int .i64 i ∧ Below w.heap.size w wr ∧ Hid (fitF n (-1) s = fitF n last (s.drop i))) (fun _ y _ => s.length - (intOf y).toNat)
  case atStart => exact ⟨0, -1, by omega, by omega, rfl, rfl, Below.refl _ _, rfl⟩
  case round =>
    obtain ⟨i, last, hi, hm1, rfl, rfl, hBw, hE⟩ := hrel
    by_cases hlt : i < s.length
    · have hlt' : (i : Int) < (s.length : Int) := by omega
      obtain ⟨b, off, rfl, hlb, hc⟩ : ∃ b off, aa = some ⟨b, off, none⟩ ∧ b < w.heap.size ∧ SRow w b off s := by
        rcases HA.out with h0 | h0
        · rw [h0] at hlt; simp at hlt
        · exact h0
      obtain ⟨c0, c1⟩ := (hc.of_block (hBw.block b hlb)) i hlt
      have HS := hide (fit_stop (n := n) (last := last) hlt)
      have HG := hide (fit_go (n := n) (last := last) hlt)
      clear hc
      generalize s[i] = x at *
      obtain ⟨x0, x1⟩ := x
      dsimp only at c0 c1
      by_cases h0 : x0 < 0
      · have HF := hide (HS.out (.inl (by simp only; omega)))
        clear HS HG
        have d0 : decide (x0 < 0) = true := by simp; omega
        clear h0
        go_wp2_with fail
        go_quiet (fail)
        go_wp2_with fail
        go_ret
        exact ⟨by rw [HX.out, hE.out, HF.out]; rfl, hBw.trans (below_drewN _ _ _)⟩
      by_cases h1 : x0 ≤ last
      · have HF := hide (HS.out (.inl h1))
        clear HS HG
        have d0 : decide (x0 < 0) = false := by simp; omega
        have d1 : decide (x0 ≤ last) = true := by simp; omega
        clear h0 h1
        go_wp2_with fail
        go_quiet (fail)
        go_wp2_with fail
        go_ret
        exact ⟨by rw [HX.out, hE.out, HF.out]; rfl, hBw.trans (below_drewN _ _ _)⟩
      by_cases h2 : x1 ≤ x0
      · have HF := hide (HS.out (.inr (.inl h2)))
        clear HS HG
        have d0 : decide (x0 < 0) = false := by simp; omega
        have d1 : decide (x0 ≤ last) = false := by simp; omega
        have d2 : decide (x1 ≤ x0) = true := by simp; omega
        clear h0 h1 h2
        go_wp2_with fail
        go_quiet (fail)
        go_wp2_with fail
        go_ret
        exact ⟨by rw [HX.out, hE.out, HF.out]; rfl, hBw.trans (below_drewN _ _ _)⟩
      by_cases h3 : n < x1
      · have HF := hide (HS.out (.inr (.inr h3)))
        clear HS HG
        have d0 : decide (x0 < 0) = false := by simp; omega
        have d1 : decide (x0 ≤ last) = false := by simp; omega
        have d2 : decide (x1 ≤ x0) = false := by simp; omega
        have d3 : decide (n < x1) = true := by simp; omega
        clear h0 h1 h2 h3
        go_wp2_with fail
        go_quiet (fail)
        go_wp2_with fail
        go_ret
        exact ⟨by rw [HX.out, hE.out, HF.out]; rfl, hBw.trans (below_drewN _ _ _)⟩
      have HF := hide (HG.out (by simp only; omega) (by simp only; omega) (by simp only; omega))
      clear HS HG
      have hx1 : -1 ≤ x1 := by omega
      have d0 : decide (x0 < 0) = false := by simp; omega
      have d1 : decide (x0 ≤ last) = false := by simp; omega
      have d2 : decide (x1 ≤ x0) = false := by simp; omega
      have d3 : decide (n < x1) = false := by simp; omega
      clear h0 h1 h2 h3
      go_wp2_with fail
      go_quiet (fail)
      have hB2 : Below w.heap.size w (wr.drewN nq) := hBw.trans (below_drewN _ _ _)
      have c1' : (wr.drewN nq).cell? ⟨b, off + i * 2 + 1, none⟩ = some (.int .i64 x1) := by simp only [World.cell?, heap_drewN] at c1 ⊢; exact c1
      clear c0 c1
      generalize wr.drewN nq = W2 at *
      go_wp2_with fail
      go_roundw
      case rel => exact ⟨i + 1, x1, by omega, hx1, rfl, by go_num, hB2, by show _ = _; rw [hE.out, HF.out]⟩
      case measure => simp [intOf]; omega
    · have hlt' : ¬ (i : Int) < (s.length : Int) := by omega
      have HF := hide (fit_all (n := n) (last := last) (s := s) (i := i) (by omega))
      go_wp2_with fail
      go_ret
      exact ⟨by rw [HX.out, hE.out, HF.out]; rfl, hBw⟩

end Go.Proofs.YtmpegkcleajhhaaDoor
