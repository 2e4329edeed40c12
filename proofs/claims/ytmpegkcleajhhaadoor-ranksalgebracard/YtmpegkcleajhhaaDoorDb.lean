/-
  Walks: is a row of spans fit? The program and the document.
-/
import Derived.Test.YtmpegkcleajhhaaDoorDa
namespace Go.Proofs.YtmpegkcleajhhaaDoor
open Go.RowKit Go.Shelf
set_option linter.unusedVariables false

theorem fit_stop {n last : Int} {s : List Sp} {i : Nat} (h : i < s.length) (hb : s[i].1 ≤ last ∨ s[i].2 ≤ s[i].1 ∨ n < s[i].2) : fitF n last (s.drop i) = false := by
  rw [List.drop_eq_getElem_cons h, Bool.eq_false_iff]
  intro hh
  rw [fitF_cons] at hh
  omega
theorem fit_go {n last : Int} {s : List Sp} {i : Nat} (h : i < s.length) (h1 : last < s[i].1) (h2 : s[i].1 < s[i].2) (h3 : s[i].2 ≤ n) : fitF n last (s.drop i) = fitF n s[i].2 (s.drop (i + 1)) := by
  rw [List.drop_eq_getElem_cons h, fitF]
  simp [h1, h2, h3]
theorem fit_all {n last : Int} {s : List Sp} {i : Nat} (h : s.length ≤ i) : fitF n last (s.drop i) = true := by
  rw [List.drop_eq_nil_of_le h]; rfl
theorem fitL_no {n : Int} {s : List Sp} (h : n < 0 ∨ 65536 < n) : fitL n s = false := by
  rw [Bool.eq_false_iff]
  intro hh
  rw [fitL_iff] at hh
  omega
theorem fitL_in {n : Int} {s : List Sp} (h0 : 0 ≤ n) (h1 : n ≤ 65536) : fitL n s = fitF n (-1) s := by
  unfold fitL
  simp [h0, h1]

set_option maxRecDepth 100000 in
set_option maxHeartbeats 2000000 in
theorem Fit_any (n : Int) (v : Value) (s : List Sp) (w : World) (hA : Spans w v s) (hl : s.length ≤ 1000000000000000) :
    Calls Tryd.prog 7 #[.int .i64 n, v] w fun e w' => e = .returned (.bool (fitL n s)) ∧ Below w.heap.size w w' := by
  obtain ⟨aa, ca, rfl, hra⟩ := hA
  have HA := hide hra
  clear hra
  by_cases g0 : n < 0
  · have HX := hide (fitL_no (s := s) (.inl g0))
    go_enter Tryd.func7, Tryd.ntmps7
    go_wp2_with fail
    go_ret
    exact ⟨by rw [HX.out]; rfl, Below.refl _ _⟩
  by_cases g1 : 65536 < n
  · have HX := hide (fitL_no (s := s) (.inr g1))
    go_enter Tryd.func7, Tryd.ntmps7
    go_wp2_with fail
    go_ret
    exact ⟨by rw [HX.out]; rfl, Below.refl _ _⟩
  have HX := hide (fitL_in (s := s) (by omega : 0 ≤ n) (by omega : n ≤ 65536))
  go_enter Tryd.func7, Tryd.ntmps7
  go_wp2_with fail
  go_loopw [5, 16] (fun x y wr => ∃ (i : Nat) (last : Int), i ≤ s.length ∧ x = .int .i64 last ∧ y = .int .i64 i ∧ Below w.heap.size w wr ∧ Hid (fitF n (-1) s = fitF n last (s.drop i))) (fun _ y _ => s.length - (intOf y).toNat)
  case atStart => exact ⟨0, -1, by omega, rfl, rfl, Below.refl _ _, rfl⟩
  case round =>
    obtain ⟨i, last, hi, rfl, rfl, hBw, hE⟩ := hrel
    by_cases hlt : i < s.length
    · have hlt' : (i : Int) < (s.length : Int) := by omega
      obtain ⟨b, off, rfl, hlb, hc⟩ : ∃ b off, aa = some ⟨b, off, none⟩ ∧ b < w.heap.size ∧ SRow w b off s := by
        rcases HA.out with h0 | h0
        · rw [h0] at hlt; simp at hlt
        · exact h0
      obtain ⟨c0, c1⟩ := (hc.of_block (hBw.block b hlb)) i hlt
      have HS := hide (fit_stop (n := n) (last := last) hlt)
      have HG := hide (fit_go (n := n) (last := last) hlt)
      clear hc
      generalize s[i] = x at *
      obtain ⟨x0, x1⟩ := x
      dsimp only at c0 c1
      have hB1 : Below w.heap.size w (wr.alloc (.cells #[.int .i64 x0, .int .i64 x1] 45)) := hBw.alloc hBw.size _
      by_cases h1 : x0 ≤ last
      · have HF := hide (HS.out (.inl h1))
        clear HS HG
        go_wp2_with fail
        go_ret
        exact ⟨by rw [HX.out, hE.out, HF.out]; rfl, hB1⟩
      by_cases h2 : x1 ≤ x0
      · have HF := hide (HS.out (.inr (.inl h2)))
        clear HS HG
        go_wp2_with fail
        go_ret
        exact ⟨by rw [HX.out, hE.out, HF.out]; rfl, hB1⟩
      by_cases h3 : n < x1
      · have HF := hide (HS.out (.inr (.inr h3)))
        clear HS HG
        go_wp2_with fail
        go_ret
        exact ⟨by rw [HX.out, hE.out, HF.out]; rfl, hB1⟩
      have HF := hide (HG.out (by simp only; omega) (by simp only; omega) (by simp only; omega))
      clear HS HG
      go_wp2_with fail
      go_roundw
      case rel => exact ⟨i + 1, x1, by omega, rfl, by go_num, hB1, by show _ = _; rw [hE.out, HF.out]⟩
      case measure => simp [intOf]; omega
    · have hlt' : ¬ (i : Int) < (s.length : Int) := by omega
      have HF := hide (fit_all (n := n) (last := last) (s := s) (i := i) (by omega))
      go_wp2_with fail
      go_ret
      exact ⟨by rw [HX.out, hE.out, HF.out]; rfl, hBw⟩

end Go.Proofs.YtmpegkcleajhhaaDoor
