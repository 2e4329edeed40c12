/-
  Walks: a fit requirement's text; the document's Same at equal requirements; the law on there and back.
-/
import Derived.Test.YtpedljmpobhimaaDoorHq
namespace Go.Proofs.YtpedljmpobhimaaDoor
open Go.RowKit Go.Shelf
set_option linter.unusedVariables false

theorem Text_fit (t : List UInt8) (v : Value) (ms : List Mr) (w : World) (hv : Mrs w v ms) (hs : Small ms) (hk : Kn w) (hf : fitL t ms = true) :
    Calls Tryd.prog 6 #[.agg #[.string (ofL t), v]] w fun e w' => e = .returned (.string (ofL (wrL t ms))) ∧ Below w.heap.size w w' := by
  have FI := hide (fun W hv hk => Fit_any t v ms W hv hs hk)
  rw [hf] at FI
  have WR := hide (fun W hv => write_any t v ms W hv hs)
  obtain ⟨a0, c0, rfl, _⟩ := id hv
  have HV := hide hv
  have hB0 := hide ((Below.refl _ w).alloc (Nat.le_refl _) (.cells #[.string (ofL t), .slice a0 ms.length c0] 24))
  have N0 := hide (World.alloc_heap_new w (.cells #[.string (ofL t), .slice a0 ms.length c0] 24))
  have HK := hide (hk.alloc (.cells #[.string (ofL t), .slice a0 ms.length c0] 24))
  clear hv hk hs hf
  go_enter Tryd.func6, Tryd.ntmps6
  go_wp2_with fail
  generalize w.alloc (.cells #[.string (ofL t), .slice a0 ms.length c0] 24) = W0 at *
  refine (FI.out _ (HV.out.below hB0.out) HK.out).mono ?_
  rintro e w1 ⟨rfl, b1⟩
  have hb1 := hide (hB0.out.trans (b1.mono hB0.out.size))
  have n1 := (b1.block _ (Array.getElem?_eq_some_iff.1 N0.out).1).trans N0.out
  have y0 : w1.cell? ⟨w.heap.size, 0, none⟩ = some (.string (ofL t)) := cell_at 0 n1 rfl
  have y1 : w1.cell? ⟨w.heap.size, 1, none⟩ = some (.slice a0 ms.length c0) := cell_at 1 n1 rfl
  clear n1 b1 hB0 N0
  go_wp2_with fail
  refine (WR.out _ (HV.out.below hb1.out)).mono ?_
  rintro e w2 ⟨rfl, b2⟩
  go_wp2_with fail
  go_ret
  exact ⟨rfl, hb1.out.trans (b2.mono hb1.out.size)⟩

set_option maxRecDepth 100000 in
set_option maxHeartbeats 4000000 in
theorem RSame_true (t : List UInt8) (a1 a2 : Option Addr) (n c1 c2 : Nat) (ms : List Mr) (w : World) (h1 : Mrs w (.slice a1 n c1) ms) (h2 : Mrs w (.slice a2 n c2) ms) (hn : n ≤ 2000000) :
    Calls Tryd.prog 7 #[.agg #[.string (ofL t), .slice a1 n c1], .agg #[.string (ofL t), .slice a2 n c2]] w fun e w' => e = .returned (.bool true) ∧ Below w.heap.size w w' := by
  have HN := hide (mrs_n h1)
  have H1 := hide h1
  have H2 := hide h2
  have hb : ((n : Int) == (n : Int)) = true := by simp
  have heq : ((ofL t).toList == (ofL t).toList) = true := by simp
  have k1 := World.alloc_heap_new (w.alloc (.cells #[.string (ofL t), .slice a1 n c1] 24)) (.cells #[.string (ofL t), .slice a2 n c2] 24)
  rw [World.size_alloc] at k1
  have k0 := (Below.heap_alloc (w.alloc (.cells #[.string (ofL t), .slice a1 n c1] 24)) (.cells #[.string (ofL t), .slice a2 n c2] 24) w.heap.size (by simp)).trans (World.alloc_heap_new w (.cells #[.string (ofL t), .slice a1 n c1] 24))
  have hB0 := ((Below.refl _ w).alloc (Nat.le_refl _) (.cells #[.string (ofL t), .slice a1 n c1] 24)).alloc (by simp) (.cells #[.string (ofL t), .slice a2 n c2] 24)
  have HB0 := hide hB0
  have K0 := hide k0
  have K1 := hide k1
  clear h1 h2 hB0 k0 k1
  go_enter Tryd.func7, Tryd.ntmps7
  go_wp2_with fail
  go_loopw [5] (fun x wr => ∃ i : Nat, i ≤ n ∧ x = .int .i64 i ∧ Below w.heap.size w wr ∧ Hid (wr.heap[w.heap.size]? = some (.cells #[.string (ofL t), .slice a1 n c1] 24 (0, 0)) ∧ wr.heap[w.heap.size + 1]? = some (.cells #[.string (ofL t), .slice a2 n c2] 24 (0, 0)))) (fun x _ => n - (intOf x).toNat)
  case atStart => exact ⟨0, by omega, rfl, HB0.out, K0.out, K1.out⟩
  case round =>
    obtain ⟨i, hin, rfl, hB, hC⟩ := hrel
    have y1 : wr.cell? ⟨w.heap.size, 1, none⟩ = some (.slice a1 n c1) := cell_at 1 hC.out.1 rfl
    have z1 : wr.cell? ⟨w.heap.size + 1, 1, none⟩ = some (.slice a2 n c2) := cell_at 1 hC.out.2 rfl
    by_cases hlt : i < n
    · have hlt' : (i : Int) < (n : Int) := by omega
      have i1 : i < ms.length := by rw [HN.out]; exact hlt
      obtain ⟨b1, o1, rfl, q1, d1⟩ := mrs_at (H1.out.below hB) (by omega)
      obtain ⟨b2, o2, rfl, q2, d2⟩ := mrs_at (H2.out.below hB) (by omega)
      obtain ⟨e0, e1, e2, e3, e4, e5⟩ := d1.six i _ (List.getElem?_eq_getElem i1)
      obtain ⟨f0, f1, f2, f3, f4, f5⟩ := d2.six i _ (List.getElem?_eq_getElem i1)
      generalize ms[i] = x at *
      clear d1 d2 i1
      go_wp2_with fail
      go_quiet (fail)
      go_wp2_with fail
      go_roundw
      case rel => exact ⟨i + 1, by omega, by go_num, hB.trans (below_drewN _ _ _), by have := hC.out; exact ⟨by rw [heap_drewN]; exact this.1, by rw [heap_drewN]; exact this.2⟩⟩
      case measure => simp [intOf]; omega
    · have hlt' : ¬ (i : Int) < (n : Int) := by omega
      go_wp2_with fail
      go_ret
      exact ⟨rfl, hB⟩
theorem pa_at {l : List UInt8} (h : (paL l).err = 0) : (paL l).at' = 0 := by
  unfold paL softL at h ⊢
  split <;> rename_i h1
  · rw [if_pos h1] at h; cases h
  · rw [if_neg h1] at h
    split <;> rename_i h2
    · rw [if_pos h2] at h
      split <;> rename_i h3
      · rw [if_pos h3] at h; exact absurd h h3
      · rfl
    · rw [if_neg h2] at h
      split <;> rename_i h3
      · rw [if_pos h3] at h; exact absurd h h3
      · rw [if_neg h3] at h
        split <;> rename_i h4
        · rw [if_pos h4] at h; exact absurd h (misR_ne _)
        · rfl
theorem fit_parts {t : List UInt8} {ms : List Mr} (h : fitL t ms = true) : paL (wrL t ms) = ⟨0, 0, t, ms⟩ := by
  unfold fitL at h
  simp only [Bool.and_eq_true, decide_eq_true_eq, beq_iff_eq] at h
  obtain ⟨⟨h1, h2⟩, h3⟩ := h
  have h4 := pa_at h1
  generalize paL (wrL t ms) = P at *
  obtain ⟨e, p, s, m⟩ := P
  dsimp only at h1 h2 h3 h4
  subst h1 h2 h3 h4
  rfl

end Go.Proofs.YtpedljmpobhimaaDoor
