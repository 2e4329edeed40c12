/-
  Walks: the document's Parse.
-/
import Derived.Test.YtmcabgjcppnihaaDr
namespace Go.Proofs.Ytmcabgjcppnihaa
open Go.RowKit Go.Shelf
set_option linter.unusedVariables false

/-- The results in their cells. -/
theorem fin9 {R : Ending → World → Prop} (tmps : Array Value) (W : World) (B C : Nat) (a b c : ByteArray) (k : Bool) (x y : Int)
    (h2 : tmps.getD 2 undef = .pointer (some ⟨B, 0, none⟩)) (h3 : tmps.getD 3 undef = .pointer (some ⟨C, 0, none⟩))
    (e1 : W.heap[B]? = some (.cells #[.string a, .string b, .string c, .bool k] 23 (0, 0))) (e2 : W.heap[C]? = some (.cells #[.int .i64 x, .int .i64 y] 26 (0, 0)))
    (hR : R (.returned (.tuple #[.agg #[.string a, .string b, .string c, .bool k], .agg #[.int .i64 x, .int .i64 y]])) W) :
    bodyPost Try.prog Try.f9 R .ret { tmps := tmps, defers := [] } W := by
  have r0 := cell_at 0 e1 rfl
  have r1 := cell_at 1 e1 rfl
  have r2 := cell_at 2 e1 rfl
  have r3 := cell_at 3 e1 rfl
  have q0 := cell_at 0 e2 rfl
  have q1 := cell_at 1 e2 rfl
  rw [Array.getD_eq_getD_getElem?] at h2 h3
  refine ⟨rfl, _, ?_, hR⟩
  simp [results, Try.results9, go_sem, h2, h3, r0, r1, r2, r3, q0, q1]
  try rfl

theorem parse_R0 {l : List UInt8} (h : ¬ 64 < l.length) (h1 : verE l = epS l) : parseL l = .error (misR l.length (epS l), epS l) := by
  have hr : relB l = false := by unfold relB; rw [h1]; simp
  unfold parseL tailL
  rw [if_neg h, hr, if_neg (by simp), h1]
  by_cases h2 : epS l < l.length
  · rw [if_pos h2, misR_in h2]
  · rw [if_neg h2, if_pos rfl, misR_out (by omega)]
theorem parse_R1 {l : List UInt8} (h : ¬ 64 < l.length) (hr : relB l = true) (h1 : relE l = verE l + 1) : parseL l = .error (misR l.length (relE l), relE l) := by
  unfold parseL tailL
  rw [if_neg h, hr, if_pos rfl]
  by_cases h2 : relE l < l.length
  · rw [if_pos h2, misR_in h2]
  · rw [if_neg h2, if_pos h1, misR_out (by omega)]
theorem parse_R2 {l : List UInt8} (h : ¬ 64 < l.length) (hr : relB l = true) (h2 : relE l < l.length) : parseL l = .error (misR l.length (relE l), relE l) := by
  unfold parseL tailL
  rw [if_neg h, hr, if_pos rfl, if_pos h2, misR_in h2]
theorem parse_R3 {l : List UInt8} (h : ¬ 64 < l.length) (hr : relB l = true) (h1 : relE l ≠ verE l + 1) (h2 : ¬ relE l < l.length) : parseL l = .ok ⟨epE l, seg l (epS l) (verE l), seg l (verE l + 1) (relE l), true⟩ := by
  unfold parseL tailL
  rw [if_neg h, hr, if_pos rfl, if_neg h2, if_neg h1]
theorem parse_R4 {l : List UInt8} (h : ¬ 64 < l.length) (hr : relB l = false) (h2 : verE l < l.length) : parseL l = .error (misR l.length (verE l), verE l) := by
  unfold parseL tailL
  rw [if_neg h, hr, if_neg (by simp), if_pos h2, misR_in h2]
theorem parse_R5 {l : List UInt8} (h : ¬ 64 < l.length) (h1 : verE l ≠ epS l) (h2 : ¬ verE l < l.length) : parseL l = .ok ⟨epE l, seg l (epS l) (verE l), [], false⟩ := by
  have hr : relB l = false := by
    cases hr : relB l
    · rfl
    · exact absurd (relB_lt hr) h2
  unfold parseL tailL
  rw [if_neg h, hr, if_neg (by simp), if_neg h2, if_neg h1]

/-- The world in which the results' cells lie. -/
structure PW (w W : World) : Prop where
  bel : Below w.heap.size w W
  eR : W.heap[w.heap.size]? = some (.cells #[.string ⟨#[]⟩, .string ⟨#[]⟩, .string ⟨#[]⟩, .bool false] 23 (0, 0))
  eF : W.heap[w.heap.size + 1]? = some (.cells #[.int .i64 0, .int .i64 0] 26 (0, 0))
theorem PW.start (w : World) (o : Obj) : PW w (((w.alloc (.cells #[.string ⟨#[]⟩, .string ⟨#[]⟩, .string ⟨#[]⟩, .bool false] 23)).alloc (.cells #[.int .i64 0, .int .i64 0] 26)).alloc o) := ⟨below3 _ _ _ _, heap3_0 _ _ _ _, heap3_1 _ _ _ _⟩
theorem PW.next {w W W' : World} (h : PW w W) (hb : Below W.heap.size W W') : PW w W' := ⟨step1 h.bel hb, carry hb h.eR, carry hb h.eF⟩
theorem PW.fin {w W : World} (h : PW w W) (x y : Value) : ∃ W9, W9 = (((((W.setCell ⟨w.heap.size, 0, none⟩ (.string ⟨#[]⟩)).setCell ⟨w.heap.size, 1, none⟩ (.string ⟨#[]⟩)).setCell ⟨w.heap.size, 2, none⟩ (.string ⟨#[]⟩)).setCell ⟨w.heap.size, 3, none⟩ (.bool false)).setCell ⟨w.heap.size + 1, 0, none⟩ x).setCell ⟨w.heap.size + 1, 1, none⟩ y ∧
    W9.heap[w.heap.size]? = some (.cells #[.string ⟨#[]⟩, .string ⟨#[]⟩, .string ⟨#[]⟩, .bool false] 23 (0, 0)) ∧ W9.heap[w.heap.size + 1]? = some (.cells #[x, y] 26 (0, 0)) ∧ Below w.heap.size w W9 := by
  have h0 : (W.setCell ⟨w.heap.size, 0, none⟩ (.string ⟨#[]⟩)).heap[w.heap.size]? = some (.cells #[.string ⟨#[]⟩, .string ⟨#[]⟩, .string ⟨#[]⟩, .bool false] 23 (0, 0)) := set_lies 0 _ h.eR
  have f0 : (W.setCell ⟨w.heap.size, 0, none⟩ (.string ⟨#[]⟩)).heap[w.heap.size + 1]? = _ := (Below.heap_setCell _ _ _ _ (by simp)).trans h.eF
  have b0 := h.bel.setCell (p := ⟨w.heap.size, 0, none⟩) (Nat.le_refl _) (.string ⟨#[]⟩)
  generalize W.setCell ⟨w.heap.size, 0, none⟩ (.string ⟨#[]⟩) = W0 at *
  have h1 : (W0.setCell ⟨w.heap.size, 1, none⟩ (.string ⟨#[]⟩)).heap[w.heap.size]? = some (.cells #[.string ⟨#[]⟩, .string ⟨#[]⟩, .string ⟨#[]⟩, .bool false] 23 (0, 0)) := set_lies 1 _ h0
  have f1 : (W0.setCell ⟨w.heap.size, 1, none⟩ (.string ⟨#[]⟩)).heap[w.heap.size + 1]? = _ := (Below.heap_setCell _ _ _ _ (by simp)).trans f0
  have b1 := b0.setCell (p := ⟨w.heap.size, 1, none⟩) (Nat.le_refl _) (.string ⟨#[]⟩)
  generalize W0.setCell ⟨w.heap.size, 1, none⟩ (.string ⟨#[]⟩) = W1 at *
  have h2 : (W1.setCell ⟨w.heap.size, 2, none⟩ (.string ⟨#[]⟩)).heap[w.heap.size]? = some (.cells #[.string ⟨#[]⟩, .string ⟨#[]⟩, .string ⟨#[]⟩, .bool false] 23 (0, 0)) := set_lies 2 _ h1
  have f2 : (W1.setCell ⟨w.heap.size, 2, none⟩ (.string ⟨#[]⟩)).heap[w.heap.size + 1]? = _ := (Below.heap_setCell _ _ _ _ (by simp)).trans f1
  have b2 := b1.setCell (p := ⟨w.heap.size, 2, none⟩) (Nat.le_refl _) (.string ⟨#[]⟩)
  generalize W1.setCell ⟨w.heap.size, 2, none⟩ (.string ⟨#[]⟩) = W2 at *
  have h3 : (W2.setCell ⟨w.heap.size, 3, none⟩ (.bool false)).heap[w.heap.size]? = some (.cells #[.string ⟨#[]⟩, .string ⟨#[]⟩, .string ⟨#[]⟩, .bool false] 23 (0, 0)) := set_lies 3 _ h2
  have f3 : (W2.setCell ⟨w.heap.size, 3, none⟩ (.bool false)).heap[w.heap.size + 1]? = _ := (Below.heap_setCell _ _ _ _ (by simp)).trans f2
  have b3 := b2.setCell (p := ⟨w.heap.size, 3, none⟩) (Nat.le_refl _) (.bool false)
  generalize W2.setCell ⟨w.heap.size, 3, none⟩ (.bool false) = W3 at *
  have h4 : (W3.setCell ⟨w.heap.size + 1, 0, none⟩ x).heap[w.heap.size]? = _ := (Below.heap_setCell _ _ _ _ (by simp)).trans h3
  have f4 : (W3.setCell ⟨w.heap.size + 1, 0, none⟩ x).heap[w.heap.size + 1]? = some (.cells #[x, .int .i64 0] 26 (0, 0)) := set_lies 0 _ f3
  have b4 := b3.setCell (p := ⟨w.heap.size + 1, 0, none⟩) (Nat.le_succ _) x
  generalize W3.setCell ⟨w.heap.size + 1, 0, none⟩ x = W4 at *
  exact ⟨_, rfl, (Below.heap_setCell _ _ _ _ (by simp)).trans h4, set_lies 1 _ f4, b4.setCell (p := ⟨w.heap.size + 1, 1, none⟩) (Nat.le_succ _) y⟩
theorem PW.cells {w W : World} (h : PW w W) : W.cell? ⟨w.heap.size, 0, none⟩ = some (.string ⟨#[]⟩) ∧ W.cell? ⟨w.heap.size, 1, none⟩ = some (.string ⟨#[]⟩) ∧ W.cell? ⟨w.heap.size, 2, none⟩ = some (.string ⟨#[]⟩) ∧ W.cell? ⟨w.heap.size, 3, none⟩ = some (.bool false) ∧
    W.cell? ⟨w.heap.size + 1, 0, none⟩ = some (.int .i64 0) ∧ W.cell? ⟨w.heap.size + 1, 1, none⟩ = some (.int .i64 0) :=
  ⟨cell_at 0 h.eR rfl, cell_at 1 h.eR rfl, cell_at 2 h.eR rfl, cell_at 3 h.eR rfl, cell_at 0 h.eF rfl, cell_at 1 h.eF rfl⟩
theorem PW.frees {w W : World} (h : PW w W) : W.frozen? ⟨w.heap.size, 0, none⟩ = false ∧ W.frozen? ⟨w.heap.size, 1, none⟩ = false ∧ W.frozen? ⟨w.heap.size, 2, none⟩ = false ∧ W.frozen? ⟨w.heap.size, 3, none⟩ = false ∧
    W.frozen? ⟨w.heap.size + 1, 0, none⟩ = false ∧ W.frozen? ⟨w.heap.size + 1, 1, none⟩ = false :=
  ⟨one_free 0 h.eR, one_free 1 h.eR, one_free 2 h.eR, one_free 3 h.eR, one_free 0 h.eF, one_free 1 h.eF⟩

theorem RRun00 (s : ByteArray) (w : World) (hs : s.size ≤ 9223372036854775000) :
    Calls Try.prog 23 #[.string s, .int .i64 0, .int .i64 1] w fun e w' => e = .returned (.int .i64 (runL 1 s.data.toList : Int)) ∧ w' = w := by
  have R := RRun_any s 0 1 w (by unfold maxLen; omega)
  have hI : runI s.data.toList 0 1 = (runL 1 s.data.toList : Int) := by have := runI_in s 0 1 (Nat.zero_le _); simpa using this
  rwa [hI] at R

end Go.Proofs.Ytmcabgjcppnihaa
