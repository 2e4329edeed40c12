/-
  Walks: rows of stages.
-/
import Derived.Test.YtagnikhkmaplpaaGreatPm
namespace Go.Proofs.YtagnikhkmaplpaaGreat
open Go.RowKit Go.Shelf
set_option linter.unusedVariables false

theorem fin53 {R : Ending → World → Prop} (tmps : Array Value) (W : World) (B : Nat) (x : Int) (y : ByteArray) (h : tmps.getD 6 undef = .pointer (some ⟨B, 0, none⟩)) (e1 : W.heap[B]? = some (.cells #[.int .u8 x, .string y] 85 (0, 0)))
    (hR : R (.returned (.agg #[.int .u8 x, .string y])) W) : bodyPost Tryz.prog Tryz.f98 R .ret { tmps := tmps, defers := [] } W := by
  have s0 := cell_at 0 e1 rfl
  have s1 := cell_at 1 e1 rfl
  rw [Array.getD_eq_getD_getElem?] at h
  refine ⟨rfl, _, ?_, hR⟩
  simp [results, Tryz.results98, go_sem, h, s0, s1]
  try rfl
theorem StgAt.lt {W : World} {B : Nat} {x y z : Int × ByteArray} (h : StgAt W B x y z) : B < W.heap.size := (Array.getElem?_eq_some_iff.1 h).1
theorem StgAt.below {W W' : World} {B : Nat} {x y z : Int × ByteArray} (h : StgAt W B x y z) (hb : Below W.heap.size W W') : StgAt W' B x y z := (hb.block B h.lt).trans h
theorem StgAt.seen {W : World} {B : Nat} {x y z : Int × ByteArray} (k : StgAt W B x y z) :
    W.cell? ⟨B, 0, none⟩ = some (.int .u8 x.1) ∧ W.cell? ⟨B, 1, none⟩ = some (.string x.2) ∧ W.cell? ⟨B, 2, none⟩ = some (.int .u8 y.1) ∧ W.cell? ⟨B, 3, none⟩ = some (.string y.2) ∧ W.cell? ⟨B, 4, none⟩ = some (.int .u8 z.1) ∧ W.cell? ⟨B, 5, none⟩ = some (.string z.2) :=
  ⟨cell_at 0 k rfl, cell_at 1 k rfl, cell_at 2 k rfl, cell_at 3 k rfl, cell_at 4 k rfl, cell_at 5 k rfl⟩

set_option maxRecDepth 100000 in
set_option maxHeartbeats 1000000 in
theorem partS0_any (B : Nat) (x y z : Int × ByteArray) (dc : Int) (dn : ByteArray) (w : World) (h : StgAt w B x y z) :
    Calls Tryz.prog 98 #[.slice (some ⟨B, 0, none⟩) 3 3, .int .i64 0, .agg #[.int .u8 dc, .string dn]] w fun r w' => r = .returned (.agg #[.int .u8 x.1, .string x.2]) ∧ Below w.heap.size w w' := by
  have hB := h.lt
  have q := fun o1 o2 : Obj => ((h.below ((Below.refl _ _).alloc (Nat.le_refl _) o1)).below ((Below.refl _ _).alloc (Nat.le_refl _) o2)).seen
  obtain ⟨x1, x2⟩ := x
  obtain ⟨y1, y2⟩ := y
  obtain ⟨z1, z2⟩ := z
  simp only at q ⊢
  clear h
  go_enter Tryz.func98, Tryz.ntmps98
  go_wp2_with fail
  refine fin53 _ _ (w.heap.size + 1) x1 x2 rfl (new_at (by simp)) ?_
  exact ⟨rfl, ((Below.refl w.heap.size w).alloc (Nat.le_refl _) _).alloc (by simp) _⟩

set_option maxRecDepth 100000 in
set_option maxHeartbeats 1000000 in
theorem partS1_any (B : Nat) (x y z : Int × ByteArray) (dc : Int) (dn : ByteArray) (w : World) (h : StgAt w B x y z) :
    Calls Tryz.prog 98 #[.slice (some ⟨B, 0, none⟩) 3 3, .int .i64 1, .agg #[.int .u8 dc, .string dn]] w fun r w' => r = .returned (.agg #[.int .u8 y.1, .string y.2]) ∧ Below w.heap.size w w' := by
  have hB := h.lt
  have q := fun o1 o2 : Obj => ((h.below ((Below.refl _ _).alloc (Nat.le_refl _) o1)).below ((Below.refl _ _).alloc (Nat.le_refl _) o2)).seen
  obtain ⟨x1, x2⟩ := x
  obtain ⟨y1, y2⟩ := y
  obtain ⟨z1, z2⟩ := z
  simp only at q ⊢
  clear h
  go_enter Tryz.func98, Tryz.ntmps98
  go_wp2_with fail
  refine fin53 _ _ (w.heap.size + 1) y1 y2 rfl (new_at (by simp)) ?_
  exact ⟨rfl, ((Below.refl w.heap.size w).alloc (Nat.le_refl _) _).alloc (by simp) _⟩

set_option maxRecDepth 100000 in
set_option maxHeartbeats 1000000 in
theorem partS2_any (B : Nat) (x y z : Int × ByteArray) (dc : Int) (dn : ByteArray) (w : World) (h : StgAt w B x y z) :
    Calls Tryz.prog 98 #[.slice (some ⟨B, 0, none⟩) 3 3, .int .i64 2, .agg #[.int .u8 dc, .string dn]] w fun r w' => r = .returned (.agg #[.int .u8 z.1, .string z.2]) ∧ Below w.heap.size w w' := by
  have hB := h.lt
  have q := fun o1 o2 : Obj => ((h.below ((Below.refl _ _).alloc (Nat.le_refl _) o1)).below ((Below.refl _ _).alloc (Nat.le_refl _) o2)).seen
  obtain ⟨x1, x2⟩ := x
  obtain ⟨y1, y2⟩ := y
  obtain ⟨z1, z2⟩ := z
  simp only at q ⊢
  clear h
  go_enter Tryz.func98, Tryz.ntmps98
  go_wp2_with fail
  refine fin53 _ _ (w.heap.size + 1) z1 z2 rfl (new_at (by simp)) ?_
  exact ⟨rfl, ((Below.refl w.heap.size w).alloc (Nat.le_refl _) _).alloc (by simp) _⟩

end Go.Proofs.YtagnikhkmaplpaaGreat
