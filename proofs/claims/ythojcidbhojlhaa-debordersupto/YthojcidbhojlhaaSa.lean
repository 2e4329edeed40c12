/-
  A row of structs in one block: reading, exchanging.
-/
import Derived.Test.YthojcidbhojlhaaMs
import Derived.BigRegion
namespace Go.Proofs.Ythojcidbhojlhaa
open Go.RowKit Go.Shelf
set_option linter.unusedVariables false

/-- A struct's cells. -/
structure Cel (α : Type) where
  c0 : α → ByteArray
  c1 : α → ByteArray
  c2 : α → ByteArray
  c3 : α → ByteArray
  c4 : α → Bool
section
variable {α : Type} (E : Cel α)
def Cel.row (x : α) : List Value := [.string (E.c0 x), .string (E.c1 x), .string (E.c2 x), .string (E.c3 x), .bool (E.c4 x)]
def Cel.val (x : α) : Value := .agg #[.string (E.c0 x), .string (E.c1 x), .string (E.c2 x), .string (E.c3 x), .bool (E.c4 x)]
def Cel.flat (xs : List α) : List Value := xs.flatMap E.row
theorem flat_cons (x : α) (xs : List α) : E.flat (x :: xs) = E.row x ++ E.flat xs := rfl
theorem flat_len : ∀ xs : List α, (E.flat xs).length = xs.length * 5
  | [] => rfl
  | x :: xs => by rw [flat_cons, List.length_append, flat_len xs, List.length_cons]; simp [Cel.row]; omega
theorem flat_at : ∀ (xs : List α) (i : Nat) (x : α), xs[i]? = some x → (E.flat xs)[i * 5]? = some (.string (E.c0 x)) ∧ (E.flat xs)[i * 5 + 1]? = some (.string (E.c1 x)) ∧ (E.flat xs)[i * 5 + 2]? = some (.string (E.c2 x)) ∧ (E.flat xs)[i * 5 + 3]? = some (.string (E.c3 x)) ∧ (E.flat xs)[i * 5 + 4]? = some (.bool (E.c4 x))
  | [], i, x, h => by simp at h
  | y :: xs, 0, x, h => by
    simp at h; subst h
    rw [flat_cons]
    exact ⟨rfl, rfl, rfl, rfl, rfl⟩
  | y :: xs, i + 1, x, h => by
    have ih := flat_at xs i x (by simpa using h)
    have hl : (E.row y).length = 5 := rfl
    have e : ∀ j, (E.flat (y :: xs))[(i + 1) * 5 + j]? = (E.flat xs)[i * 5 + j]? := fun j => by
      rw [flat_cons, List.getElem?_append_right (by rw [hl]; omega), hl]
      congr 1; omega
    obtain ⟨h0, h1, h2, h3, h4⟩ := ih
    exact ⟨(e 0).trans h0, (e 1).trans h1, (e 2).trans h2, (e 3).trans h3, (e 4).trans h4⟩
theorem flat_set : ∀ (xs : List α) (i : Nat) (y : α), i < xs.length → ((((((E.flat xs).set (i * 5) (.string (E.c0 y))).set (i * 5 + 1) (.string (E.c1 y))).set (i * 5 + 2) (.string (E.c2 y))).set (i * 5 + 3) (.string (E.c3 y))).set (i * 5 + 4) (.bool (E.c4 y))) = E.flat (xs.set i y)
  | [], i, y, h => by simp at h
  | z :: xs, 0, y, _ => rfl
  | z :: xs, i + 1, y, h => by
    have ih := flat_set xs i y (by simpa using h)
    have hl : (E.row z).length = 5 := rfl
    have e : ∀ (L : List Value) (j : Nat) (v : Value), (E.row z ++ L).set ((i + 1) * 5 + j) v = E.row z ++ L.set (i * 5 + j) v := fun L j v => by
      rw [List.set_append_right _ _ (by rw [hl]; omega), hl]
      congr 2; omega
    rw [List.set_cons_succ, flat_cons, flat_cons, ← ih]
    have e0 := e (E.flat xs) 0 (.string (E.c0 y))
    simp only [Nat.add_zero] at e0
    rw [e0, e, e, e, e]

/-- The row lies in its block, nothing else old has turned. -/
structure DW (w0 : World) (B : Nat) (xs : List α) (W : World) : Prop where
  turn : Turn B w0 W
  cells : W.heap[B]? = some (.cells (E.flat xs).toArray 72 (0, 0))
variable {E}
theorem DW.lt {w0 : World} {B : Nat} {xs : List α} {W : World} (h : DW E w0 B xs W) : B < W.heap.size := (Array.getElem?_eq_some_iff.1 h.cells).1
theorem DW.next {w0 : World} {B : Nat} {xs : List α} {W W' : World} (h : DW E w0 B xs W) (hb : Below W.heap.size W W') : DW E w0 B xs W' :=
  ⟨h.turn.trans (Turn.ofBelow hb), (hb.block B h.lt).trans h.cells⟩
theorem DW.drew {w0 : World} {B : Nat} {xs : List α} {W : World} (h : DW E w0 B xs W) : DW E w0 B xs W.drew := ⟨⟨h.turn.os, h.turn.tape, h.turn.output, h.turn.size, h.turn.block⟩, h.cells⟩
theorem DW.seen {w0 : World} {B : Nat} {xs : List α} {W : World} (h : DW E w0 B xs W) (i : Nat) (x : α) (hx : xs[i]? = some x) : W.cell? ⟨B, i * 5, none⟩ = some (.string (E.c0 x)) ∧ W.cell? ⟨B, i * 5 + 1, none⟩ = some (.string (E.c1 x)) ∧ W.cell? ⟨B, i * 5 + 2, none⟩ = some (.string (E.c2 x)) ∧ W.cell? ⟨B, i * 5 + 3, none⟩ = some (.string (E.c3 x)) ∧ W.cell? ⟨B, i * 5 + 4, none⟩ = some (.bool (E.c4 x)) := by
  obtain ⟨h0, h1, h2, h3, h4⟩ := flat_at E xs i x hx
  exact ⟨cell_at _ h.cells (by simpa using h0), cell_at _ h.cells (by simpa using h1), cell_at _ h.cells (by simpa using h2), cell_at _ h.cells (by simpa using h3), cell_at _ h.cells (by simpa using h4)⟩
theorem DW.free {w0 : World} {B : Nat} {xs : List α} {W : World} (h : DW E w0 B xs W) (o : Nat) : W.frozen? ⟨B, o, none⟩ = false := one_free o h.cells
theorem set_list {W : World} {B : Nat} {t : TypeId} {L : List Value} {m : Nat × Nat} (o : Nat) (v : Value) (h : W.heap[B]? = some (.cells L.toArray t m)) : (W.setCell ⟨B, o, none⟩ v).heap[B]? = some (.cells (L.set o v).toArray t m) := by
  rw [set_lies o v h]
  simp
theorem DW.put {w0 : World} {B : Nat} {xs : List α} {W : World} (h : DW E w0 B xs W) (i : Nat) (y : α) (hi : i < xs.length) :
    DW E w0 B (xs.set i y) (((((W.setCell ⟨B, i * 5, none⟩ (.string (E.c0 y))).setCell ⟨B, i * 5 + 1, none⟩ (.string (E.c1 y))).setCell ⟨B, i * 5 + 2, none⟩ (.string (E.c2 y))).setCell ⟨B, i * 5 + 3, none⟩ (.string (E.c3 y))).setCell ⟨B, i * 5 + 4, none⟩ (.bool (E.c4 y))) := by
  refine ⟨(((((h.turn).trans (Turn.set B _ _ _)).trans (Turn.set B _ _ _)).trans (Turn.set B _ _ _)).trans (Turn.set B _ _ _)).trans (Turn.set B _ _ _), ?_⟩
  rw [← flat_set E xs i y hi]
  exact set_list _ _ (set_list _ _ (set_list _ _ (set_list _ _ (set_list _ _ (h.cells)))))
end

/-- Two elements exchanged. -/
def swp {α : Type} (xs : List α) (i j : Nat) : List α := match xs[i]?, xs[j]? with
  | some x, some y => (xs.set i y).set j x
  | _, _ => xs
theorem swp_at {α : Type} {xs : List α} {i j : Nat} {x y : α} (hx : xs[i]? = some x) (hy : xs[j]? = some y) : swp xs i j = (xs.set i y).set j x := by unfold swp; rw [hx, hy]
theorem swp_len {α : Type} (xs : List α) (i j : Nat) : (swp xs i j).length = xs.length := by
  unfold swp; split <;> simp
theorem some_at {α : Type} (xs : List α) (i : Nat) (h : i < xs.length) : ∃ x, xs[i]? = some x := ⟨xs[i], List.getElem?_eq_getElem h⟩
theorem DW.swap {α : Type} {E : Cel α} {w0 : World} {B : Nat} {xs : List α} {W : World} (h : DW E w0 B xs W) {i j : Nat} {x y : α} (hx : xs[i]? = some x) (hy : xs[j]? = some y) :
    DW E w0 B (swp xs i j) ((((((((((W.setCell ⟨B, i * 5, none⟩ (.string (E.c0 y))).setCell ⟨B, i * 5 + 1, none⟩ (.string (E.c1 y))).setCell ⟨B, i * 5 + 2, none⟩ (.string (E.c2 y))).setCell ⟨B, i * 5 + 3, none⟩ (.string (E.c3 y))).setCell ⟨B, i * 5 + 4, none⟩ (.bool (E.c4 y))).setCell ⟨B, j * 5, none⟩ (.string (E.c0 x))).setCell ⟨B, j * 5 + 1, none⟩ (.string (E.c1 x))).setCell ⟨B, j * 5 + 2, none⟩ (.string (E.c2 x))).setCell ⟨B, j * 5 + 3, none⟩ (.string (E.c3 x))).setCell ⟨B, j * 5 + 4, none⟩ (.bool (E.c4 x))) := by
  have hi := (List.getElem?_eq_some_iff.1 hx).1
  have hj := (List.getElem?_eq_some_iff.1 hy).1
  rw [swp_at hx hy]
  exact (h.put i y hi).put j x (by simpa using hj)

end Go.Proofs.Ythojcidbhojlhaa
