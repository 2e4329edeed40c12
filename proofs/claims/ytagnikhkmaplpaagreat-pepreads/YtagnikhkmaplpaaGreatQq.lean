/-
  Walks: the texts of versions by the document: how they grow.
-/
import Derived.Test.YtagnikhkmaplpaaGreatQe
import Derived.Test.YtagnikhkmaplpaaGreatQj
namespace Go.Proofs.YtagnikhkmaplpaaGreat
open Go.RowKit Go.Shelf
set_option linter.unusedVariables false

theorem catC (T lit : ByteArray) (r : List UInt8) : ∃ t1 t2 : ByteArray, T ++ lit = t1 ∧ t1 ++ ofL r = t2 ∧ t1.size = T.size + lit.size ∧ t2.size = T.size + lit.size + r.length ∧ t2.data.toList = T.data.toList ++ (lit.data.toList ++ r) := by
  obtain ⟨t1, e1, s1, d1⟩ := cat_step T lit
  obtain ⟨t2, e2, s2, d2⟩ := cat_step t1 (ofL r)
  refine ⟨t1, t2, e1, e2, s1, ?_, ?_⟩
  · rw [s2, s1, ofL_size]
  · rw [d2, d1, ofL_data, List.append_assoc]
/-- A local row's text. -/
def locQ (ts : List (List UInt8)) : List UInt8 := if ts = [] then [] else 43 :: joinL ts
theorem locQ_len (ts : List (List UInt8)) : (locQ ts).length ≤ lenI ts + 1 := by
  have := joinL_len ts
  unfold locQ
  split
  · simp
  · simp; omega
theorem loc_0 (Q t : List UInt8) (loc : List (List UInt8)) (h : 0 < loc.length) (ht : loc[0] = t) : ∃ M : ByteArray, ofL (Q ++ locQ (loc.take 0)) ++ ⟨#[43]⟩ = M ∧ M ++ ofL t = ofL (Q ++ locQ (loc.take 1)) ∧ M.size = (Q ++ locQ (loc.take 0)).length + 1 := by
  obtain ⟨M, e, s, d⟩ := cat_step (ofL (Q ++ locQ (loc.take 0))) ⟨#[43]⟩
  refine ⟨M, e, ?_, by rw [s, ofL_size]; rfl⟩
  apply ba_ext
  obtain ⟨N, e2, _, d2⟩ := cat_step M (ofL t)
  rw [e2, d2, d, ofL_data, ofL_data, ofL_data]
  cases loc with
  | nil => simp at h
  | cons u r =>
    have : u = t := ht
    subst this
    simp [locQ, joinL, dotted]
theorem loc_n (Q t : List UInt8) (loc : List (List UInt8)) (j : Nat) (h : j < loc.length) (ht : loc[j] = t) (hj : j ≠ 0) : ∃ M : ByteArray, ofL (Q ++ locQ (loc.take j)) ++ ⟨#[46]⟩ = M ∧ M ++ ofL t = ofL (Q ++ locQ (loc.take (j + 1))) ∧ M.size = (Q ++ locQ (loc.take j)).length + 1 := by
  obtain ⟨M, e, s, d⟩ := cat_step (ofL (Q ++ locQ (loc.take j))) ⟨#[46]⟩
  refine ⟨M, e, ?_, by rw [s, ofL_size]; rfl⟩
  apply ba_ext
  obtain ⟨N, e2, _, d2⟩ := cat_step M (ofL t)
  rw [e2, d2, d, ofL_data, ofL_data, ofL_data, List.take_succ_eq_append_getElem h, ht]
  cases hx : loc.take j with
  | nil => exfalso; have := congrArg List.length hx; rw [List.length_take, List.length_nil] at this; omega
  | cons u r =>
    unfold locQ
    rw [if_neg (by simp), if_neg (by simp), joinL_snoc]
    simp

end Go.Proofs.YtagnikhkmaplpaaGreat
