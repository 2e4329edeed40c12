/-
  Plain laws: exchanging and turning ranges of a list; no program is named here.
-/
import Derived.Test.YthojcidbhojlhaaSb
namespace Go.Proofs.Ythojcidbhojlhaa
set_option linter.unusedVariables false

theorem swp_parts {α : Type} (A C D : List α) (x y : α) : swp (A ++ x :: (C ++ y :: D)) A.length (A.length + 1 + C.length) = A ++ y :: (C ++ x :: D) := by
  have hx : (A ++ x :: (C ++ y :: D))[A.length]? = some x := by simp
  have hy : (A ++ x :: (C ++ y :: D))[A.length + 1 + C.length]? = some y := by
    rw [List.getElem?_append_right (by omega), show A.length + 1 + C.length - A.length = C.length + 1 by omega, List.getElem?_cons_succ]; simp
  rw [swp_at hx hy, List.set_append_right _ _ (Nat.le_refl _), Nat.sub_self, List.set_cons_zero, List.set_append_right _ _ (by omega), show A.length + 1 + C.length - A.length = C.length + 1 by omega, List.set_cons_succ, List.set_append_right _ _ (Nat.le_refl _), Nat.sub_self, List.set_cons_zero]
theorem swr_parts {α : Type} : ∀ (U V P M S : List α), U.length = V.length → swr U.length (P ++ (U ++ (M ++ (V ++ S)))) P.length (P.length + U.length + M.length) = P ++ (V ++ (M ++ (U ++ S)))
  | [], V, P, M, S, h => by
    have : V = [] := List.length_eq_zero_iff.1 h.symm
    subst this
    rfl
  | u :: U, [], P, M, S, h => by simp at h
  | u :: U, v :: V, P, M, S, h => by
    have e1 : P ++ (u :: U ++ (M ++ (v :: V ++ S))) = P ++ u :: ((U ++ M) ++ v :: (V ++ S)) := by simp
    have e2 : P ++ v :: ((U ++ M) ++ u :: (V ++ S)) = (P ++ [v]) ++ (U ++ ((M ++ [u]) ++ (V ++ S))) := by simp
    have ih := swr_parts U V (P ++ [v]) (M ++ [u]) S (by simpa using h)
    rw [List.length_cons, swr, e1, show P.length + (U.length + 1) + M.length = P.length + 1 + (U ++ M).length by rw [List.length_append]; omega, swp_parts, e2]
    have el : P.length + 1 = (P ++ [v]).length := by simp
    have eb : P.length + 1 + (U ++ M).length + 1 = (P ++ [v]).length + U.length + (M ++ [u]).length := by simp; omega
    rw [el] at eb ⊢
    rw [eb, ih]
    simp
theorem swr_len {α : Type} : ∀ (n : Nat) (xs : List α) (a b : Nat), (swr n xs a b).length = xs.length
  | 0, xs, _, _ => rfl
  | n + 1, xs, a, b => by rw [swr, swr_len n, swp_len]
theorem split_at {α : Type} (l : List α) (n : Nat) (h : n ≤ l.length) : ∃ a b, l = a ++ b ∧ a.length = n ∧ b.length = l.length - n :=
  ⟨l.take n, l.drop n, (List.take_append_drop n l).symm, by rw [List.length_take]; omega, List.length_drop⟩

end Go.Proofs.Ythojcidbhojlhaa
