/-
  Plain laws: pieces hang together: each begins behind the separator at which the one ahead of it ends, and the last ends with the text.
-/
import Derived.Test.YtglceodiajbhiaaWm
namespace Go.Proofs.Ytglceodiajbhiaa

/-- Pieces from place a on: where each ends stands the separator, at the last one's end the text's end; none lies within. -/
def Hang (l : List UInt8) (sep : UInt8) : Nat → List (Nat × Nat) → Prop
  | _, [] => False
  | a, (x, y) :: r => x = a ∧ a ≤ y ∧ y ≤ l.length ∧ (∀ i, a ≤ i → i < y → l.getD i 0 ≠ sep) ∧ ((r = [] ∧ y = l.length) ∨ (y < l.length ∧ l.getD y 0 = sep ∧ Hang l sep (y + 1) r))

theorem hang_cuts (l : List UInt8) (sep : UInt8) : ∀ (t : List UInt8) (a i : Nat), a ≤ i → l.drop i = t → i + t.length = l.length → (∀ j, a ≤ j → j < i → l.getD j 0 ≠ sep) → Hang l sep a (cutsA sep t a i)
  | [], a, i, h1, _, h3, h4 => by
    simp at h3
    unfold cutsA
    exact ⟨rfl, h1, by omega, h4, .inl ⟨rfl, h3⟩⟩
  | c :: t, a, i, h1, h2, h3, h4 => by
    have hlt : i < l.length := by simp at h3; omega
    have hd := List.drop_eq_getElem_cons hlt
    rw [hd] at h2
    have hc : l[i] = c := (List.cons.inj h2).1
    have ht : l.drop (i + 1) = t := (List.cons.inj h2).2
    have hg : l.getD i 0 = c := by simp [List.getD, hlt, hc]
    have h3' : i + 1 + t.length = l.length := by simp at h3; omega
    unfold cutsA
    split
    · rename_i e
      refine ⟨rfl, h1, by omega, h4, .inr ⟨hlt, by rw [hg, e], hang_cuts l sep t (i + 1) (i + 1) (Nat.le_refl _) ht h3' (fun j hj1 hj2 => by omega)⟩⟩
    · rename_i e
      refine hang_cuts l sep t a (i + 1) (by omega) ht h3' (fun j hj1 hj2 => ?_)
      by_cases hj : j = i
      · subst hj; rw [hg]; exact e
      · exact h4 j hj1 (by omega)

theorem hang_all (l : List UInt8) (sep : UInt8) : Hang l sep 0 (cuts sep l) :=
  hang_cuts l sep l 0 0 (Nat.le_refl _) rfl (by simp) (fun j _ h => by omega)

theorem take_one (l : List UInt8) (e : Nat) (sep : UInt8) (h : e < l.length) (hs : l.getD e 0 = sep) : l.take e ++ [sep] = l.take (e + 1) := by
  rw [List.take_succ_eq_append_getElem h]
  simp [List.getD, h] at hs
  rw [hs]
theorem take_more (l : List UInt8) (a b : Nat) (h : a ≤ b) : l.take a ++ (l.take b).drop a = l.take b := by
  have h1 : (l.take b).take a = l.take a := by rw [List.take_take]; congr 1; omega
  rw [← h1, List.take_append_drop]

theorem crEnd_in (l : List UInt8) (a b : Nat) (h : a ≤ b) : a ≤ crEnd l a b ∧ crEnd l a b ≤ b := by
  unfold crEnd
  split
  · omega
  · omega

theorem starts_cut (s : ByteArray) (a z : Nat) (h1 : a ≤ z) (h2 : z ≤ s.size) : startsL s.data.toList (a : Int) (s.extract a z).data.toList = true := by
  have e : (s.extract a z).data.toList = (s.data.toList.take z).drop a := by rw [extract_ofL, ofL_data]
  have el : ((s.data.toList.take z).drop a).length = z - a := by rw [List.length_drop, List.length_take, len_data]; omega
  unfold startsL hasP
  rw [e, el, len_data, List.drop_take, Int.toNat_natCast]
  simp
  omega

end Go.Proofs.Ytglceodiajbhiaa
