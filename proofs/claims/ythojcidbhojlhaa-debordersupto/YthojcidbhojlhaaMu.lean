/-
  Plain laws: where two rising lists are parted so that they may be merged each for itself; no program is named here.
-/
import Derived.Test.YthojcidbhojlhaaMt
namespace Go.Proofs.Ythojcidbhojlhaa
set_option linter.unusedVariables false

section
variable {α : Type} {f : α → α → Int}
theorem srt_idx (h : Cmp3 f) {l : List α} (hs : Srt f l) {i j : Nat} {x y : α} (hij : i ≤ j) (hx : l[i]? = some x) (hy : l[j]? = some y) : f x y ≤ 0 := by
  obtain ⟨hi, rfl⟩ := List.getElem?_eq_some_iff.1 hx
  obtain ⟨hj, rfl⟩ := List.getElem?_eq_some_iff.1 hy
  by_cases e : i = j
  · subst e; rw [h.self]; exact Int.le_refl _
  · exact (List.pairwise_iff_getElem.1 hs) i j hi hj (by omega)
theorem mem_take {l : List α} {n : Nat} {x : α} (h : x ∈ l.take n) : ∃ i, i < n ∧ l[i]? = some x := by
  obtain ⟨i, hi, rfl⟩ := List.mem_iff_getElem.1 h
  rw [List.length_take] at hi
  exact ⟨i, by omega, by rw [List.getElem_take]; exact List.getElem?_eq_getElem (by omega)⟩
theorem mem_drop {l : List α} {n : Nat} {x : α} (h : x ∈ l.drop n) : ∃ i, n ≤ i ∧ l[i]? = some x := by
  obtain ⟨i, hi, rfl⟩ := List.mem_iff_getElem.1 h
  rw [List.length_drop] at hi
  exact ⟨n + i, by omega, by rw [List.getElem_drop]; exact List.getElem?_eq_getElem (by omega)⟩
/-- Two rising lists, parted. -/
theorem sym_parts (h : Cmp3 f) {L R : List α} (hL : Srt f L) (hR : Srt f R) (s e : Nat)
    (lo : s = 0 ∨ e = R.length ∨ ∃ l r, L[s - 1]? = some l ∧ R[e]? = some r ∧ ¬ f r l < 0)
    (hi : s = L.length ∨ e = 0 ∨ ∃ l r, L[s]? = some l ∧ R[e - 1]? = some r ∧ f r l < 0) :
    mrg f L R = mrg f (L.take s) (R.take e) ++ mrg f (L.drop s) (R.drop e) := by
  have := mrg_parts f (L.take s) (L.drop s) (R.take e) (R.drop e) ?_ ?_
  · rw [List.take_append_drop, List.take_append_drop] at this; exact this
  · intro l hl r hr
    obtain ⟨i, hi', hx⟩ := mem_take hl
    obtain ⟨j, hj, hy⟩ := mem_drop hr
    have hjl := (List.getElem?_eq_some_iff.1 hy).1
    rcases lo with h0 | h0 | ⟨l0, r0, h1, h2, h3⟩
    · omega
    · omega
    · intro hc
      have a1 := srt_idx h hL (show i ≤ s - 1 by omega) hx h1
      have a2 := srt_idx h hR hj h2 hy
      exact h3 (h.le_lt a2 (h.lt_le hc a1))
  · intro r hr l hl
    obtain ⟨i, hi', hx⟩ := mem_drop hl
    obtain ⟨j, hj, hy⟩ := mem_take hr
    have hil := (List.getElem?_eq_some_iff.1 hx).1
    rcases hi with h0 | h0 | ⟨l0, r0, h1, h2, h3⟩
    · omega
    · omega
    · have a1 := srt_idx h hL hi' h1 hx
      have a2 := srt_idx h hR (show j ≤ e - 1 by omega) hy h2
      exact h.le_lt a2 (h.lt_le h3 a1)
theorem one_l (h : Cmp3 f) {R : List α} (hR : Srt f R) (x : α) (e : Nat) (lo : e = R.length ∨ ∃ r, R[e]? = some r ∧ ¬ f r x < 0) (hi : e = 0 ∨ ∃ r, R[e - 1]? = some r ∧ f r x < 0) :
    mrg f [x] R = R.take e ++ x :: R.drop e := by
  have := sym_parts h (List.pairwise_singleton _ x : Srt f [x]) hR 0 e (.inl rfl) (by
    rcases hi with h0 | ⟨r, h1, h2⟩
    · exact .inr (.inl h0)
    · exact .inr (.inr ⟨x, r, rfl, h1, h2⟩))
  rw [this, List.take_zero, List.drop_zero, mrg_nil_l]
  congr 1
  have := sym_parts h (List.pairwise_singleton _ x : Srt f [x]) (List.Pairwise.sublist (List.drop_sublist e R) hR : Srt f (R.drop e)) 1 0 (by
    rcases lo with h0 | ⟨r, h1, h2⟩
    · exact .inr (.inl (by rw [List.length_drop]; omega))
    · exact .inr (.inr ⟨x, r, rfl, by rw [List.getElem?_drop, Nat.add_zero]; exact h1, h2⟩)) (.inl rfl)
  rw [this]
  simp [mrg_nil_l, mrg_nil_r]
theorem one_r (h : Cmp3 f) {L : List α} (hL : Srt f L) (y : α) (s : Nat) (lo : s = 0 ∨ ∃ l, L[s - 1]? = some l ∧ ¬ f y l < 0) (hi : s = L.length ∨ ∃ l, L[s]? = some l ∧ f y l < 0) :
    mrg f L [y] = L.take s ++ y :: L.drop s := by
  have := sym_parts h hL (List.pairwise_singleton _ y : Srt f [y]) s 0 (by
    rcases lo with h0 | ⟨l, h1, h2⟩
    · exact .inl h0
    · exact .inr (.inr ⟨l, y, h1, rfl, h2⟩)) (.inr (.inl rfl))
  rw [this, List.take_zero, List.drop_zero, mrg_nil_r]
  congr 1
  have := sym_parts h (List.Pairwise.sublist (List.drop_sublist s L) hL : Srt f (L.drop s)) (List.pairwise_singleton _ y : Srt f [y]) 0 1 (.inl rfl) (by
    rcases hi with h0 | ⟨l, h1, h2⟩
    · exact .inl (by rw [List.length_drop]; omega)
    · exact .inr (.inr ⟨l, y, by rw [List.getElem?_drop, Nat.add_zero]; exact h1, rfl, h2⟩))
  rw [this]
  simp [mrg_nil_l, mrg_nil_r]
end

end Go.Proofs.Ythojcidbhojlhaa
