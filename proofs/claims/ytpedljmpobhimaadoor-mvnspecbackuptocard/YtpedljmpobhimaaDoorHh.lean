/-
  Rows of ranges in memory.
-/
import Derived.Test.YtpedljmpobhimaaDoorHg
namespace Go.Proofs.YtpedljmpobhimaaDoor
open Go.RowKit Go.Shelf
set_option linter.unusedVariables false

def rowM (m : Mr) : List Value := [.bool m.hasLo, .string (ofL m.lo), .bool m.loIn, .bool m.hasHi, .string (ofL m.hi), .bool m.hiIn]
def flatM (ms : List Mr) : List Value := ms.flatMap rowM
theorem flatM_cons (x : Mr) (xs : List Mr) : flatM (x :: xs) = rowM x ++ flatM xs := rfl
theorem flatM_snoc (x : Mr) (xs : List Mr) : flatM (xs ++ [x]) = flatM xs ++ rowM x := by simp [flatM]
theorem flatM_len : ∀ xs : List Mr, (flatM xs).length = xs.length * 6
  | [] => rfl
  | x :: xs => by rw [flatM_cons, List.length_append, flatM_len xs]; simp [rowM]; omega
theorem rowM_one (m : Mr) : ∀ u ∈ rowM m, u.oneCell' = true := by
  intro u hu
  simp only [rowM, List.mem_cons, List.not_mem_nil, or_false] at hu
  rcases hu with rfl | rfl | rfl | rfl | rfl | rfl <;> rfl
/-- The cells of a row of ranges. -/
def MRow (W : World) (b off : Nat) (ms : List Mr) : Prop := ∀ j u, (flatM ms)[j]? = some u → W.cell? ⟨b, off + j, none⟩ = some u
theorem MRow.of_block {W W' : World} {b off : Nat} {ms : List Mr} (h : MRow W b off ms) (hb : W'.heap[b]? = W.heap[b]?) : MRow W' b off ms := by
  intro j u hj
  have := h j u hj
  simp only [World.cell?] at this ⊢
  rw [hb]
  exact this
theorem flatM_at : ∀ (xs : List Mr) (i : Nat) (x : Mr), xs[i]? = some x → ∀ k u, (rowM x)[k]? = some u → (flatM xs)[i * 6 + k]? = some u
  | [], i, x, h, _, _, _ => by simp at h
  | y :: ys, 0, x, h, k, u, hu => by
    simp only [List.getElem?_cons_zero, Option.some.injEq] at h
    subst h
    have := (List.getElem?_eq_some_iff.1 hu).1
    rw [flatM_cons, Nat.zero_mul, Nat.zero_add, List.getElem?_append_left this]
    exact hu
  | y :: ys, i + 1, x, h, k, u, hu => by
    rw [List.getElem?_cons_succ] at h
    have ih := flatM_at ys i x h k u hu
    have hl : (rowM y).length = 6 := rfl
    rw [flatM_cons, List.getElem?_append_right (by omega), hl, show (i + 1) * 6 + k - 6 = i * 6 + k by omega]
    exact ih
/-- The six cells of one range of a row. -/
theorem MRow.six {W : World} {b off : Nat} {ms : List Mr} (h : MRow W b off ms) (i : Nat) (m : Mr) (hi : ms[i]? = some m) :
    W.cell? ⟨b, off + i * 6, none⟩ = some (.bool m.hasLo) ∧ W.cell? ⟨b, off + i * 6 + 1, none⟩ = some (.string (ofL m.lo)) ∧ W.cell? ⟨b, off + i * 6 + 2, none⟩ = some (.bool m.loIn) ∧
    W.cell? ⟨b, off + i * 6 + 3, none⟩ = some (.bool m.hasHi) ∧ W.cell? ⟨b, off + i * 6 + 4, none⟩ = some (.string (ofL m.hi)) ∧ W.cell? ⟨b, off + i * 6 + 5, none⟩ = some (.bool m.hiIn) := by
  have f := fun k u hu => h (i * 6 + k) u (flatM_at ms i m hi k u hu)
  simp only [← Nat.add_assoc] at f
  exact ⟨f 0 _ rfl, f 1 _ rfl, f 2 _ rfl, f 3 _ rfl, f 4 _ rfl, f 5 _ rfl⟩
/-- A slice of ranges in memory. -/
def Mrs (W : World) (v : Value) (ms : List Mr) : Prop :=
  ∃ a cap, v = .slice a ms.length cap ∧ (ms = [] ∨ ∃ b off, a = some ⟨b, off, none⟩ ∧ b < W.heap.size ∧ MRow W b off ms)
theorem Mrs.below {W W' : World} {v : Value} {ms : List Mr} (h : Mrs W v ms) (hb : Below W.heap.size W W') : Mrs W' v ms := by
  obtain ⟨a, cap, hv, h0 | ⟨b, off, ha, hlt, hc⟩⟩ := h
  · exact ⟨a, cap, hv, .inl h0⟩
  · exact ⟨a, cap, hv, .inr ⟨b, off, ha, Nat.lt_of_lt_of_le hlt hb.size, hc.of_block (hb.block b hlt)⟩⟩
theorem Mrs.nil (W : World) (cap : Nat) (a : Option Addr) : Mrs W (.slice a 0 cap) [] := ⟨a, cap, rfl, .inl rfl⟩
/-- A row of the call's own, in a block that came later. -/
def MrsN (n : Nat) (W : World) (v : Value) (ms : List Mr) : Prop := ∃ a cap, v = .slice a ms.length cap ∧ (ms = [] ∨ ∃ b sp, a = some ⟨b, 0, none⟩ ∧ n ≤ b ∧ W.heap[b]? = some (.cells (flatM ms ++ sp).toArray 37 (0, 0)))
theorem MrsN.mrs {n : Nat} {W : World} {v : Value} {ms : List Mr} (h : MrsN n W v ms) : Mrs W v ms := by
  obtain ⟨a, cap, hv, h0 | ⟨b, sp, ha, hn, hh⟩⟩ := h
  · exact ⟨a, cap, hv, .inl h0⟩
  · refine ⟨a, cap, hv, .inr ⟨b, 0, ha, (Array.getElem?_eq_some_iff.1 hh).1, ?_⟩⟩
    intro j u hj
    refine cell_at _ hh ?_
    rw [Nat.zero_add, List.getElem?_toArray, List.getElem?_append_left (List.getElem?_eq_some_iff.1 hj).1]
    exact hj
theorem MrsN.past {n n₀ : Nat} {W W' : World} {v : Value} {ms : List Mr} (h : MrsN n W v ms) (hp : Past n₀ W W') : MrsN n W' v ms := by
  obtain ⟨a, cap, hv, h0 | ⟨b, sp, ha, hn, hh⟩⟩ := h
  · exact ⟨a, cap, hv, .inl h0⟩
  · exact ⟨a, cap, hv, .inr ⟨b, sp, ha, hn, hp.2 _ _ hh rfl⟩⟩
theorem MrsN.other {n : Nat} {W : World} {v : Value} {ms : List Mr} (h : MrsN n W v ms) (B o : Nat) (u : Value) (hB : B < n) : MrsN n (W.setCell ⟨B, o, none⟩ u) v ms := by
  obtain ⟨a, cap, hv, h0 | ⟨b, sp, ha, hn, hh⟩⟩ := h
  · exact ⟨a, cap, hv, .inl h0⟩
  · exact ⟨a, cap, hv, .inr ⟨b, sp, ha, hn, (Below.heap_setCell _ _ _ _ (by simp only; omega)).trans hh⟩⟩
theorem own_mrs {W : World} {base : Nat} {v : Value} {ms : List Mr} (h : W.ownsRow base 37 6 v ms.length (flatM ms)) : MrsN base W v ms := by
  rcases h.2 with ⟨rfl, h0⟩ | ⟨g, cap, cur, rfl, hg, hh, _, _, hsz, ht⟩
  · exact ⟨none, 0, by rw [h0], .inl (List.length_eq_zero_iff.1 h0)⟩
  · have e : cur.toList = flatM ms ++ cur.toList.drop (ms.length * 6) := by rw [← ht, List.take_append_drop]
    exact ⟨_, cap, rfl, .inr ⟨g, cur.toList.drop (ms.length * 6), rfl, hg, by rw [← e]; simpa using hh⟩⟩
theorem cell_six_new (w : World) (e : TypeId) (x y z p q r : Value) : ∀ j u, [x, y, z, p, q, r][j]? = some u → (w.alloc (.cells #[x, y, z, p, q, r] e)).cell? ((⟨w.heap.size, 0, none⟩ : Addr).add j) = some u := by
  intro j u hj
  have h := fun j => World.cell?_alloc_mark w #[x, y, z, p, q, r] e (0, 0) j
  match j, hj with
  | 0, hj => simp at hj; subst hj; exact h 0
  | 1, hj => simp at hj; subst hj; exact h 1
  | 2, hj => simp at hj; subst hj; exact h 2
  | 3, hj => simp at hj; subst hj; exact h 3
  | 4, hj => simp at hj; subst hj; exact h 4
  | 5, hj => simp at hj; subst hj; exact h 5
theorem Tryd.info37 : (Tryd.prog.info? 37).map (fun i => (i.zero, i.size, i.bytes)) = some (some (.agg #[.bool false, .string .empty, .bool false, .bool false, .string .empty, .bool false]), 6, 56) := by kernel_rfl
theorem app_blocksM {W w1 : World} {B0 : Nat} {v : Value} {k : Nat} {xs : List Value} {tmp : Obj} (hr : W.ownsRow B0 37 6 v k xs) (hS : B0 ≤ W.heap.size) (hg : (W.alloc tmp).grownBy w1 v.ownBlock) : (∀ k, k < B0 → w1.heap[k]? = W.heap[k]?) ∧ KeepsOthers W w1 := by
  refine ⟨fun k hk => (hg.block k (by simp; omega) (fun e => ?_)).trans (Below.heap_alloc _ _ _ (by omega)), (KeepsOthers.alloc W tmp).trans (KeepsOthers.of_grownBy hg fun j o ej hj => ?_)⟩
  · rcases hr.2 with ⟨h1, _⟩ | ⟨g, cap', cur, h1, hg, _⟩
    · rw [h1] at e; cases e
    · rw [h1] at e
      simp only [Value.ownBlock, Option.some.injEq] at e
      omega
  · rcases (hr.alloc tmp).2 with ⟨h1, _⟩ | ⟨g, cap', cur, h1, _, hgb, _⟩
    · rw [h1] at ej; cases ej
    · rw [h1] at ej
      simp only [Value.ownBlock, Option.some.injEq] at ej
      subst ej
      rw [hgb] at hj; cases hj; rfl

end Go.Proofs.YtpedljmpobhimaaDoor
