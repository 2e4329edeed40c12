/-
  Plain laws: the stable merge of two lists, the stable sort, and what the sort's steps make of a list; no program is named here.
-/
import Derived.Test.YtkngmgdcnplkgaaPlainT
import Derived.Test.YtkngmgdcnplkgaaRa
import Derived.BigRegion
import Derived.Deep.RegionHeld3
import Derived.WalkLawsBesides
namespace Go.Proofs.Ytkngmgdcnplkgaa
set_option linter.unusedVariables false

section
variable {α : Type} (f : α → α → Int)

/-- The stable merge: what stands right goes ahead where it is less. -/
def mrg : List α → List α → List α
  | [], R => R
  | L, [] => L
  | x :: L, y :: R => if f y x < 0 then y :: mrg (x :: L) R else x :: mrg L (y :: R)
termination_by L R => L.length + R.length
theorem mrg_nil_l (R : List α) : mrg f [] R = R := by unfold mrg; rfl
theorem mrg_nil_r (L : List α) : mrg f L [] = L := by cases L <;> (unfold mrg; rfl)
theorem mrg_cons (x y : α) (L R : List α) : mrg f (x :: L) (y :: R) = if f y x < 0 then y :: mrg f (x :: L) R else x :: mrg f L (y :: R) := by
  rw [mrg.eq_def]
theorem mrg_len : ∀ (n : Nat) (L R : List α), L.length + R.length ≤ n → (mrg f L R).length = L.length + R.length
  | n, [], R, _ => by rw [mrg_nil_l]; simp
  | n, x :: L, [], _ => by rw [mrg_nil_r]; simp
  | 0, x :: L, y :: R, h => by simp at h
  | n + 1, x :: L, y :: R, h => by
    rw [mrg_cons]
    simp only [List.length_cons] at h
    split
    · rw [List.length_cons, mrg_len n (x :: L) R (by simp only [List.length_cons]; omega)]; simp only [List.length_cons]; omega
    · rw [List.length_cons, mrg_len n L (y :: R) (by simp only [List.length_cons]; omega)]; simp only [List.length_cons]; omega
theorem mrg_length (L R : List α) : (mrg f L R).length = L.length + R.length := mrg_len f _ L R (Nat.le_refl _)
/-- What two lists are made of, merged each for itself. -/
theorem mrg_split : ∀ (n : Nat) (L1 L2 R1 R2 : List α), L1.length + R1.length ≤ n → (∀ l ∈ L1, ∀ r ∈ R2, ¬ f r l < 0) → (∀ r ∈ R1, ∀ l ∈ L2, f r l < 0) → mrg f (L1 ++ L2) (R1 ++ R2) = mrg f L1 R1 ++ mrg f L2 R2
  | n, [], L2, [], R2, _, _, _ => by rw [mrg_nil_l]; rfl
  | 0, x :: L1, L2, R1, R2, h, _, _ => by simp at h
  | 0, [], L2, y :: R1, R2, h, _, _ => by simp at h
  | n + 1, [], L2, y :: R1, R2, h, h1, h2 => by
    simp only [List.length_cons, List.length_nil] at h
    have ih := mrg_split n [] L2 R1 R2 (by simp only [List.length_nil]; omega) h1 (fun r hr => h2 r (List.mem_cons_of_mem _ hr))
    rw [List.nil_append, mrg_nil_l] at ih ⊢
    cases L2 with
    | nil => rw [mrg_nil_l, mrg_nil_l]
    | cons x L2 => rw [List.cons_append, mrg_cons, if_pos (h2 y List.mem_cons_self x List.mem_cons_self), ih]; rfl
  | n + 1, x :: L1, L2, [], R2, h, h1, h2 => by
    simp only [List.length_cons, List.length_nil] at h
    have ih := mrg_split n L1 L2 [] R2 (by simp only [List.length_nil]; omega) (fun l hl => h1 l (List.mem_cons_of_mem _ hl)) h2
    rw [List.nil_append, mrg_nil_r] at ih ⊢
    cases R2 with
    | nil => rw [mrg_nil_r, mrg_nil_r]
    | cons y R2 => rw [List.cons_append, mrg_cons, if_neg (h1 x List.mem_cons_self y List.mem_cons_self), ih]; rfl
  | n + 1, x :: L1, L2, y :: R1, R2, h, h1, h2 => by
    simp only [List.length_cons] at h
    rw [List.cons_append, List.cons_append, mrg_cons, mrg_cons]
    by_cases hc : f y x < 0
    · rw [if_pos hc, if_pos hc, ← List.cons_append, mrg_split n (x :: L1) L2 R1 R2 (by simp only [List.length_cons]; omega) h1 (fun r hr => h2 r (List.mem_cons_of_mem _ hr))]; rfl
    · rw [if_neg hc, if_neg hc, ← List.cons_append, mrg_split n L1 L2 (y :: R1) R2 (by simp only [List.length_cons]; omega) (fun l hl => h1 l (List.mem_cons_of_mem _ hl)) h2]; rfl
theorem mrg_parts (L1 L2 R1 R2 : List α) (h1 : ∀ l ∈ L1, ∀ r ∈ R2, ¬ f r l < 0) (h2 : ∀ r ∈ R1, ∀ l ∈ L2, f r l < 0) : mrg f (L1 ++ L2) (R1 ++ R2) = mrg f L1 R1 ++ mrg f L2 R2 := mrg_split f _ L1 L2 R1 R2 (Nat.le_refl _) h1 h2
/-- One element among others. -/
theorem mrg_one_l (x : α) (R1 R2 : List α) (h1 : ∀ r ∈ R1, f r x < 0) (h2 : ∀ r ∈ R2, ¬ f r x < 0) : mrg f [x] (R1 ++ R2) = R1 ++ x :: R2 := by
  have := mrg_parts f [] [x] R1 R2 (fun l hl => by cases hl) (fun r hr l hl => by rw [List.mem_singleton.1 hl]; exact h1 r hr)
  rw [List.nil_append, mrg_nil_l] at this
  rw [this]
  congr 1
  cases R2 with
  | nil => rw [mrg_nil_r]
  | cons y R2 => rw [mrg_cons, if_neg (h2 y List.mem_cons_self), mrg_nil_l]
theorem mrg_one_r (y : α) (L1 L2 : List α) (h1 : ∀ l ∈ L1, ¬ f y l < 0) (h2 : ∀ l ∈ L2, f y l < 0) : mrg f (L1 ++ L2) [y] = L1 ++ y :: L2 := by
  have := mrg_parts f L1 L2 [] [y] (fun l hl r hr => by rw [List.mem_singleton.1 hr]; exact h1 l hl) (fun r hr => by cases hr)
  rw [List.nil_append, mrg_nil_r] at this
  rw [this]
  congr 1
  cases L2 with
  | nil => rw [mrg_nil_l]
  | cons x L2 => rw [mrg_cons, if_pos (h2 x List.mem_cons_self), mrg_nil_r]
theorem mrg_mem : ∀ (n : Nat) (L R : List α), L.length + R.length ≤ n → ∀ z, z ∈ mrg f L R ↔ z ∈ L ∨ z ∈ R
  | n, [], R, _, z => by rw [mrg_nil_l]; simp
  | n, x :: L, [], _, z => by rw [mrg_nil_r]; simp
  | 0, x :: L, y :: R, h, z => by simp at h
  | n + 1, x :: L, y :: R, h, z => by
    rw [mrg_cons]
    simp only [List.length_cons] at h
    split
    · rw [List.mem_cons, mrg_mem n (x :: L) R (by simp only [List.length_cons]; omega) z]
      simp only [List.mem_cons]
      constructor
      · rintro (h | h | h) <;> simp [h]
      · rintro ((h | h) | h | h) <;> simp [h]
    · rw [List.mem_cons, mrg_mem n L (y :: R) (by simp only [List.length_cons]; omega) z]
      simp only [List.mem_cons]
      constructor
      · rintro (h | h | h | h) <;> simp [h]
      · rintro ((h | h) | h | h) <;> simp [h]

/-- Rising, alike ones side by side. -/
def Srt (l : List α) : Prop := l.Pairwise (fun x y => f x y ≤ 0)
variable {f}
theorem mrg_srt (h : Cmp3 f) : ∀ (n : Nat) (L R : List α), L.length + R.length ≤ n → Srt f L → Srt f R → Srt f (mrg f L R)
  | n, [], R, _, _, hR => by rw [mrg_nil_l]; exact hR
  | n, x :: L, [], _, hL, _ => by rw [mrg_nil_r]; exact hL
  | 0, x :: L, y :: R, hn, _, _ => by simp at hn
  | n + 1, x :: L, y :: R, hn, hL, hR => by
    simp only [List.length_cons] at hn
    rw [mrg_cons]
    have hL' := List.pairwise_cons.1 hL
    have hR' := List.pairwise_cons.1 hR
    split
    · rename_i hc
      refine List.pairwise_cons.2 ⟨fun z hz => ?_, mrg_srt h n (x :: L) R (by simp only [List.length_cons]; omega) hL hR'.2⟩
      rcases (mrg_mem f _ (x :: L) R (Nat.le_refl _) z).1 hz with hz | hz
      · rcases List.mem_cons.1 hz with rfl | hz
        · omega
        · exact h.trans y x z (by omega) (hL'.1 z hz)
      · exact hR'.1 z hz
    · rename_i hc
      have hxy : f x y ≤ 0 := by have := h.anti x y; omega
      refine List.pairwise_cons.2 ⟨fun z hz => ?_, mrg_srt h n L (y :: R) (by simp only [List.length_cons]; omega) hL'.2 hR⟩
      rcases (mrg_mem f _ L (y :: R) (Nat.le_refl _) z).1 hz with hz | hz
      · exact hL'.1 z hz
      · rcases List.mem_cons.1 hz with rfl | hz
        · exact hxy
        · exact h.trans x y z hxy (hR'.1 z hz)
theorem mrg_assoc (h : Cmp3 f) : ∀ (n : Nat) (A B C : List α), A.length + B.length + C.length ≤ n → mrg f (mrg f A B) C = mrg f A (mrg f B C)
  | n, [], B, C, _ => by rw [mrg_nil_l, mrg_nil_l]
  | n, a :: A, [], C, _ => by rw [mrg_nil_r, mrg_nil_l]
  | n, a :: A, b :: B, [], _ => by rw [mrg_nil_r, mrg_nil_r]
  | 0, a :: A, b :: B, c :: C, hn => by simp at hn
  | n + 1, a :: A, b :: B, c :: C, hn => by
    simp only [List.length_cons] at hn
    have e1 := mrg_cons f a b A B
    have e2 := mrg_cons f b c B C
    by_cases hba : f b a < 0
    · rw [if_pos hba] at e1
      by_cases hcb : f c b < 0
      · rw [if_pos hcb] at e2
        have hca : f c a < 0 := h.lt_le hcb (by omega)
        rw [e1, e2, mrg_cons, if_pos hcb, mrg_cons, if_pos hca, ← e1, mrg_assoc h n (a :: A) (b :: B) C (by simp only [List.length_cons]; omega)]
      · rw [if_neg hcb] at e2
        rw [e1, e2, mrg_cons, if_neg hcb, mrg_cons, if_pos hba, mrg_assoc h n (a :: A) B (c :: C) (by simp only [List.length_cons]; omega)]
    · rw [if_neg hba] at e1
      have hab : f a b ≤ 0 := by have := h.anti a b; omega
      by_cases hcb : f c b < 0
      · rw [if_pos hcb] at e2
        by_cases hca : f c a < 0
        · rw [e1, e2, mrg_cons, if_pos hca, mrg_cons, if_pos hca, ← e1, mrg_assoc h n (a :: A) (b :: B) C (by simp only [List.length_cons]; omega)]
        · rw [e1, e2, mrg_cons, if_neg hca, mrg_cons, if_neg hca, ← e2, mrg_assoc h n A (b :: B) (c :: C) (by simp only [List.length_cons]; omega)]
      · rw [if_neg hcb] at e2
        have hca : ¬ f c a < 0 := fun hc => by
          have h1 : f b c ≤ 0 := by have := h.anti b c; omega
          have h2 := h.trans a b c hab h1
          have := h.anti a c
          omega
        rw [e1, e2, mrg_cons, if_neg hca, mrg_cons, if_neg hba, ← e2, mrg_assoc h n A (b :: B) (c :: C) (by simp only [List.length_cons]; omega)]

variable (f)
/-- The stable sort. -/
def srt : List α → List α
  | [] => []
  | x :: l => mrg f [x] (srt l)
theorem srt_length : ∀ l : List α, (srt f l).length = l.length
  | [] => rfl
  | x :: l => by rw [srt, mrg_length, srt_length l]; simp; omega
variable {f}
theorem srt_srt (h : Cmp3 f) : ∀ l : List α, Srt f (srt f l)
  | [] => List.Pairwise.nil
  | x :: l => mrg_srt h _ [x] (srt f l) (Nat.le_refl _) (List.pairwise_singleton _ _) (srt_srt h l)
theorem srt_app (h : Cmp3 f) : ∀ a b : List α, srt f (a ++ b) = mrg f (srt f a) (srt f b)
  | [], b => by rw [List.nil_append, srt, mrg_nil_l]
  | x :: a, b => by
    rw [List.cons_append, srt, srt, srt_app h a b, mrg_assoc h _ _ _ _ (Nat.le_refl _)]
theorem srt_snoc (h : Cmp3 f) (a : List α) (y : α) : srt f (a ++ [y]) = mrg f (srt f a) [y] := by
  rw [srt_app h]
  congr 1
  show mrg f [y] [] = [y]
  rw [mrg_nil_r]
/-- What is rising stays. -/
theorem srt_self (h : Cmp3 f) : ∀ l : List α, Srt f l → srt f l = l
  | [], _ => rfl
  | x :: l, hl => by
    have h' := List.pairwise_cons.1 hl
    rw [srt, srt_self h l h'.2]
    have := mrg_one_l f x [] l (fun r hr => by cases hr) (fun r hr => by have := h'.1 r hr; have := h.anti x r; omega)
    simpa using this
theorem srt_mem : ∀ (l : List α) (z : α), z ∈ srt f l ↔ z ∈ l
  | [], z => by simp [srt]
  | x :: l, z => by rw [srt, mrg_mem f _ _ _ (Nat.le_refl _), srt_mem l z]; simp
theorem srt_perm_pull {β : Type} (g : β → α) : ∀ l : List β, (srt (fun x y => f (g x) (g y)) l).map g = srt f (l.map g)
  | [] => rfl
  | x :: l => by
    have hm : ∀ (n : Nat) (L R : List β), L.length + R.length ≤ n → (mrg (fun x y => f (g x) (g y)) L R).map g = mrg f (L.map g) (R.map g) := by
      intro n
      induction n with
      | zero =>
        intro L R h
        cases L with
        | nil => rw [mrg_nil_l, List.map_nil, mrg_nil_l]
        | cons a L => simp at h
      | succ n ih =>
        intro L R h
        cases L with
        | nil => rw [mrg_nil_l, List.map_nil, mrg_nil_l]
        | cons a L =>
          cases R with
          | nil => rw [mrg_nil_r, List.map_nil, mrg_nil_r]
          | cons b R =>
            simp only [List.length_cons] at h
            rw [mrg_cons, List.map_cons, List.map_cons, mrg_cons]
            split
            · rw [List.map_cons, ih (a :: L) R (by simp only [List.length_cons]; omega), List.map_cons]
            · rw [List.map_cons, ih L (b :: R) (by simp only [List.length_cons]; omega), List.map_cons]
    rw [srt, hm _ _ _ (Nat.le_refl _), srt_perm_pull g l]
    rfl
end

end Go.Proofs.Ytkngmgdcnplkgaa

/-
  A row of structs in one block: reading, exchanging.
-/
namespace Go.Proofs.Ytkngmgdcnplkgaa
open Go.RowKit Go.Shelf
set_option linter.unusedVariables false

/-- A struct's cells. -/
structure Cel (α : Type) where
  c0 : α → ByteArray
  c1 : α → ByteArray
  c2 : α → ByteArray
  c3 : α → ByteArray
  c4 : α → Option Addr × Nat × Nat
  c5 : α → Option Addr × Nat × Nat
  c6 : α → Bool
section
variable {α : Type} (E : Cel α)
def Cel.row (x : α) : List Value := [.string (E.c0 x), .string (E.c1 x), .string (E.c2 x), .string (E.c3 x), .slice (E.c4 x).1 (E.c4 x).2.1 (E.c4 x).2.2, .slice (E.c5 x).1 (E.c5 x).2.1 (E.c5 x).2.2, .bool (E.c6 x)]
def Cel.val (x : α) : Value := .agg #[.string (E.c0 x), .string (E.c1 x), .string (E.c2 x), .string (E.c3 x), .slice (E.c4 x).1 (E.c4 x).2.1 (E.c4 x).2.2, .slice (E.c5 x).1 (E.c5 x).2.1 (E.c5 x).2.2, .bool (E.c6 x)]
def Cel.flat (xs : List α) : List Value := xs.flatMap E.row
theorem flat_cons (x : α) (xs : List α) : E.flat (x :: xs) = E.row x ++ E.flat xs := rfl
theorem flat_len : ∀ xs : List α, (E.flat xs).length = xs.length * 7
  | [] => rfl
  | x :: xs => by rw [flat_cons, List.length_append, flat_len xs, List.length_cons]; simp [Cel.row]; omega
theorem flat_at : ∀ (xs : List α) (i : Nat) (x : α), xs[i]? = some x → (E.flat xs)[i * 7]? = some (.string (E.c0 x)) ∧ (E.flat xs)[i * 7 + 1]? = some (.string (E.c1 x)) ∧ (E.flat xs)[i * 7 + 2]? = some (.string (E.c2 x)) ∧ (E.flat xs)[i * 7 + 3]? = some (.string (E.c3 x)) ∧ (E.flat xs)[i * 7 + 4]? = some (.slice (E.c4 x).1 (E.c4 x).2.1 (E.c4 x).2.2) ∧ (E.flat xs)[i * 7 + 5]? = some (.slice (E.c5 x).1 (E.c5 x).2.1 (E.c5 x).2.2) ∧ (E.flat xs)[i * 7 + 6]? = some (.bool (E.c6 x))
  | [], i, x, h => by simp at h
  | y :: xs, 0, x, h => by
    simp at h; subst h
    rw [flat_cons]
    exact ⟨rfl, rfl, rfl, rfl, rfl, rfl, rfl⟩
  | y :: xs, i + 1, x, h => by
    have ih := flat_at xs i x (by simpa using h)
    have hl : (E.row y).length = 7 := rfl
    have e : ∀ j, (E.flat (y :: xs))[(i + 1) * 7 + j]? = (E.flat xs)[i * 7 + j]? := fun j => by
      rw [flat_cons, List.getElem?_append_right (by rw [hl]; omega), hl]
      congr 1; omega
    obtain ⟨h0, h1, h2, h3, h4, h5, h6⟩ := ih
    exact ⟨(e 0).trans h0, (e 1).trans h1, (e 2).trans h2, (e 3).trans h3, (e 4).trans h4, (e 5).trans h5, (e 6).trans h6⟩
theorem flat_set : ∀ (xs : List α) (i : Nat) (y : α), i < xs.length → ((((((((E.flat xs).set (i * 7) (.string (E.c0 y))).set (i * 7 + 1) (.string (E.c1 y))).set (i * 7 + 2) (.string (E.c2 y))).set (i * 7 + 3) (.string (E.c3 y))).set (i * 7 + 4) (.slice (E.c4 y).1 (E.c4 y).2.1 (E.c4 y).2.2)).set (i * 7 + 5) (.slice (E.c5 y).1 (E.c5 y).2.1 (E.c5 y).2.2)).set (i * 7 + 6) (.bool (E.c6 y))) = E.flat (xs.set i y)
  | [], i, y, h => by simp at h
  | z :: xs, 0, y, _ => rfl
  | z :: xs, i + 1, y, h => by
    have ih := flat_set xs i y (by simpa using h)
    have hl : (E.row z).length = 7 := rfl
    have e : ∀ (L : List Value) (j : Nat) (v : Value), (E.row z ++ L).set ((i + 1) * 7 + j) v = E.row z ++ L.set (i * 7 + j) v := fun L j v => by
      rw [List.set_append_right _ _ (by rw [hl]; omega), hl]
      congr 2; omega
    rw [List.set_cons_succ, flat_cons, flat_cons, ← ih]
    have e0 := e (E.flat xs) 0 (.string (E.c0 y))
    simp only [Nat.add_zero] at e0
    rw [e0, e, e, e, e, e, e]

/-- The row lies in its block, nothing else old has turned. -/
structure DW (w0 : World) (B : Nat) (xs : List α) (W : World) : Prop where
  turn : Turn B w0 W
  cells : W.heap[B]? = some (.cells (E.flat xs).toArray 92 (0, 0))
variable {E}
theorem DW.lt {w0 : World} {B : Nat} {xs : List α} {W : World} (h : DW E w0 B xs W) : B < W.heap.size := (Array.getElem?_eq_some_iff.1 h.cells).1
theorem DW.next {w0 : World} {B : Nat} {xs : List α} {W W' : World} (h : DW E w0 B xs W) (hb : Below W.heap.size W W') : DW E w0 B xs W' :=
  ⟨h.turn.trans (Turn.ofBelow hb), (hb.block B h.lt).trans h.cells⟩
theorem DW.drew {w0 : World} {B : Nat} {xs : List α} {W : World} (h : DW E w0 B xs W) : DW E w0 B xs W.drew := ⟨⟨h.turn.os, h.turn.tape, h.turn.output, h.turn.size, h.turn.block⟩, h.cells⟩
theorem DW.seen {w0 : World} {B : Nat} {xs : List α} {W : World} (h : DW E w0 B xs W) (i : Nat) (x : α) (hx : xs[i]? = some x) : W.cell? ⟨B, i * 7, none⟩ = some (.string (E.c0 x)) ∧ W.cell? ⟨B, i * 7 + 1, none⟩ = some (.string (E.c1 x)) ∧ W.cell? ⟨B, i * 7 + 2, none⟩ = some (.string (E.c2 x)) ∧ W.cell? ⟨B, i * 7 + 3, none⟩ = some (.string (E.c3 x)) ∧ W.cell? ⟨B, i * 7 + 4, none⟩ = some (.slice (E.c4 x).1 (E.c4 x).2.1 (E.c4 x).2.2) ∧ W.cell? ⟨B, i * 7 + 5, none⟩ = some (.slice (E.c5 x).1 (E.c5 x).2.1 (E.c5 x).2.2) ∧ W.cell? ⟨B, i * 7 + 6, none⟩ = some (.bool (E.c6 x)) := by
  obtain ⟨h0, h1, h2, h3, h4, h5, h6⟩ := flat_at E xs i x hx
  exact ⟨cell_at _ h.cells (by simpa using h0), cell_at _ h.cells (by simpa using h1), cell_at _ h.cells (by simpa using h2), cell_at _ h.cells (by simpa using h3), cell_at _ h.cells (by simpa using h4), cell_at _ h.cells (by simpa using h5), cell_at _ h.cells (by simpa using h6)⟩
theorem DW.free {w0 : World} {B : Nat} {xs : List α} {W : World} (h : DW E w0 B xs W) (o : Nat) : W.frozen? ⟨B, o, none⟩ = false := one_free o h.cells
theorem set_list {W : World} {B : Nat} {t : TypeId} {L : List Value} {m : Nat × Nat} (o : Nat) (v : Value) (h : W.heap[B]? = some (.cells L.toArray t m)) : (W.setCell ⟨B, o, none⟩ v).heap[B]? = some (.cells (L.set o v).toArray t m) := by
  rw [set_lies o v h]
  simp
theorem DW.put {w0 : World} {B : Nat} {xs : List α} {W : World} (h : DW E w0 B xs W) (i : Nat) (y : α) (hi : i < xs.length) :
    DW E w0 B (xs.set i y) (((((((W.setCell ⟨B, i * 7, none⟩ (.string (E.c0 y))).setCell ⟨B, i * 7 + 1, none⟩ (.string (E.c1 y))).setCell ⟨B, i * 7 + 2, none⟩ (.string (E.c2 y))).setCell ⟨B, i * 7 + 3, none⟩ (.string (E.c3 y))).setCell ⟨B, i * 7 + 4, none⟩ (.slice (E.c4 y).1 (E.c4 y).2.1 (E.c4 y).2.2)).setCell ⟨B, i * 7 + 5, none⟩ (.slice (E.c5 y).1 (E.c5 y).2.1 (E.c5 y).2.2)).setCell ⟨B, i * 7 + 6, none⟩ (.bool (E.c6 y))) := by
  refine ⟨(((((((h.turn).trans (Turn.set B _ _ _)).trans (Turn.set B _ _ _)).trans (Turn.set B _ _ _)).trans (Turn.set B _ _ _)).trans (Turn.set B _ _ _)).trans (Turn.set B _ _ _)).trans (Turn.set B _ _ _), ?_⟩
  rw [← flat_set E xs i y hi]
  exact set_list _ _ (set_list _ _ (set_list _ _ (set_list _ _ (set_list _ _ (set_list _ _ (set_list _ _ (h.cells)))))))
end

/-- Two elements exchanged. -/
def swp {α : Type} (xs : List α) (i j : Nat) : List α := match xs[i]?, xs[j]? with
  | some x, some y => (xs.set i y).set j x
  | _, _ => xs
theorem swp_at {α : Type} {xs : List α} {i j : Nat} {x y : α} (hx : xs[i]? = some x) (hy : xs[j]? = some y) : swp xs i j = (xs.set i y).set j x := by unfold swp; rw [hx, hy]
theorem swp_len {α : Type} (xs : List α) (i j : Nat) : (swp xs i j).length = xs.length := by
  unfold swp; split <;> simp
theorem some_at {α : Type} (xs : List α) (i : Nat) (h : i < xs.length) : ∃ x, xs[i]? = some x := ⟨xs[i], List.getElem?_eq_getElem h⟩
theorem DW.swap {α : Type} {E : Cel α} {w0 : World} {B : Nat} {xs : List α} {W : World} (h : DW E w0 B xs W) {i j : Nat} {x y : α} (hx : xs[i]? = some x) (hy : xs[j]? = some y) :
    DW E w0 B (swp xs i j) ((((((((((((((W.setCell ⟨B, i * 7, none⟩ (.string (E.c0 y))).setCell ⟨B, i * 7 + 1, none⟩ (.string (E.c1 y))).setCell ⟨B, i * 7 + 2, none⟩ (.string (E.c2 y))).setCell ⟨B, i * 7 + 3, none⟩ (.string (E.c3 y))).setCell ⟨B, i * 7 + 4, none⟩ (.slice (E.c4 y).1 (E.c4 y).2.1 (E.c4 y).2.2)).setCell ⟨B, i * 7 + 5, none⟩ (.slice (E.c5 y).1 (E.c5 y).2.1 (E.c5 y).2.2)).setCell ⟨B, i * 7 + 6, none⟩ (.bool (E.c6 y))).setCell ⟨B, j * 7, none⟩ (.string (E.c0 x))).setCell ⟨B, j * 7 + 1, none⟩ (.string (E.c1 x))).setCell ⟨B, j * 7 + 2, none⟩ (.string (E.c2 x))).setCell ⟨B, j * 7 + 3, none⟩ (.string (E.c3 x))).setCell ⟨B, j * 7 + 4, none⟩ (.slice (E.c4 x).1 (E.c4 x).2.1 (E.c4 x).2.2)).setCell ⟨B, j * 7 + 5, none⟩ (.slice (E.c5 x).1 (E.c5 x).2.1 (E.c5 x).2.2)).setCell ⟨B, j * 7 + 6, none⟩ (.bool (E.c6 x))) := by
  have hi := (List.getElem?_eq_some_iff.1 hx).1
  have hj := (List.getElem?_eq_some_iff.1 hy).1
  rw [swp_at hx hy]
  exact (h.put i y hi).put j x (by simpa using hj)

end Go.Proofs.Ytkngmgdcnplkgaa

/-
  Walks: the exchange of two ranges.
-/
namespace Go.Proofs.Ytkngmgdcnplkgaa
open Go.RowKit Go.Shelf
set_option linter.unusedVariables false

/-- Two ranges exchanged. -/
def swr {α : Type} : Nat → List α → Nat → Nat → List α
  | 0, xs, _, _ => xs
  | n + 1, xs, a, b => swr n (swp xs a b) (a + 1) (b + 1)

set_option maxRecDepth 100000 in
set_option maxHeartbeats 1000000 in
theorem swapRange_any {α : Type} (E : Cel α) (w0 : World) (B : Nat) (xs : List α) (N a b n : Nat) (hN : xs.length = N) (fn : Value) (w : World) (hd : DW E w0 B xs w) (ha : a + n ≤ b) (hb : b + n ≤ N) (hl : N ≤ 4611686018427387904) :
    Calls Try.prog 109 #[.slice (some ⟨B, 0, none⟩) N N, .int .i64 (a : Int), .int .i64 (b : Int), .int .i64 (n : Int), fn] w fun e w' => e = .returned (.tuple #[]) ∧ DW E w0 B (swr n xs a b) w' := by
  go_enter Try.func109, Try.ntmps109
  go_wp2_with fail
  go_loopw [10] (fun x wr => ∃ (i : Nat) (ys : List α), i ≤ n ∧ x = .int .i64 i ∧ Hid (ys.length = N) ∧ DW E w0 B ys wr ∧ Hid (swr n xs a b = swr (n - i) ys (a + i) (b + i))) (fun x _ => n - (intOf x).toNat)
  case atStart => exact ⟨0, xs, by omega, rfl, hN, hd, rfl⟩
  case round =>
    clear hd hN
    obtain ⟨i, ys, hi, rfl, HL, hD, HR⟩ := hrel
    by_cases hlt : i < n
    · have hlt' : (i : Int) < (n : Int) := by omega
      obtain ⟨x, hx⟩ := some_at ys (a + i) (by rw [HL.out]; omega)
      obtain ⟨y, hy⟩ := some_at ys (b + i) (by rw [HL.out]; omega)
      have eA : (a : Int) + (i : Int) = ((a + i : Nat) : Int) := by omega
      have eB : (b : Int) + (i : Int) = ((b + i : Nat) : Int) := by omega
      have wA : IntKind.i64.wrap ((a + i : Nat) : Int) = ((a + i : Nat) : Int) := by rw [IntKind.wrap_i64]; omega
      have wB : IntKind.i64.wrap ((b + i : Nat) : Int) = ((b + i : Nat) : Int) := by rw [IntKind.wrap_i64]; omega
      have lA : ((a + i : Nat) : Int) < (N : Int) := by omega
      have lB : ((b + i : Nat) : Int) < (N : Int) := by omega
      have hne : a + i ≠ b + i := by omega
      have HX := hide hx
      have HY := hide hy
      have HS : Hid (swr (n - i) ys (a + i) (b + i) = swr (n - (i + 1)) (swp ys (a + i) (b + i)) (a + (i + 1)) (b + (i + 1))) := by
        show _ = _
        rw [show n - i = (n - (i + 1)) + 1 by omega, swr]
        rfl
      generalize hA : a + i = A at *
      generalize hB : b + i = Bq at *
      have HN := hide hne
      clear hx hy hA hB hne
      obtain ⟨p0, p1, p2, p3, p4, p5, p6⟩ := hD.seen A x HX.out
      obtain ⟨q0, q1, q2, q3, q4, q5, q6⟩ := hD.seen Bq y HY.out
      have z0 := hD.free (A * 7)
      have z1 := hD.free (A * 7 + 1)
      have z2 := hD.free (A * 7 + 2)
      have z3 := hD.free (A * 7 + 3)
      have z4 := hD.free (A * 7 + 4)
      have z5 := hD.free (A * 7 + 5)
      have z6 := hD.free (A * 7 + 6)
      have y0 := hD.free (Bq * 7)
      have y1 := hD.free (Bq * 7 + 1)
      have y2 := hD.free (Bq * 7 + 2)
      have y3 := hD.free (Bq * 7 + 3)
      have y4 := hD.free (Bq * 7 + 4)
      have y5 := hD.free (Bq * 7 + 5)
      have y6 := hD.free (Bq * 7 + 6)
      go_wp2_with fail
      go_big_region
      all_goals go_wp2_with fail
      go_roundw
      case rel => exact ⟨i + 1, swp ys A Bq, by omega, by go_num, by show _ = _; rw [swp_len]; exact HL.out, (hD.swap HX.out HY.out).drew, by show _ = _; rw [HR.out, HS.out]⟩
      case measure => simp [intOf]; omega
    · have hlt' : ¬ (i : Int) < (n : Int) := by omega
      go_wp2_with fail
      go_end0
      exact ⟨rfl, by rw [HR.out, show n - i = 0 by omega]; exact hD⟩

end Go.Proofs.Ytkngmgdcnplkgaa

/-
  Plain laws: exchanging and turning ranges of a list; no program is named here.
-/
namespace Go.Proofs.Ytkngmgdcnplkgaa
set_option linter.unusedVariables false

theorem swp_parts {α : Type} (A C D : List α) (x y : α) : swp (A ++ x :: (C ++ y :: D)) A.length (A.length + 1 + C.length) = A ++ y :: (C ++ x :: D) := by
  have hx : (A ++ x :: (C ++ y :: D))[A.length]? = some x := by simp
  have hy : (A ++ x :: (C ++ y :: D))[A.length + 1 + C.length]? = some y := by
    rw [List.getElem?_append_right (by omega), show A.length + 1 + C.length - A.length = C.length + 1 by omega, List.getElem?_cons_succ]; simp
  rw [swp_at hx hy, List.set_append_right _ _ (Nat.le_refl _), Nat.sub_self, List.set_cons_zero, List.set_append_right _ _ (by omega), show A.length + 1 + C.length - A.length = C.length + 1 by omega, List.set_cons_succ, List.set_append_right _ _ (Nat.le_refl _), Nat.sub_self, List.set_cons_zero]
theorem swr_parts {α : Type} : ∀ (U V P M S : List α), U.length = V.length → swr U.length (P ++ (U ++ (M ++ (V ++ S)))) P.length (P.length + U.length + M.length) = P ++ (V ++ (M ++ (U ++ S)))
  | [], V, P, M, S, h => by
    have : V = [] := List.length_eq_zero_iff.1 h.symm
    subst this
    rfl
  | u :: U, [], P, M, S, h => by simp at h
  | u :: U, v :: V, P, M, S, h => by
    have e1 : P ++ (u :: U ++ (M ++ (v :: V ++ S))) = P ++ u :: ((U ++ M) ++ v :: (V ++ S)) := by simp
    have e2 : P ++ v :: ((U ++ M) ++ u :: (V ++ S)) = (P ++ [v]) ++ (U ++ ((M ++ [u]) ++ (V ++ S))) := by simp
    have ih := swr_parts U V (P ++ [v]) (M ++ [u]) S (by simpa using h)
    rw [List.length_cons, swr, e1, show P.length + (U.length + 1) + M.length = P.length + 1 + (U ++ M).length by rw [List.length_append]; omega, swp_parts, e2]
    have el : P.length + 1 = (P ++ [v]).length := by simp
    have eb : P.length + 1 + (U ++ M).length + 1 = (P ++ [v]).length + U.length + (M ++ [u]).length := by simp; omega
    rw [el] at eb ⊢
    rw [eb, ih]
    simp
theorem swr_len {α : Type} : ∀ (n : Nat) (xs : List α) (a b : Nat), (swr n xs a b).length = xs.length
  | 0, xs, _, _ => rfl
  | n + 1, xs, a, b => by rw [swr, swr_len n, swp_len]
theorem split_at {α : Type} (l : List α) (n : Nat) (h : n ≤ l.length) : ∃ a b, l = a ++ b ∧ a.length = n ∧ b.length = l.length - n :=
  ⟨l.take n, l.drop n, (List.take_append_drop n l).symm, by rw [List.length_take]; omega, List.length_drop⟩

end Go.Proofs.Ytkngmgdcnplkgaa

/-
  Walks: two ranges turned round.
-/
namespace Go.Proofs.Ytkngmgdcnplkgaa
open Go.RowKit Go.Shelf
set_option linter.unusedVariables false

set_option maxRecDepth 100000 in
set_option maxHeartbeats 1000000 in
theorem rotate_any {α : Type} (E : Cel α) (w0 : World) (B : Nat) (P U V S : List α) (N a m b : Nat) (hN : (P ++ (U ++ (V ++ S))).length = N) (ha : P.length = a) (hm : a + U.length = m) (hb : m + V.length = b) (hU : 0 < U.length) (hV : 0 < V.length) (fn : Value) (w : World) (hd : DW E w0 B (P ++ (U ++ (V ++ S))) w) (hl : N ≤ 4611686018427387904) :
    Calls Try.prog 108 #[.slice (some ⟨B, 0, none⟩) N N, .int .i64 (a : Int), .int .i64 (m : Int), .int .i64 (b : Int), fn] w fun e w' => e = .returned (.tuple #[]) ∧ DW E w0 B (P ++ (V ++ (U ++ S))) w' := by
  have hNs : a + U.length + V.length + S.length = N := by rw [← hN]; simp; omega
  go_enter Try.func108, Try.ntmps108
  go_wp2_with fail
  have e1 : (m : Int) - (a : Int) = ((U.length : Nat) : Int) := by omega
  have e2 : (b : Int) - (m : Int) = ((V.length : Nat) : Int) := by omega
  rw [e1, e2]
  clear e1 e2
  go_loopw [10, 11] (fun x y wr => ∃ (i j : Nat) (Q X Y R : List α), x = .int .i64 i ∧ y = .int .i64 j ∧ 0 < i ∧ 0 < j ∧ Hid (X.length = i) ∧ Hid (Y.length = j) ∧ Hid (Q.length + i = m) ∧ m + j + R.length = N ∧ i ≤ m ∧ DW E w0 B (Q ++ (X ++ (Y ++ R))) wr ∧ Hid (P ++ (V ++ (U ++ S)) = Q ++ (Y ++ (X ++ R)))) (fun x y _ => (intOf x).toNat + (intOf y).toNat)
  case atStart => exact ⟨U.length, V.length, P, U, V, S, rfl, rfl, hU, hV, rfl, rfl, by show _ = _; omega, by omega, by omega, hd, rfl⟩
  case round =>
    clear hd hN
    obtain ⟨i, j, Q, X, Y, R, rfl, rfl, hi, hj, HX, HY, HQ, hNr, him, hD, HR⟩ := hrel
    by_cases hij : i = j
    · subst hij
      have SR := swapRange_any E w0 B (Q ++ (X ++ (Y ++ R))) N (m - i) m i (by have := HX.out; have := HY.out; have := HQ.out; simp; omega) fn
      have HS : Hid (swr i (Q ++ (X ++ (Y ++ R))) (m - i) m = Q ++ (Y ++ (X ++ R))) := by
        have := swr_parts X Y Q [] R (by rw [HX.out, HY.out])
        rw [List.nil_append, List.nil_append, HX.out, List.length_nil, Nat.add_zero, HQ.out, show Q.length = m - i by have := HQ.out; omega] at this
        exact this
      have SR := hide (fun w hd => SR w hd (by omega) (by omega) hl)
      have e3 : (m : Int) - (i : Int) = ((m - i : Nat) : Int) := by omega
      have hb1 : ((i : Int) != (i : Int)) = false := by simp
      go_wp2_with fail
      refine (SR.out _ hD).mono ?_
      rintro e w1 ⟨rfl, d1⟩
      rw [HS.out] at d1
      go_wp2_with fail
      go_end0
      exact ⟨rfl, by rw [HR.out]; exact d1⟩
    · have hb1 : ((i : Int) != (j : Int)) = true := by simp; omega
      by_cases hgt : j < i
      · have hgt' : (j : Int) < (i : Int) := by omega
        obtain ⟨X1, X2, hX, l1, l2⟩ := split_at X j (by have := HX.out; omega)
        have SR := swapRange_any E w0 B (Q ++ (X ++ (Y ++ R))) N (m - i) m j (by have := HX.out; have := HY.out; have := HQ.out; simp; omega) fn
        have HS : Hid (swr j (Q ++ (X ++ (Y ++ R))) (m - i) m = (Q ++ Y) ++ (X2 ++ (X1 ++ R))) := by
          have := swr_parts X1 Y Q X2 R (by rw [l1, HY.out])
          rw [l1, l2, show Q.length + j + (X.length - j) = m by have := HX.out; have := HQ.out; omega, show Q.length = m - i by have := HQ.out; omega] at this
          show _ = _
          rw [hX, List.append_assoc, this]; simp
        have HT : Hid (Q ++ (Y ++ (X ++ R)) = (Q ++ Y) ++ (X1 ++ (X2 ++ R))) := by show _ = _; rw [hX]; simp
        have SR := hide (fun w hd => SR w hd (by omega) (by omega) hl)
        have e3 : (m : Int) - (i : Int) = ((m - i : Nat) : Int) := by omega
        have L1 := hide l1
        have L2 : Hid (X2.length = i - j) := by show _ = _; rw [l2, HX.out]
        have L3 : Hid ((Q ++ Y).length + (i - j) = m) := by show _ = _; have := HY.out; have := HQ.out; rw [List.length_append]; omega
        clear hX l1 l2 hij
        go_wp2_with fail
        refine (SR.out _ hD).mono ?_
        rintro e w1 ⟨rfl, d1⟩
        rw [HS.out] at d1
        go_wp2_with fail
        go_roundw
        case rel => exact ⟨i - j, j, Q ++ Y, X2, X1, R, by first | rfl | go_num | (congr 1; omega), rfl, by omega, hj, L2, L1, L3, hNr, by omega, d1, by show _ = _; rw [HR.out, HT.out]⟩
        case measure => simp [intOf]; omega
      · have hgt' : ¬ (j : Int) < (i : Int) := by omega
        have hlt9 : i < j := by omega
        obtain ⟨Y1, Y2, hY, l1, l2⟩ := split_at Y (j - i) (by have := HY.out; omega)
        have SR := swapRange_any E w0 B (Q ++ (X ++ (Y ++ R))) N (m - i) (m + j - i) i (by have := HX.out; have := HY.out; have := HQ.out; simp; omega) fn
        have HS : Hid (swr i (Q ++ (X ++ (Y ++ R))) (m - i) (m + j - i) = Q ++ (Y2 ++ (Y1 ++ (X ++ R)))) := by
          have := swr_parts X Y2 Q Y1 R (by rw [l2, HX.out, HY.out]; omega)
          rw [HX.out, l1, show Q.length + i + (j - i) = m + j - i by have := HQ.out; omega, show Q.length = m - i by have := HQ.out; omega] at this
          show _ = _
          rw [hY, List.append_assoc, this]
        have HT : Hid (Q ++ (Y ++ (X ++ R)) = Q ++ (Y1 ++ (Y2 ++ (X ++ R)))) := by show _ = _; rw [hY]; simp
        have SR := hide (fun w hd => SR w hd (by omega) (by omega) hl)
        have e3 : (m : Int) - (i : Int) = ((m - i : Nat) : Int) := by omega
        have e4 : (m : Int) + (j : Int) - (i : Int) = ((m + j - i : Nat) : Int) := by omega
        have L1 := hide l1
        have L2 : Hid (Y2.length = i) := by show _ = _; rw [l2, HY.out]; omega
        have L4 : m + (j - i) + (X ++ R).length = N := by have := HX.out; rw [List.length_append]; omega
        clear hY l1 l2 hij
        go_wp2_with fail
        refine (SR.out _ hD).mono ?_
        rintro e w1 ⟨rfl, d1⟩
        rw [HS.out] at d1
        go_wp2_with fail
        go_roundw
        case rel => exact ⟨i, j - i, Q, Y2, Y1, X ++ R, rfl, by first | rfl | go_num | (congr 1; omega), hi, by omega, L2, L1, HQ, L4, him, d1, by show _ = _; rw [HR.out, HT.out]⟩
        case measure => simp [intOf]; omega

end Go.Proofs.Ytkngmgdcnplkgaa

/-
  Walks: the insertion sort of a range.
-/
namespace Go.Proofs.Ytkngmgdcnplkgaa
open Go.RowKit Go.Shelf
set_option linter.unusedVariables false

/-- What is asked of the comparing function. -/
def CmpG {α : Type} (E : Cel α) (f : α → α → Int) (cb : Value) (w0 : World) (B : Nat) : Prop :=
  ∀ W, Turn B w0 W → ∀ x y : α, Calls Try.prog 81 #[E.val x, E.val y, cb] W fun e W' => e = .returned (.int .i64 (f x y)) ∧ Below W.heap.size W W'

theorem last_of {α : Type} (A : List α) (h : 0 < A.length) : ∃ A' x, A = A' ++ [x] := ⟨A.dropLast, A.getLast (List.length_pos_iff.1 h), (List.dropLast_concat_getLast (List.length_pos_iff.1 h)).symm⟩

set_option maxRecDepth 100000 in
set_option maxHeartbeats 4000000 in
theorem insertion_any {α : Type} (E : Cel α) (f : α → α → Int) (hf : Cmp3 f) (cb : Value) (w0 : World) (B : Nat) (HC : CmpG E f cb w0 B) (P L S : List α) (N a b : Nat) (hN : (P ++ (L ++ S)).length = N) (ha : P.length = a) (hb : a + L.length = b) (w : World) (hd : DW E w0 B (P ++ (L ++ S)) w) (hl : N ≤ 4611686018427387904) :
    Calls Try.prog 104 #[.slice (some ⟨B, 0, none⟩) N N, .int .i64 (a : Int), .int .i64 (b : Int), .func (.func 81) #[] #[cb]] w fun e w' => e = .returned (.tuple #[]) ∧ DW E w0 B (P ++ (srt f L ++ S)) w' := by
  have hNs : b + S.length = N := by rw [← hN]; simp; omega
  have HC := hide HC
  go_enter Try.func104, Try.ntmps104
  go_wp2_with fail
  go_loopw [8] (fun x wr => ∃ (i : Nat) (L1 L2 : List α), x = .int .i64 i ∧ Hid (L = L1 ++ L2) ∧ (L2.length = 0 ∨ a + L1.length = i) ∧ a + L1.length ≤ i ∧ i ≤ b + 1 ∧ a + L1.length + L2.length = b ∧ DW E w0 B (P ++ (srt f L1 ++ (L2 ++ S))) wr) (fun x _ => b + 1 - (intOf x).toNat)
  case atStart =>
    cases L with
    | nil => exact ⟨a + 1, [], [], by go_num, rfl, .inl rfl, by simp, by simp at hb; omega, by simpa using hb, hd⟩
    | cons z L => exact ⟨a + 1, [z], L, by go_num, rfl, .inr (by simp), by simp, by simp at hb; omega, by simp at hb ⊢; omega, by rw [show srt f [z] = [z] from mrg_nil_r f [z]]; exact hd⟩
  case round =>
    clear hd hN hb
    obtain ⟨i, L1, L2, rfl, HL, h12, h1i, hib, hlen, hD⟩ := hrel
    by_cases hlt : i < b
    · have hlt' : (i : Int) < (b : Int) := by omega
      have hi : a + L1.length = i := by omega
      obtain ⟨y, L3, rfl⟩ : ∃ y L3, L2 = y :: L3 := by
        cases L2 with
        | nil => simp at hlen; omega
        | cons y L3 => exact ⟨y, L3, rfl⟩
      have HS := hide (srt_snoc hf L1 y)
      have HSo := hide (srt_srt hf L1)
      have hsl : (srt f L1).length = i - a := by rw [srt_length]; omega
      have HLL : Hid (L = (L1 ++ [y]) ++ L3) := by show _ = _; rw [HL.out]; simp
      have hl3 : i + 1 + L3.length = b := by simp only [List.length_cons] at hlen; omega
      have hl1 : a + (L1 ++ [y]).length = i + 1 := by simp; omega
      generalize srt f L1 = T at *
      clear h12 hlen HL
      go_wp2_with fail
      go_loopw [9] (fun x wr2 => ∃ (j : Nat) (A C : List α), x = .int .i64 j ∧ Hid (T = A ++ C) ∧ a + A.length = j ∧ j ≤ i ∧ Hid (∀ c ∈ C, f y c < 0) ∧ DW E w0 B (P ++ (A ++ (y :: (C ++ (L3 ++ S))))) wr2) (fun x _ => (intOf x).toNat)
      case atStart => exact ⟨i, T, [], rfl, by simp [Hid], by omega, Nat.le_refl _, by simp [Hid], by simpa using hD⟩
      case round =>
        clear hD
        obtain ⟨j, A, C, rfl, HT, haj, hji, HCl, hD⟩ := hrel
        have OUT : Hid ((∀ l ∈ A, ¬ f y l < 0) → ∀ wr3, DW E w0 B (P ++ (A ++ (y :: (C ++ (L3 ++ S))))) wr3 → DW E w0 B (P ++ (srt f (L1 ++ [y]) ++ (L3 ++ S))) wr3) := fun h wr3 hD => by
          rw [HS.out, HT.out, mrg_one_r f y A C h HCl.out]
          simpa using hD
        by_cases hja : a < j
        · have hja' : (a : Int) < (j : Int) := by omega
          have hjad : decide ((j : Int) > (a : Int)) = true := by simp; omega
          obtain ⟨A', x, rfl⟩ := last_of A (by omega)
          have hla : a + A'.length + 1 = j := by simp at haj; omega
          have hy : (P ++ ((A' ++ [x]) ++ (y :: (C ++ (L3 ++ S)))))[j]? = some y := by
            rw [← List.append_assoc, List.getElem?_append_right (by simp; omega)]
            rw [show j - (P ++ (A' ++ [x])).length = 0 by simp; omega]; rfl
          have hx : (P ++ ((A' ++ [x]) ++ (y :: (C ++ (L3 ++ S)))))[j - 1]? = some x := by
            rw [List.append_assoc, ← List.append_assoc, List.getElem?_append_right (by simp; omega)]
            rw [show j - 1 - (P ++ A').length = 0 by simp; omega]; rfl
          have hjN : j + 1 ≤ N := by omega
          have HSW : Hid (swp (P ++ ((A' ++ [x]) ++ (y :: (C ++ (L3 ++ S))))) j (j - 1) = P ++ (A' ++ (y :: ((x :: C) ++ (L3 ++ S))))) := by
            show _ = _
            have e1 : P ++ ((A' ++ [x]) ++ (y :: (C ++ (L3 ++ S)))) = (P ++ A') ++ x :: ([] ++ y :: (C ++ (L3 ++ S))) := by simp
            have := swp_parts (P ++ A') [] (C ++ (L3 ++ S)) x y
            rw [show (P ++ A').length = j - 1 by simp; omega, List.length_nil, Nat.add_zero, show j - 1 + 1 = j by omega, ← e1] at this
            have e2 : swp (P ++ ((A' ++ [x]) ++ (y :: (C ++ (L3 ++ S))))) j (j - 1) = swp (P ++ ((A' ++ [x]) ++ (y :: (C ++ (L3 ++ S))))) (j - 1) j := by
              rw [swp_at hy hx, swp_at hx hy, List.set_comm _ _ (by omega)]
            rw [e2, this]; simp
          have HTT : Hid (T = A' ++ (x :: C)) := by show _ = _; rw [HT.out]; simp
          have HTo : Hid (∀ l ∈ A' ++ [x], f l x ≤ 0) := by
            have h := HSo.out
            rw [HTT.out] at h
            intro l hl
            rcases List.mem_append.1 hl with hl | hl
            · exact (List.pairwise_append.1 h).2.2 l hl x List.mem_cons_self
            · rw [List.mem_singleton.1 hl, hf.self]; exact Int.le_refl _
          have HX := hide hx
          have HY := hide hy
          have CM := hide (fun W hW => HC.out W hW y x)
          generalize hZ : P ++ ((A' ++ [x]) ++ (y :: (C ++ (L3 ++ S)))) = Z at *
          have HZ := hide hZ
          clear hx hy hZ
          have eJ : (j : Int) - 1 = ((j - 1 : Nat) : Int) := by omega
          have wJ : IntKind.i64.wrap ((j - 1 : Nat) : Int) = ((j - 1 : Nat) : Int) := by rw [IntKind.wrap_i64]; omega
          have lJ : ((j - 1 : Nat) : Int) < (N : Int) := by omega
          have lJ' : (j : Int) < (N : Int) := by omega
          have hjj : j - 1 + 1 = j := by omega
          generalize hJ1 : j - 1 = J1 at *
          have HJ1 := hide hJ1
          clear hJ1
          obtain ⟨p0, p1, p2, p3, p4, p5, p6⟩ := hD.seen j y HY.out
          obtain ⟨q0, q1, q2, q3, q4, q5, q6⟩ := hD.seen J1 x HX.out
          have D0 := hD.drew
          by_cases hc : f y x < 0
          · go_wp2_with fail
            go_region_held3 (fun w' => w'.cell? ⟨B, j * 7, none⟩ = some (.string (E.c0 y)) ∧ w'.cell? ⟨B, j * 7 + 1, none⟩ = some (.string (E.c1 y)) ∧ w'.cell? ⟨B, j * 7 + 2, none⟩ = some (.string (E.c2 y)) ∧ w'.cell? ⟨B, j * 7 + 3, none⟩ = some (.string (E.c3 y)) ∧ w'.cell? ⟨B, j * 7 + 4, none⟩ = some (.slice (E.c4 y).1 (E.c4 y).2.1 (E.c4 y).2.2) ∧ w'.cell? ⟨B, j * 7 + 5, none⟩ = some (.slice (E.c5 y).1 (E.c5 y).2.1 (E.c5 y).2.2) ∧ w'.cell? ⟨B, j * 7 + 6, none⟩ = some (.bool (E.c6 y)) ∧ w'.cell? ⟨B, J1 * 7, none⟩ = some (.string (E.c0 x)) ∧ w'.cell? ⟨B, J1 * 7 + 1, none⟩ = some (.string (E.c1 x)) ∧ w'.cell? ⟨B, J1 * 7 + 2, none⟩ = some (.string (E.c2 x)) ∧ w'.cell? ⟨B, J1 * 7 + 3, none⟩ = some (.string (E.c3 x)) ∧ w'.cell? ⟨B, J1 * 7 + 4, none⟩ = some (.slice (E.c4 x).1 (E.c4 x).2.1 (E.c4 x).2.2) ∧ w'.cell? ⟨B, J1 * 7 + 5, none⟩ = some (.slice (E.c5 x).1 (E.c5 x).2.1 (E.c5 x).2.2) ∧ w'.cell? ⟨B, J1 * 7 + 6, none⟩ = some (.bool (E.c6 x)))
              (go_keep)
              ((first
                | (go_at_call 81; refine (CM.out _ D0.turn).mono ?_; rintro e w1 ⟨rfl, b1⟩; have Q1 := D0.next b1; obtain ⟨g0, g1, g2, g3, g4, g5, g6⟩ := Q1.seen j y HY.out; obtain ⟨h0, h1, h2, h3, h4, h5, h6⟩ := Q1.seen J1 x HX.out)
                | fail))
            clear p0 p1 p2 p3 p4 p5 p6 q0 q1 q2 q3 q4 q5 q6
            have z0 := Q1.free (j * 7)
            have z1 := Q1.free (j * 7 + 1)
            have z2 := Q1.free (j * 7 + 2)
            have z3 := Q1.free (j * 7 + 3)
            have z4 := Q1.free (j * 7 + 4)
            have z5 := Q1.free (j * 7 + 5)
            have z6 := Q1.free (j * 7 + 6)
            have y0 := Q1.free (J1 * 7)
            have y1 := Q1.free (J1 * 7 + 1)
            have y2 := Q1.free (J1 * 7 + 2)
            have y3 := Q1.free (J1 * 7 + 3)
            have y4 := Q1.free (J1 * 7 + 4)
            have y5 := Q1.free (J1 * 7 + 5)
            have y6 := Q1.free (J1 * 7 + 6)
            go_wp2_with fail
            go_big_region
            all_goals go_wp2_with fail
            go_roundw
            case rel => exact ⟨J1, A', x :: C, by first | rfl | go_num | (congr 1; omega), HTT, by omega, by omega, by intro c hcm; rcases List.mem_cons.1 hcm with rfl | hcm; exact hc; exact HCl.out c hcm, by rw [← HSW.out]; exact (Q1.swap HY.out HX.out).drew⟩
            case measure => simp [intOf]; omega
          · go_wp2_with fail
            go_region_held3 (fun w' => w'.cell? ⟨B, j * 7, none⟩ = some (.string (E.c0 y)) ∧ w'.cell? ⟨B, j * 7 + 1, none⟩ = some (.string (E.c1 y)) ∧ w'.cell? ⟨B, j * 7 + 2, none⟩ = some (.string (E.c2 y)) ∧ w'.cell? ⟨B, j * 7 + 3, none⟩ = some (.string (E.c3 y)) ∧ w'.cell? ⟨B, j * 7 + 4, none⟩ = some (.slice (E.c4 y).1 (E.c4 y).2.1 (E.c4 y).2.2) ∧ w'.cell? ⟨B, j * 7 + 5, none⟩ = some (.slice (E.c5 y).1 (E.c5 y).2.1 (E.c5 y).2.2) ∧ w'.cell? ⟨B, j * 7 + 6, none⟩ = some (.bool (E.c6 y)) ∧ w'.cell? ⟨B, J1 * 7, none⟩ = some (.string (E.c0 x)) ∧ w'.cell? ⟨B, J1 * 7 + 1, none⟩ = some (.string (E.c1 x)) ∧ w'.cell? ⟨B, J1 * 7 + 2, none⟩ = some (.string (E.c2 x)) ∧ w'.cell? ⟨B, J1 * 7 + 3, none⟩ = some (.string (E.c3 x)) ∧ w'.cell? ⟨B, J1 * 7 + 4, none⟩ = some (.slice (E.c4 x).1 (E.c4 x).2.1 (E.c4 x).2.2) ∧ w'.cell? ⟨B, J1 * 7 + 5, none⟩ = some (.slice (E.c5 x).1 (E.c5 x).2.1 (E.c5 x).2.2) ∧ w'.cell? ⟨B, J1 * 7 + 6, none⟩ = some (.bool (E.c6 x)))
              (go_keep)
              ((first
                | (go_at_call 81; refine (CM.out _ D0.turn).mono ?_; rintro e w1 ⟨rfl, b1⟩; have Q1 := D0.next b1; obtain ⟨g0, g1, g2, g3, g4, g5, g6⟩ := Q1.seen j y HY.out; obtain ⟨h0, h1, h2, h3, h4, h5, h6⟩ := Q1.seen J1 x HX.out)
                | fail))
            clear p0 p1 p2 p3 p4 p5 p6 q0 q1 q2 q3 q4 q5 q6 g0 g1 g2 g3 g4 g5 g6 h0 h1 h2 h3 h4 h5 h6
            go_wp2_with fail
            have D9 := OUT.out (fun l hl => by
              by_cases hn : f y l < 0
              · have := hf.lt_le hn (HTo.out l hl); omega
              · omega) _ Q1
            go_roundw
            case rel => exact ⟨i + 1, L1 ++ [y], L3, by go_num, HLL, .inr hl1, by omega, by omega, by omega, D9⟩
            case measure => simp [intOf]; omega
        · have hja' : ¬ (a : Int) < (j : Int) := by omega
          have hjad : decide ((j : Int) > (a : Int)) = false := by simp; omega
          obtain rfl : A = [] := List.length_eq_zero_iff.1 (by omega)
          have D9 := OUT.out (fun l hl => by cases hl)
          have D9 := hide D9
          go_wp2_with fail
          go_big_region
          all_goals go_wp2_with fail
          go_roundw
          case rel => exact ⟨i + 1, L1 ++ [y], L3, by go_num, HLL, .inr hl1, by omega, by omega, by omega, D9.out _ hD.drew⟩
          case measure => simp [intOf]; omega
    · have hlt' : ¬ (i : Int) < (b : Int) := by omega
      obtain rfl : L2 = [] := List.length_eq_zero_iff.1 (by omega)
      go_wp2_with fail
      go_end0
      exact ⟨rfl, by rw [HL.out, List.append_nil]; simpa using hD⟩

end Go.Proofs.Ytkngmgdcnplkgaa

/-
  Plain laws: where two rising lists are parted so that they may be merged each for itself; no program is named here.
-/
namespace Go.Proofs.Ytkngmgdcnplkgaa
set_option linter.unusedVariables false

section
variable {α : Type} {f : α → α → Int}
theorem srt_idx (h : Cmp3 f) {l : List α} (hs : Srt f l) {i j : Nat} {x y : α} (hij : i ≤ j) (hx : l[i]? = some x) (hy : l[j]? = some y) : f x y ≤ 0 := by
  obtain ⟨hi, rfl⟩ := List.getElem?_eq_some_iff.1 hx
  obtain ⟨hj, rfl⟩ := List.getElem?_eq_some_iff.1 hy
  by_cases e : i = j
  · subst e; rw [h.self]; exact Int.le_refl _
  · exact (List.pairwise_iff_getElem.1 hs) i j hi hj (by omega)
theorem mem_take {l : List α} {n : Nat} {x : α} (h : x ∈ l.take n) : ∃ i, i < n ∧ l[i]? = some x := by
  obtain ⟨i, hi, rfl⟩ := List.mem_iff_getElem.1 h
  rw [List.length_take] at hi
  exact ⟨i, by omega, by rw [List.getElem_take]; exact List.getElem?_eq_getElem (by omega)⟩
theorem mem_drop {l : List α} {n : Nat} {x : α} (h : x ∈ l.drop n) : ∃ i, n ≤ i ∧ l[i]? = some x := by
  obtain ⟨i, hi, rfl⟩ := List.mem_iff_getElem.1 h
  rw [List.length_drop] at hi
  exact ⟨n + i, by omega, by rw [List.getElem_drop]; exact List.getElem?_eq_getElem (by omega)⟩
/-- Two rising lists, parted. -/
theorem sym_parts (h : Cmp3 f) {L R : List α} (hL : Srt f L) (hR : Srt f R) (s e : Nat)
    (lo : s = 0 ∨ e = R.length ∨ ∃ l r, L[s - 1]? = some l ∧ R[e]? = some r ∧ ¬ f r l < 0)
    (hi : s = L.length ∨ e = 0 ∨ ∃ l r, L[s]? = some l ∧ R[e - 1]? = some r ∧ f r l < 0) :
    mrg f L R = mrg f (L.take s) (R.take e) ++ mrg f (L.drop s) (R.drop e) := by
  have := mrg_parts f (L.take s) (L.drop s) (R.take e) (R.drop e) ?_ ?_
  · rw [List.take_append_drop, List.take_append_drop] at this; exact this
  · intro l hl r hr
    obtain ⟨i, hi', hx⟩ := mem_take hl
    obtain ⟨j, hj, hy⟩ := mem_drop hr
    have hjl := (List.getElem?_eq_some_iff.1 hy).1
    rcases lo with h0 | h0 | ⟨l0, r0, h1, h2, h3⟩
    · omega
    · omega
    · intro hc
      have a1 := srt_idx h hL (show i ≤ s - 1 by omega) hx h1
      have a2 := srt_idx h hR hj h2 hy
      exact h3 (h.le_lt a2 (h.lt_le hc a1))
  · intro r hr l hl
    obtain ⟨i, hi', hx⟩ := mem_drop hl
    obtain ⟨j, hj, hy⟩ := mem_take hr
    have hil := (List.getElem?_eq_some_iff.1 hx).1
    rcases hi with h0 | h0 | ⟨l0, r0, h1, h2, h3⟩
    · omega
    · omega
    · have a1 := srt_idx h hL hi' h1 hx
      have a2 := srt_idx h hR (show j ≤ e - 1 by omega) hy h2
      exact h.le_lt a2 (h.lt_le h3 a1)
theorem one_l (h : Cmp3 f) {R : List α} (hR : Srt f R) (x : α) (e : Nat) (lo : e = R.length ∨ ∃ r, R[e]? = some r ∧ ¬ f r x < 0) (hi : e = 0 ∨ ∃ r, R[e - 1]? = some r ∧ f r x < 0) :
    mrg f [x] R = R.take e ++ x :: R.drop e := by
  have := sym_parts h (List.pairwise_singleton _ x : Srt f [x]) hR 0 e (.inl rfl) (by
    rcases hi with h0 | ⟨r, h1, h2⟩
    · exact .inr (.inl h0)
    · exact .inr (.inr ⟨x, r, rfl, h1, h2⟩))
  rw [this, List.take_zero, List.drop_zero, mrg_nil_l]
  congr 1
  have := sym_parts h (List.pairwise_singleton _ x : Srt f [x]) (List.Pairwise.sublist (List.drop_sublist e R) hR : Srt f (R.drop e)) 1 0 (by
    rcases lo with h0 | ⟨r, h1, h2⟩
    · exact .inr (.inl (by rw [List.length_drop]; omega))
    · exact .inr (.inr ⟨x, r, rfl, by rw [List.getElem?_drop, Nat.add_zero]; exact h1, h2⟩)) (.inl rfl)
  rw [this]
  simp [mrg_nil_l, mrg_nil_r]
theorem one_r (h : Cmp3 f) {L : List α} (hL : Srt f L) (y : α) (s : Nat) (lo : s = 0 ∨ ∃ l, L[s - 1]? = some l ∧ ¬ f y l < 0) (hi : s = L.length ∨ ∃ l, L[s]? = some l ∧ f y l < 0) :
    mrg f L [y] = L.take s ++ y :: L.drop s := by
  have := sym_parts h hL (List.pairwise_singleton _ y : Srt f [y]) s 0 (by
    rcases lo with h0 | ⟨l, h1, h2⟩
    · exact .inl h0
    · exact .inr (.inr ⟨l, y, h1, rfl, h2⟩)) (.inr (.inl rfl))
  rw [this, List.take_zero, List.drop_zero, mrg_nil_r]
  congr 1
  have := sym_parts h (List.Pairwise.sublist (List.drop_sublist s L) hL : Srt f (L.drop s)) (List.pairwise_singleton _ y : Srt f [y]) 0 1 (.inl rfl) (by
    rcases hi with h0 | ⟨l, h1, h2⟩
    · exact .inl (by rw [List.length_drop]; omega)
    · exact .inr (.inr ⟨l, y, by rw [List.getElem?_drop, Nat.add_zero]; exact h1, rfl, h2⟩))
  rw [this]
  simp [mrg_nil_l, mrg_nil_r]
end

end Go.Proofs.Ytkngmgdcnplkgaa

/-
  Walks: one element merged into what stands right of it.
-/
namespace Go.Proofs.Ytkngmgdcnplkgaa
open Go.RowKit Go.Shelf
set_option linter.unusedVariables false

theorem zat_l {α : Type} (P R S : List α) (x : α) : (P ++ (x :: (R ++ S)))[P.length]? = some x := by simp
theorem zat_r {α : Type} (P R S : List α) (x : α) (q : Nat) (h : q < R.length) : (P ++ (x :: (R ++ S)))[P.length + 1 + q]? = R[q]? := by
  rw [List.getElem?_append_right (by omega), show P.length + 1 + q - P.length = q + 1 by omega, List.getElem?_cons_succ, List.getElem?_append_left h]

set_option maxRecDepth 100000 in
set_option maxHeartbeats 4000000 in
theorem symL_any {α : Type} (E : Cel α) (f : α → α → Int) (hf : Cmp3 f) (cb : Value) (w0 : World) (B : Nat) (HC : CmpG E f cb w0 B) (P R S : List α) (x : α) (hR : Srt f R) (N a m b : Nat) (hN : (P ++ (x :: (R ++ S))).length = N) (ha : P.length = a) (hm : a + 1 = m) (hb : m + R.length = b) (w : World) (hd : DW E w0 B (P ++ (x :: (R ++ S))) w) (hl : N ≤ 1152921504606846976) :
    Calls Try.prog 105 #[.slice (some ⟨B, 0, none⟩) N N, .int .i64 (a : Int), .int .i64 (m : Int), .int .i64 (b : Int), .func (.func 81) #[] #[cb]] w fun e w' => e = .returned (.tuple #[]) ∧ DW E w0 B (P ++ (mrg f [x] R ++ S)) w' := by
  have hNs : b + S.length = N := by rw [← hN]; simp; omega
  have HC := hide HC
  have HXA : Hid ((P ++ (x :: (R ++ S)))[a]? = some x) := by show _ = _; rw [← ha]; exact zat_l P R S x
  have HZR : Hid (∀ i, m ≤ i → i < b → (P ++ (x :: (R ++ S)))[i]? = R[i - m]?) := by
    intro i h1 h2
    have := zat_r P R S x (i - m) (by omega)
    rwa [ha, show a + 1 + (i - m) = i by omega] at this
  have eM : ((m : Int) - (a : Int) == 1) = true := by simp; omega
  have HO := hide (one_l hf hR x)
  generalize hZ : P ++ (x :: (R ++ S)) = Z at *
  have HZ := hide hZ
  clear hZ hN
  go_enter Try.func105, Try.ntmps105
  go_wp2_with fail
  go_loopw [10, 11] (fun u v wr => ∃ (i j : Nat), u = .int .i64 i ∧ v = .int .i64 j ∧ m ≤ i ∧ i ≤ j ∧ j ≤ b ∧ DW E w0 B Z wr ∧ Hid (j = b ∨ ∃ r, R[j - m]? = some r ∧ 0 ≤ f r x) ∧ Hid (i = m ∨ ∃ r, R[i - m - 1]? = some r ∧ f r x < 0)) (fun u v _ => (intOf v).toNat - (intOf u).toNat)
  case atStart => exact ⟨m, b, rfl, rfl, Nat.le_refl _, by omega, Nat.le_refl _, hd, .inl rfl, .inl rfl⟩
  case round =>
    clear hd
    obtain ⟨i, j, rfl, rfl, hmi, hij, hjb, hD, HJ, HI⟩ := hrel
    by_cases hlt : i < j
    · have hlt' : (i : Int) < (j : Int) := by omega
      obtain ⟨h, hh⟩ : ∃ h : Nat, h = (i + j) / 2 := ⟨_, rfl⟩
      have eH : ((i : Int) + (j : Int)) / 2 = (h : Int) := by omega
      have hih : i ≤ h := by omega
      have hhj : h < j := by omega
      clear hh
      obtain ⟨z, hz⟩ := some_at R (h - m) (by omega)
      have HX : Hid (Z[h]? = some z) := by show _ = _; rw [HZR.out h (by omega) (by omega)]; exact hz
      have HY := HXA
      have HZ1 := hide hz
      clear hz
      have CM := hide (fun W hW => HC.out W hW z x)
      have lh : (h : Int) < (N : Int) := by omega
      have lA : (a : Int) < (N : Int) := by omega
      obtain ⟨p0, p1, p2, p3, p4, p5, p6⟩ := hD.seen h z HX.out
      obtain ⟨q0, q1, q2, q3, q4, q5, q6⟩ := hD.seen a x HY.out
      have D0 := hD.drew
      by_cases hc : f z x < 0
      · go_wp2_with fail
        go_region_held3 (fun w' => w'.cell? ⟨B, h * 7, none⟩ = some (.string (E.c0 z)) ∧ w'.cell? ⟨B, h * 7 + 1, none⟩ = some (.string (E.c1 z)) ∧ w'.cell? ⟨B, h * 7 + 2, none⟩ = some (.string (E.c2 z)) ∧ w'.cell? ⟨B, h * 7 + 3, none⟩ = some (.string (E.c3 z)) ∧ w'.cell? ⟨B, h * 7 + 4, none⟩ = some (.slice (E.c4 z).1 (E.c4 z).2.1 (E.c4 z).2.2) ∧ w'.cell? ⟨B, h * 7 + 5, none⟩ = some (.slice (E.c5 z).1 (E.c5 z).2.1 (E.c5 z).2.2) ∧ w'.cell? ⟨B, h * 7 + 6, none⟩ = some (.bool (E.c6 z)) ∧ w'.cell? ⟨B, a * 7, none⟩ = some (.string (E.c0 x)) ∧ w'.cell? ⟨B, a * 7 + 1, none⟩ = some (.string (E.c1 x)) ∧ w'.cell? ⟨B, a * 7 + 2, none⟩ = some (.string (E.c2 x)) ∧ w'.cell? ⟨B, a * 7 + 3, none⟩ = some (.string (E.c3 x)) ∧ w'.cell? ⟨B, a * 7 + 4, none⟩ = some (.slice (E.c4 x).1 (E.c4 x).2.1 (E.c4 x).2.2) ∧ w'.cell? ⟨B, a * 7 + 5, none⟩ = some (.slice (E.c5 x).1 (E.c5 x).2.1 (E.c5 x).2.2) ∧ w'.cell? ⟨B, a * 7 + 6, none⟩ = some (.bool (E.c6 x)))
          (go_keep)
          ((first
            | (go_at_call 81; refine (CM.out _ D0.turn).mono ?_; rintro e w1 ⟨rfl, b1⟩; have Q1 := D0.next b1; obtain ⟨g0, g1, g2, g3, g4, g5, g6⟩ := Q1.seen h z HX.out; obtain ⟨h0, h1, h2, h3, h4, h5, h6⟩ := Q1.seen a x HY.out)
            | fail))
        clear p0 p1 p2 p3 p4 p5 p6 q0 q1 q2 q3 q4 q5 q6 g0 g1 g2 g3 g4 g5 g6 h0 h1 h2 h3 h4 h5 h6
        go_wp2_with fail
        go_roundw
        case rel => exact ⟨h + 1, j, by go_num, rfl, by omega, by omega, hjb, Q1, HJ, .inr ⟨z, by rw [show h + 1 - m - 1 = h - m by omega]; exact HZ1.out, hc⟩⟩
        case measure => simp [intOf]; omega
      · go_wp2_with fail
        go_region_held3 (fun w' => w'.cell? ⟨B, h * 7, none⟩ = some (.string (E.c0 z)) ∧ w'.cell? ⟨B, h * 7 + 1, none⟩ = some (.string (E.c1 z)) ∧ w'.cell? ⟨B, h * 7 + 2, none⟩ = some (.string (E.c2 z)) ∧ w'.cell? ⟨B, h * 7 + 3, none⟩ = some (.string (E.c3 z)) ∧ w'.cell? ⟨B, h * 7 + 4, none⟩ = some (.slice (E.c4 z).1 (E.c4 z).2.1 (E.c4 z).2.2) ∧ w'.cell? ⟨B, h * 7 + 5, none⟩ = some (.slice (E.c5 z).1 (E.c5 z).2.1 (E.c5 z).2.2) ∧ w'.cell? ⟨B, h * 7 + 6, none⟩ = some (.bool (E.c6 z)) ∧ w'.cell? ⟨B, a * 7, none⟩ = some (.string (E.c0 x)) ∧ w'.cell? ⟨B, a * 7 + 1, none⟩ = some (.string (E.c1 x)) ∧ w'.cell? ⟨B, a * 7 + 2, none⟩ = some (.string (E.c2 x)) ∧ w'.cell? ⟨B, a * 7 + 3, none⟩ = some (.string (E.c3 x)) ∧ w'.cell? ⟨B, a * 7 + 4, none⟩ = some (.slice (E.c4 x).1 (E.c4 x).2.1 (E.c4 x).2.2) ∧ w'.cell? ⟨B, a * 7 + 5, none⟩ = some (.slice (E.c5 x).1 (E.c5 x).2.1 (E.c5 x).2.2) ∧ w'.cell? ⟨B, a * 7 + 6, none⟩ = some (.bool (E.c6 x)))
          (go_keep)
          ((first
            | (go_at_call 81; refine (CM.out _ D0.turn).mono ?_; rintro e w1 ⟨rfl, b1⟩; have Q1 := D0.next b1; obtain ⟨g0, g1, g2, g3, g4, g5, g6⟩ := Q1.seen h z HX.out; obtain ⟨h0, h1, h2, h3, h4, h5, h6⟩ := Q1.seen a x HY.out)
            | fail))
        clear p0 p1 p2 p3 p4 p5 p6 q0 q1 q2 q3 q4 q5 q6 g0 g1 g2 g3 g4 g5 g6 h0 h1 h2 h3 h4 h5 h6
        go_wp2_with fail
        go_roundw
        case rel => exact ⟨i, h, rfl, rfl, hmi, hih, by omega, Q1, .inr ⟨z, HZ1.out, by omega⟩, HI⟩
        case measure => simp [intOf]; omega
    · have hlt' : ¬ (i : Int) < (j : Int) := by omega
      obtain rfl : i = j := by omega
      have HM : Hid (mrg f [x] R = R.take (i - m) ++ x :: R.drop (i - m)) := HO.out (i - m) (by
        rcases HJ.out with h | ⟨r, h1, h2⟩
        · exact .inl (by omega)
        · exact .inr ⟨r, h1, by omega⟩) (by
        rcases HI.out with h | h
        · exact .inl (by omega)
        · exact .inr h)
      have HT : Hid ((R.take (i - m)).length = i - m) := by show _ = _; rw [List.length_take]; omega
      have hZD : DW E w0 B (P ++ (x :: (R.take (i - m) ++ (R.drop (i - m) ++ S)))) wr := by
        rw [← List.append_assoc (R.take (i - m)), List.take_append_drop, HZ.out]; exact hD
      have hRd : (R.drop (i - m)).length = b - i := by rw [List.length_drop]; omega
      generalize R.take (i - m) = T1 at *
      generalize R.drop (i - m) = T2 at *
      clear hD HJ HI HZR HXA HO
      go_wp2_with fail
      go_loopw [13] (fun u wr2 => ∃ (q : Nat) (A C : List α), u = .int .i64 q ∧ Hid (T1 = A ++ C) ∧ a + A.length = q ∧ a + A.length + 1 + C.length = i ∧ DW E w0 B (P ++ (A ++ (x :: (C ++ (T2 ++ S))))) wr2) (fun u _ => i - (intOf u).toNat)
      case atStart => exact ⟨a, [], T1, rfl, rfl, by simp, by have := HT.out; simp; omega, hZD⟩
      case round =>
        clear hZD
        obtain ⟨q, A, C, rfl, HAC, hq, hqi, hD⟩ := hrel
        by_cases hlq : q + 1 < i
        · have hlq' : (q : Int) < (i : Int) - 1 := by omega
          obtain ⟨z, C', rfl⟩ : ∃ z C', C = z :: C' := by
            cases C with
            | nil => simp at hqi; omega
            | cons z C' => exact ⟨z, C', rfl⟩
          have hx : (P ++ (A ++ (x :: ((z :: C') ++ (T2 ++ S)))))[q]? = some x := by
            rw [← List.append_assoc, List.getElem?_append_right (by simp; omega), show q - (P ++ A).length = 0 by simp; omega]; rfl
          have hy : (P ++ (A ++ (x :: ((z :: C') ++ (T2 ++ S)))))[q + 1]? = some z := by
            rw [← List.append_assoc, List.getElem?_append_right (by simp; omega), show q + 1 - (P ++ A).length = 1 by simp; omega]; rfl
          have HSW : Hid (swp (P ++ (A ++ (x :: ((z :: C') ++ (T2 ++ S))))) q (q + 1) = P ++ ((A ++ [z]) ++ (x :: (C' ++ (T2 ++ S))))) := by
            have := swp_parts (P ++ A) [] (C' ++ (T2 ++ S)) x z
            rw [show (P ++ A).length = q by simp; omega, List.length_nil, Nat.add_zero] at this
            show _ = _
            have e1 : P ++ (A ++ (x :: ((z :: C') ++ (T2 ++ S)))) = (P ++ A) ++ x :: ([] ++ z :: (C' ++ (T2 ++ S))) := by simp
            rw [e1, this]; simp
          have hA1 : a + (A ++ [z]).length = q + 1 := by simp; omega
          have hC1 : a + (A ++ [z]).length + 1 + C'.length = i := by simp at hqi ⊢; omega
          have HAC' : Hid (T1 = (A ++ [z]) ++ C') := by show _ = _; rw [HAC.out]; simp
          have HX := hide hx
          have HY := hide hy
          generalize hZZ : P ++ (A ++ (x :: ((z :: C') ++ (T2 ++ S)))) = ZZ at *
          have eK : (q : Int) + 1 = ((q + 1 : Nat) : Int) := by omega
          have lq : (q : Int) < (N : Int) := by omega
          have lK : ((q + 1 : Nat) : Int) < (N : Int) := by omega
          have wK : IntKind.i64.wrap ((q + 1 : Nat) : Int) = ((q + 1 : Nat) : Int) := by rw [IntKind.wrap_i64]; omega
          have hqK : q < q + 1 := by omega
          generalize hK1 : q + 1 = K1 at *
          clear hZZ hx hy hqi hq
          obtain ⟨p0, p1, p2, p3, p4, p5, p6⟩ := hD.seen q x HX.out
          obtain ⟨q0, q1, q2, q3, q4, q5, q6⟩ := hD.seen K1 z HY.out
          have z0 := hD.free (q * 7)
          have z1 := hD.free (q * 7 + 1)
          have z2 := hD.free (q * 7 + 2)
          have z3 := hD.free (q * 7 + 3)
          have z4 := hD.free (q * 7 + 4)
          have z5 := hD.free (q * 7 + 5)
          have z6 := hD.free (q * 7 + 6)
          have y0 := hD.free (K1 * 7)
          have y1 := hD.free (K1 * 7 + 1)
          have y2 := hD.free (K1 * 7 + 2)
          have y3 := hD.free (K1 * 7 + 3)
          have y4 := hD.free (K1 * 7 + 4)
          have y5 := hD.free (K1 * 7 + 5)
          have y6 := hD.free (K1 * 7 + 6)
          go_wp2_with fail
          go_big_region
          all_goals go_wp2_with fail
          go_roundw
          case rel => exact ⟨K1, A ++ [z], C', by first | rfl | go_num, HAC', hA1, hC1, by rw [← HSW.out]; exact (hD.swap HX.out HY.out).drew⟩
          case measure => simp [intOf]; omega
        · have hlq' : ¬ (q : Int) < (i : Int) - 1 := by omega
          obtain rfl : C = [] := List.length_eq_zero_iff.1 (by omega)
          go_wp2_with fail
          refine bodyPost_ret (results_none rfl _ _ _) rfl ?_
          refine ⟨rfl, ?_⟩
          rw [HM.out, HAC.out]
          simpa using hD

end Go.Proofs.Ytkngmgdcnplkgaa

/-
  Walks: one element merged into what stands left of it.
-/
namespace Go.Proofs.Ytkngmgdcnplkgaa
open Go.RowKit Go.Shelf
set_option linter.unusedVariables false

theorem zar_l {α : Type} (P L S : List α) (y : α) (q : Nat) (h : q < L.length) : (P ++ (L ++ (y :: S)))[P.length + q]? = L[q]? := by
  rw [List.getElem?_append_right (by omega), show P.length + q - P.length = q by omega, List.getElem?_append_left h]
theorem zar_r {α : Type} (P L S : List α) (y : α) : (P ++ (L ++ (y :: S)))[P.length + L.length]? = some y := by
  rw [List.getElem?_append_right (by omega), show P.length + L.length - P.length = L.length by omega]; simp

set_option maxRecDepth 100000 in
set_option maxHeartbeats 4000000 in
theorem symR_any {α : Type} (E : Cel α) (f : α → α → Int) (hf : Cmp3 f) (cb : Value) (w0 : World) (B : Nat) (HC : CmpG E f cb w0 B) (P L S : List α) (y : α) (hL : Srt f L) (N a m b : Nat) (hN : (P ++ (L ++ (y :: S))).length = N) (ha : P.length = a) (hm : a + L.length = m) (hb : m + 1 = b) (hL1 : L.length ≠ 1) (w : World) (hd : DW E w0 B (P ++ (L ++ (y :: S))) w) (hl : N ≤ 1152921504606846976) :
    Calls Try.prog 105 #[.slice (some ⟨B, 0, none⟩) N N, .int .i64 (a : Int), .int .i64 (m : Int), .int .i64 (b : Int), .func (.func 81) #[] #[cb]] w fun e w' => e = .returned (.tuple #[]) ∧ DW E w0 B (P ++ (mrg f L [y] ++ S)) w' := by
  have hNs : b + S.length = N := by rw [← hN]; simp; omega
  have HC := hide HC
  have HYA : Hid ((P ++ (L ++ (y :: S)))[m]? = some y) := by show _ = _; have := zar_r P L S y; rwa [ha, hm] at this
  have HZL : Hid (∀ i, a ≤ i → i < m → (P ++ (L ++ (y :: S)))[i]? = L[i - a]?) := by
    intro i h1 h2
    have := zar_l P L S y (i - a) (by omega)
    rwa [ha, show a + (i - a) = i by omega] at this
  have eM : ((m : Int) - (a : Int) == 1) = false := by simp; omega
  have eB : ((b : Int) - (m : Int) == 1) = true := by simp; omega
  have HO := hide (one_r hf hL y)
  generalize hZ : P ++ (L ++ (y :: S)) = Z at *
  have HZ := hide hZ
  clear hZ hN hL1
  go_enter Try.func105, Try.ntmps105
  go_wp2_with fail
  go_loopw [14, 15] (fun u v wr => ∃ (i j : Nat), u = .int .i64 i ∧ v = .int .i64 j ∧ a ≤ i ∧ i ≤ j ∧ j ≤ m ∧ DW E w0 B Z wr ∧ Hid (i = a ∨ ∃ l, L[i - a - 1]? = some l ∧ 0 ≤ f y l) ∧ Hid (j = m ∨ ∃ l, L[j - a]? = some l ∧ f y l < 0)) (fun u v _ => (intOf v).toNat - (intOf u).toNat)
  case atStart => exact ⟨a, m, rfl, rfl, Nat.le_refl _, by omega, Nat.le_refl _, hd, .inl rfl, .inl rfl⟩
  case round =>
    clear hd
    obtain ⟨i, j, rfl, rfl, hai, hij, hjm, hD, HI, HJ⟩ := hrel
    by_cases hlt : i < j
    · have hlt' : (i : Int) < (j : Int) := by omega
      obtain ⟨h, hh⟩ : ∃ h : Nat, h = (i + j) / 2 := ⟨_, rfl⟩
      have eH : ((i : Int) + (j : Int)) / 2 = (h : Int) := by omega
      have hih : i ≤ h := by omega
      have hhj : h < j := by omega
      clear hh
      obtain ⟨z, hz⟩ := some_at L (h - a) (by omega)
      have HY : Hid (Z[h]? = some z) := by show _ = _; rw [HZL.out h (by omega) (by omega)]; exact hz
      have HX := HYA
      have HZ1 := hide hz
      clear hz
      have CM := hide (fun W hW => HC.out W hW y z)
      have lh : (h : Int) < (N : Int) := by omega
      have lm : (m : Int) < (N : Int) := by omega
      obtain ⟨p0, p1, p2, p3, p4, p5, p6⟩ := hD.seen m y HX.out
      obtain ⟨q0, q1, q2, q3, q4, q5, q6⟩ := hD.seen h z HY.out
      have D0 := hD.drew
      by_cases hc : f y z < 0
      · have hcd : decide (f y z < 0) = true := by simpa using hc
        go_wp2_with fail
        go_region_held3 (fun w' => w'.cell? ⟨B, m * 7, none⟩ = some (.string (E.c0 y)) ∧ w'.cell? ⟨B, m * 7 + 1, none⟩ = some (.string (E.c1 y)) ∧ w'.cell? ⟨B, m * 7 + 2, none⟩ = some (.string (E.c2 y)) ∧ w'.cell? ⟨B, m * 7 + 3, none⟩ = some (.string (E.c3 y)) ∧ w'.cell? ⟨B, m * 7 + 4, none⟩ = some (.slice (E.c4 y).1 (E.c4 y).2.1 (E.c4 y).2.2) ∧ w'.cell? ⟨B, m * 7 + 5, none⟩ = some (.slice (E.c5 y).1 (E.c5 y).2.1 (E.c5 y).2.2) ∧ w'.cell? ⟨B, m * 7 + 6, none⟩ = some (.bool (E.c6 y)) ∧ w'.cell? ⟨B, h * 7, none⟩ = some (.string (E.c0 z)) ∧ w'.cell? ⟨B, h * 7 + 1, none⟩ = some (.string (E.c1 z)) ∧ w'.cell? ⟨B, h * 7 + 2, none⟩ = some (.string (E.c2 z)) ∧ w'.cell? ⟨B, h * 7 + 3, none⟩ = some (.string (E.c3 z)) ∧ w'.cell? ⟨B, h * 7 + 4, none⟩ = some (.slice (E.c4 z).1 (E.c4 z).2.1 (E.c4 z).2.2) ∧ w'.cell? ⟨B, h * 7 + 5, none⟩ = some (.slice (E.c5 z).1 (E.c5 z).2.1 (E.c5 z).2.2) ∧ w'.cell? ⟨B, h * 7 + 6, none⟩ = some (.bool (E.c6 z)))
          (go_keep)
          ((first
            | (go_at_call 81; refine (CM.out _ D0.turn).mono ?_; rintro e w1 ⟨rfl, b1⟩; have Q1 := D0.next b1; obtain ⟨g0, g1, g2, g3, g4, g5, g6⟩ := Q1.seen m y HX.out; obtain ⟨h0, h1, h2, h3, h4, h5, h6⟩ := Q1.seen h z HY.out)
            | fail))
        clear p0 p1 p2 p3 p4 p5 p6 q0 q1 q2 q3 q4 q5 q6 g0 g1 g2 g3 g4 g5 g6 h0 h1 h2 h3 h4 h5 h6
        go_wp2_with fail
        go_roundw
        case rel => exact ⟨i, h, rfl, rfl, hai, hih, by omega, Q1, HI, .inr ⟨z, HZ1.out, hc⟩⟩
        case measure => simp [intOf]; omega
      · have hcd : decide (f y z < 0) = false := by simpa using hc
        go_wp2_with fail
        go_region_held3 (fun w' => w'.cell? ⟨B, m * 7, none⟩ = some (.string (E.c0 y)) ∧ w'.cell? ⟨B, m * 7 + 1, none⟩ = some (.string (E.c1 y)) ∧ w'.cell? ⟨B, m * 7 + 2, none⟩ = some (.string (E.c2 y)) ∧ w'.cell? ⟨B, m * 7 + 3, none⟩ = some (.string (E.c3 y)) ∧ w'.cell? ⟨B, m * 7 + 4, none⟩ = some (.slice (E.c4 y).1 (E.c4 y).2.1 (E.c4 y).2.2) ∧ w'.cell? ⟨B, m * 7 + 5, none⟩ = some (.slice (E.c5 y).1 (E.c5 y).2.1 (E.c5 y).2.2) ∧ w'.cell? ⟨B, m * 7 + 6, none⟩ = some (.bool (E.c6 y)) ∧ w'.cell? ⟨B, h * 7, none⟩ = some (.string (E.c0 z)) ∧ w'.cell? ⟨B, h * 7 + 1, none⟩ = some (.string (E.c1 z)) ∧ w'.cell? ⟨B, h * 7 + 2, none⟩ = some (.string (E.c2 z)) ∧ w'.cell? ⟨B, h * 7 + 3, none⟩ = some (.string (E.c3 z)) ∧ w'.cell? ⟨B, h * 7 + 4, none⟩ = some (.slice (E.c4 z).1 (E.c4 z).2.1 (E.c4 z).2.2) ∧ w'.cell? ⟨B, h * 7 + 5, none⟩ = some (.slice (E.c5 z).1 (E.c5 z).2.1 (E.c5 z).2.2) ∧ w'.cell? ⟨B, h * 7 + 6, none⟩ = some (.bool (E.c6 z)))
          (go_keep)
          ((first
            | (go_at_call 81; refine (CM.out _ D0.turn).mono ?_; rintro e w1 ⟨rfl, b1⟩; have Q1 := D0.next b1; obtain ⟨g0, g1, g2, g3, g4, g5, g6⟩ := Q1.seen m y HX.out; obtain ⟨h0, h1, h2, h3, h4, h5, h6⟩ := Q1.seen h z HY.out)
            | fail))
        clear p0 p1 p2 p3 p4 p5 p6 q0 q1 q2 q3 q4 q5 q6 g0 g1 g2 g3 g4 g5 g6 h0 h1 h2 h3 h4 h5 h6
        go_wp2_with fail
        go_roundw
        case rel => exact ⟨h + 1, j, by go_num, rfl, by omega, by omega, hjm, Q1, .inr ⟨z, by rw [show h + 1 - a - 1 = h - a by omega]; exact HZ1.out, by omega⟩, HJ⟩
        case measure => simp [intOf]; omega
    · have hlt' : ¬ (i : Int) < (j : Int) := by omega
      obtain rfl : i = j := by omega
      have HM : Hid (mrg f L [y] = L.take (i - a) ++ y :: L.drop (i - a)) := HO.out (i - a) (by
        rcases HI.out with h | ⟨r, h1, h2⟩
        · exact .inl (by omega)
        · exact .inr ⟨r, h1, by omega⟩) (by
        rcases HJ.out with h | h
        · exact .inl (by omega)
        · exact .inr h)
      have hT : (L.take (i - a)).length = i - a := by rw [List.length_take]; omega
      have HT2 : Hid ((L.drop (i - a)).length = m - i) := by show _ = _; rw [List.length_drop]; omega
      have hZD : DW E w0 B ((P ++ L.take (i - a)) ++ (L.drop (i - a) ++ (y :: S))) wr := by
        have e1 : (P ++ L.take (i - a)) ++ (L.drop (i - a) ++ (y :: S)) = P ++ (L ++ (y :: S)) := by
          rw [List.append_assoc, ← List.append_assoc (L.take (i - a)), List.take_append_drop]
        rw [e1, HZ.out]; exact hD
      have hPT : (P ++ L.take (i - a)).length = i := by rw [List.length_append, hT]; omega
      generalize L.take (i - a) = T1 at *
      generalize L.drop (i - a) = T2 at *
      have HFin : Hid (P ++ (mrg f L [y] ++ S) = (P ++ T1) ++ (y :: (T2 ++ S))) := by show _ = _; rw [HM.out]; simp
      generalize P ++ T1 = PT at *
      clear hD HJ HI HZL HYA HO hT
      go_wp2_with fail
      go_loopw [17] (fun u wr2 => ∃ (q : Nat) (A C : List α), u = .int .i64 q ∧ Hid (T2 = A ++ C) ∧ i + A.length = q ∧ q ≤ m ∧ DW E w0 B (PT ++ (A ++ (y :: (C ++ S)))) wr2) (fun u _ => (intOf u).toNat)
      case atStart => exact ⟨m, T2, [], rfl, by simp [Hid], by have := HT2.out; omega, Nat.le_refl _, by simpa using hZD⟩
      case round =>
        clear hZD
        obtain ⟨q, A, C, rfl, HAC, hq, hqm, hD⟩ := hrel
        by_cases hlq : i < q
        · have hlq' : (i : Int) < (q : Int) := by omega
          obtain ⟨A', z, rfl⟩ := last_of A (by omega)
          have hA' : i + A'.length + 1 = q := by simp at hq; omega
          have hx : (PT ++ ((A' ++ [z]) ++ (y :: (C ++ S))))[q]? = some y := by
            rw [← List.append_assoc, List.getElem?_append_right (by simp; omega), show q - (PT ++ (A' ++ [z])).length = 0 by simp; omega]; rfl
          have hy : (PT ++ ((A' ++ [z]) ++ (y :: (C ++ S))))[q - 1]? = some z := by
            rw [List.append_assoc, ← List.append_assoc, List.getElem?_append_right (by simp; omega), show q - 1 - (PT ++ A').length = 0 by simp; omega]; rfl
          have HSW : Hid (swp (PT ++ ((A' ++ [z]) ++ (y :: (C ++ S)))) q (q - 1) = PT ++ (A' ++ (y :: ((z :: C) ++ S)))) := by
            show _ = _
            have e1 : PT ++ ((A' ++ [z]) ++ (y :: (C ++ S))) = (PT ++ A') ++ z :: ([] ++ y :: (C ++ S)) := by simp
            have := swp_parts (PT ++ A') [] (C ++ S) z y
            rw [show (PT ++ A').length = q - 1 by simp; omega, List.length_nil, Nat.add_zero, show q - 1 + 1 = q by omega, ← e1] at this
            have e2 : swp (PT ++ ((A' ++ [z]) ++ (y :: (C ++ S)))) q (q - 1) = swp (PT ++ ((A' ++ [z]) ++ (y :: (C ++ S)))) (q - 1) q := by
              rw [swp_at hx hy, swp_at hy hx, List.set_comm _ _ (by omega)]
            rw [e2, this]; simp
          have HAC' : Hid (T2 = A' ++ (z :: C)) := by show _ = _; rw [HAC.out]; simp
          have HX := hide hx
          have HY := hide hy
          generalize hZZ : PT ++ ((A' ++ [z]) ++ (y :: (C ++ S))) = ZZ at *
          have eK : (q : Int) - 1 = ((q - 1 : Nat) : Int) := by omega
          have lq : (q : Int) < (N : Int) := by omega
          have lK : ((q - 1 : Nat) : Int) < (N : Int) := by omega
          have wK : IntKind.i64.wrap ((q - 1 : Nat) : Int) = ((q - 1 : Nat) : Int) := by rw [IntKind.wrap_i64]; omega
          have hqK : q - 1 + 1 = q := by omega
          generalize hK1 : q - 1 = K1 at *
          clear hZZ hx hy hq hK1
          obtain ⟨p0, p1, p2, p3, p4, p5, p6⟩ := hD.seen q y HX.out
          obtain ⟨q0, q1, q2, q3, q4, q5, q6⟩ := hD.seen K1 z HY.out
          have z0 := hD.free (q * 7)
          have z1 := hD.free (q * 7 + 1)
          have z2 := hD.free (q * 7 + 2)
          have z3 := hD.free (q * 7 + 3)
          have z4 := hD.free (q * 7 + 4)
          have z5 := hD.free (q * 7 + 5)
          have z6 := hD.free (q * 7 + 6)
          have y0 := hD.free (K1 * 7)
          have y1 := hD.free (K1 * 7 + 1)
          have y2 := hD.free (K1 * 7 + 2)
          have y3 := hD.free (K1 * 7 + 3)
          have y4 := hD.free (K1 * 7 + 4)
          have y5 := hD.free (K1 * 7 + 5)
          have y6 := hD.free (K1 * 7 + 6)
          go_wp2_with fail
          go_big_region
          all_goals go_wp2_with fail
          go_roundw
          case rel => exact ⟨K1, A', z :: C, by first | rfl | go_num, HAC', by omega, by omega, by rw [← HSW.out]; exact (hD.swap HX.out HY.out).drew⟩
          case measure => simp [intOf]; omega
        · have hlq' : ¬ (i : Int) < (q : Int) := by omega
          obtain rfl : A = [] := List.length_eq_zero_iff.1 (by omega)
          go_wp2_with fail
          refine bodyPost_ret (results_none rfl _ _ _) rfl ?_
          refine ⟨rfl, ?_⟩
          rw [HFin.out, HAC.out]
          simpa using hD

end Go.Proofs.Ytkngmgdcnplkgaa

/-
  Walks: two ranges merged: they are parted, turned and merged each for itself.
-/
namespace Go.Proofs.Ytkngmgdcnplkgaa
open Go.RowKit Go.Shelf
set_option linter.unusedVariables false

theorem zg_l {α : Type} (P L R S : List α) (q : Nat) (h : q < L.length) : (P ++ (L ++ (R ++ S)))[P.length + q]? = L[q]? := by
  rw [List.getElem?_append_right (by omega), show P.length + q - P.length = q by omega, List.getElem?_append_left h]
theorem zg_r {α : Type} (P L R S : List α) (q : Nat) (h : q < R.length) : (P ++ (L ++ (R ++ S)))[P.length + L.length + q]? = R[q]? := by
  rw [List.getElem?_append_right (by omega), show P.length + L.length + q - P.length = L.length + q by omega, List.getElem?_append_right (by omega), show L.length + q - L.length = q by omega, List.getElem?_append_left h]

/-- What a smaller merge does. -/
def SymIH {α : Type} (E : Cel α) (f : α → α → Int) (cb : Value) (w0 : World) (B N M : Nat) : Prop :=
  ∀ (P L R S : List α) (a m b : Nat), P.length = a → a + L.length = m → m + R.length = b → (P ++ (L ++ (R ++ S))).length = N → Srt f L → Srt f R → 0 < L.length → 0 < R.length → L.length + R.length < M → ∀ w, DW E w0 B (P ++ (L ++ (R ++ S))) w →
    Calls Try.prog 105 #[.slice (some ⟨B, 0, none⟩) N N, .int .i64 (a : Int), .int .i64 (m : Int), .int .i64 (b : Int), .func (.func 81) #[] #[cb]] w fun e w' => e = .returned (.tuple #[]) ∧ DW E w0 B (P ++ (mrg f L R ++ S)) w'

/-- What is left to do behind the search. -/
def SymEnd {α : Type} (E : Cel α) (w0 : World) (B : Nat) (T : List α) (Ω : Ending → World → Prop) : Prop := ∀ w, DW E w0 B T w → Ω (.returned (.tuple #[])) w


end Go.Proofs.Ytkngmgdcnplkgaa

/-
  Walks: two ranges merged, the left one the longer.
-/
namespace Go.Proofs.Ytkngmgdcnplkgaa
open Go.RowKit Go.Shelf
set_option linter.unusedVariables false

set_option maxRecDepth 100000 in
set_option maxHeartbeats 8000000 in
theorem symG_any {α : Type} (E : Cel α) (f : α → α → Int) (hf : Cmp3 f) (cb : Value) (w0 : World) (B : Nat) (HC : CmpG E f cb w0 B) (P L R S : List α) (hL : Srt f L) (hR : Srt f R) (N a m b mid : Nat) (hN : (P ++ (L ++ (R ++ S))).length = N) (ha : P.length = a) (hm : a + L.length = m) (hb : m + R.length = b) (hL1 : 2 ≤ L.length) (hR1 : 2 ≤ R.length) (hmid : mid = (a + b) / 2) (hbig : mid < m) (IH : SymIH E f cb w0 B N (L.length + R.length)) (w : World) (hd : DW E w0 B (P ++ (L ++ (R ++ S))) w) (hl : N ≤ 1152921504606846976) :
    Calls Try.prog 105 #[.slice (some ⟨B, 0, none⟩) N N, .int .i64 (a : Int), .int .i64 (m : Int), .int .i64 (b : Int), .func (.func 81) #[] #[cb]] w fun e w' => e = .returned (.tuple #[]) ∧ DW E w0 B (P ++ (mrg f L R ++ S)) w' := by
  have hNs : b + S.length = N := by rw [← hN]; simp; omega
  have HC := hide HC
  have IH := hide IH
  have HZL : Hid (∀ i, a ≤ i → i < m → (P ++ (L ++ (R ++ S)))[i]? = L[i - a]?) := by
    intro i h1 h2
    have := zg_l P L R S (i - a) (by omega)
    rwa [ha, show a + (i - a) = i by omega] at this
  have HZR : Hid (∀ i, m ≤ i → i < b → (P ++ (L ++ (R ++ S)))[i]? = R[i - m]?) := by
    intro i h1 h2
    have := zg_r P L R S (i - m) (by omega)
    rwa [ha, hm, show m + (i - m) = i by omega] at this
  have eM : ((m : Int) - (a : Int) == 1) = false := by simp; omega
  have eB : ((b : Int) - (m : Int) == 1) = false := by simp; omega
  have eMid : ((a : Int) + (b : Int)) / 2 = (mid : Int) := by omega
  have hma : a < mid := by omega
  have hmb : mid < b := by omega
  obtain ⟨n, hn⟩ : ∃ n, n = mid + m := ⟨_, rfl⟩
  have en : (mid : Int) + (m : Int) = (n : Int) := by omega
  have n1 : n ≤ mid + m := by omega
  have n2 : mid + m ≤ n := by omega
  obtain ⟨p, hp⟩ : ∃ p, p = n - 1 := ⟨_, rfl⟩
  have ep : (n : Int) - 1 = (p : Int) := by omega
  have p1 : p + 1 ≤ n := by omega
  have p2 : n ≤ p + 1 := by omega
  clear hn hp
  obtain ⟨lo, hlo⟩ : ∃ lo, lo = n - b := ⟨_, rfl⟩
  have elo : (n : Int) - (b : Int) = (lo : Int) := by omega
  obtain ⟨hi, hhi⟩ : ∃ hi, hi = mid := ⟨_, rfl⟩
  have hbig' : (mid : Int) < (m : Int) := by omega
  have o1 : lo + b ≤ n := by omega
  have o2 : n ≤ lo + b := by omega
  have o3 : mid ≤ hi := by omega
  have h4 : hi ≤ mid := by omega
  clear hlo hhi
  have h1 : a ≤ lo := by omega
  have h2 : hi ≤ m := by omega
  have h3 : lo ≤ hi := by omega
  have h5 : n ≤ lo + b := by omega
  have h6 : m ≤ n - hi := by omega
  have HPa : Hid (∀ s, lo ≤ s → s ≤ hi → ((s = lo ∨ ∃ l y, (P ++ (L ++ (R ++ S)))[s - 1]? = some l ∧ (P ++ (L ++ (R ++ S)))[p - (s - 1)]? = some y ∧ 0 ≤ f y l)) → (s = hi ∨ ∃ l y, (P ++ (L ++ (R ++ S)))[s]? = some l ∧ (P ++ (L ++ (R ++ S)))[p - s]? = some y ∧ f y l < 0) →
      mrg f L R = mrg f (L.take (s - a)) (R.take (mid - s)) ++ mrg f (L.drop (s - a)) (R.drop (mid - s))) := by
    intro s k1 k2 k3 k4
    refine sym_parts hf hL hR (s - a) (mid - s) ?_ ?_
    · rcases k3 with k | ⟨l, y, q1, q2, q3⟩
      · exact .inr (.inl (by omega))
      · by_cases e1 : s = lo
        · exact .inr (.inl (by omega))
        · refine .inr (.inr ⟨l, y, ?_, ?_, by omega⟩)
          · rw [← q1, HZL.out (s - 1) (by omega) (by omega)]; congr 1; omega
          · rw [← q2, HZR.out (p - (s - 1)) (by omega) (by omega)]; congr 1; omega
    · rcases k4 with k | ⟨l, y, q1, q2, q3⟩
      · exact .inr (.inl (by omega))
      · by_cases e1 : s = hi
        · exact .inr (.inl (by omega))
        · refine .inr (.inr ⟨l, y, ?_, ?_, q3⟩)
          · rw [← q1, HZL.out s (by omega) (by omega)]
          · rw [← q2, HZR.out (p - s) (by omega) (by omega)]; congr 1; omega
  have HG : Hid (∀ i, a ≤ i → i < b → ∃ x, (P ++ (L ++ (R ++ S)))[i]? = some x) := fun i k1 k2 => some_at _ i (by rw [hN]; omega)
  have HSL := hide hL
  have HSR := hide hR
  generalize hZ : P ++ (L ++ (R ++ S)) = Z at *
  have HZ := hide hZ
  clear hZ hL hR HZL HZR
  have hmid' := hide hmid
  clear hmid
  go_enter Try.func105, Try.ntmps105
  go_wp2_with fail
  go_loopw [20, 21] (fun u v wr => ∃ (s r : Nat), u = .int .i64 s ∧ v = .int .i64 r ∧ lo ≤ s ∧ s ≤ r ∧ r ≤ hi ∧ DW E w0 B Z wr ∧ Hid (s = lo ∨ ∃ l y, Z[s - 1]? = some l ∧ Z[p - (s - 1)]? = some y ∧ 0 ≤ f y l) ∧ Hid (r = hi ∨ ∃ l y, Z[r]? = some l ∧ Z[p - r]? = some y ∧ f y l < 0)) (fun u v _ => (intOf v).toNat - (intOf u).toNat)
  case atStart => exact ⟨lo, hi, by first | rfl | (congr 1; omega), by first | rfl | (congr 1; omega), Nat.le_refl _, h3, Nat.le_refl _, hd, .inl rfl, .inl rfl⟩
  case round =>
    clear hd
    obtain ⟨s, r, rfl, rfl, hls, hsr, hrh, hD, HS, HRr⟩ := hrel
    by_cases hlt : s < r
    · have hlt' : (s : Int) < (r : Int) := by omega
      obtain ⟨c, hc0⟩ : ∃ c : Nat, c = (s + r) / 2 := ⟨_, rfl⟩
      have eC : ((s : Int) + (r : Int)) / 2 = (c : Int) := by omega
      have hsc : s ≤ c := by omega
      have hcr : c < r := by omega
      clear hc0
      obtain ⟨K1, hK1⟩ : ∃ K1, K1 = p - c := ⟨_, rfl⟩
      have eK : (p : Int) - (c : Int) = (K1 : Int) := by omega
      have lK : (K1 : Int) < (N : Int) := by omega
      have lC : (c : Int) < (N : Int) := by omega
      have wK : IntKind.i64.wrap (K1 : Int) = (K1 : Int) := by rw [IntKind.wrap_i64]; omega
      obtain ⟨x, hx⟩ := HG.out c (by omega) (by omega)
      obtain ⟨y, hy⟩ := HG.out K1 (by omega) (by omega)
      have HX := hide hy
      have HY := hide hx
      have HKy : Hid (Z[p - c]? = some y) := by show _ = _; rw [← hK1]; exact hy
      clear hx hy hK1
      have CM := hide (fun W hW => HC.out W hW y x)
      obtain ⟨p0, p1, p2, p3, p4, p5, p6⟩ := hD.seen K1 y HX.out
      obtain ⟨q0, q1, q2, q3, q4, q5, q6⟩ := hD.seen c x HY.out
      have D0 := hD.drew
      by_cases hc : f y x < 0
      · have hcd : decide (f y x < 0) = true := by simpa using hc
        go_wp2_with fail
        go_region_held3 (fun w' => w'.cell? ⟨B, K1 * 7, none⟩ = some (.string (E.c0 y)) ∧ w'.cell? ⟨B, K1 * 7 + 1, none⟩ = some (.string (E.c1 y)) ∧ w'.cell? ⟨B, K1 * 7 + 2, none⟩ = some (.string (E.c2 y)) ∧ w'.cell? ⟨B, K1 * 7 + 3, none⟩ = some (.string (E.c3 y)) ∧ w'.cell? ⟨B, K1 * 7 + 4, none⟩ = some (.slice (E.c4 y).1 (E.c4 y).2.1 (E.c4 y).2.2) ∧ w'.cell? ⟨B, K1 * 7 + 5, none⟩ = some (.slice (E.c5 y).1 (E.c5 y).2.1 (E.c5 y).2.2) ∧ w'.cell? ⟨B, K1 * 7 + 6, none⟩ = some (.bool (E.c6 y)) ∧ w'.cell? ⟨B, c * 7, none⟩ = some (.string (E.c0 x)) ∧ w'.cell? ⟨B, c * 7 + 1, none⟩ = some (.string (E.c1 x)) ∧ w'.cell? ⟨B, c * 7 + 2, none⟩ = some (.string (E.c2 x)) ∧ w'.cell? ⟨B, c * 7 + 3, none⟩ = some (.string (E.c3 x)) ∧ w'.cell? ⟨B, c * 7 + 4, none⟩ = some (.slice (E.c4 x).1 (E.c4 x).2.1 (E.c4 x).2.2) ∧ w'.cell? ⟨B, c * 7 + 5, none⟩ = some (.slice (E.c5 x).1 (E.c5 x).2.1 (E.c5 x).2.2) ∧ w'.cell? ⟨B, c * 7 + 6, none⟩ = some (.bool (E.c6 x)))
          (go_keep)
          ((first
            | (go_at_call 81; refine (CM.out _ D0.turn).mono ?_; rintro e w1 ⟨rfl, b1⟩; have Q1 := D0.next b1; obtain ⟨g0, g1, g2, g3, g4, g5, g6⟩ := Q1.seen K1 y HX.out; obtain ⟨h0, h1, h2, h3, h4, h5, h6⟩ := Q1.seen c x HY.out)
            | fail))
        clear p0 p1 p2 p3 p4 p5 p6 q0 q1 q2 q3 q4 q5 q6 g0 g1 g2 g3 g4 g5 g6 h0 h1 h2 h3 h4 h5 h6
        go_wp2_with fail
        go_roundw
        case rel => exact ⟨s, c, rfl, rfl, hls, hsc, by omega, Q1, HS, .inr ⟨x, y, HY.out, HKy.out, hc⟩⟩
        case measure => simp [intOf]; omega
      · have hcd : decide (f y x < 0) = false := by simpa using hc
        go_wp2_with fail
        go_region_held3 (fun w' => w'.cell? ⟨B, K1 * 7, none⟩ = some (.string (E.c0 y)) ∧ w'.cell? ⟨B, K1 * 7 + 1, none⟩ = some (.string (E.c1 y)) ∧ w'.cell? ⟨B, K1 * 7 + 2, none⟩ = some (.string (E.c2 y)) ∧ w'.cell? ⟨B, K1 * 7 + 3, none⟩ = some (.string (E.c3 y)) ∧ w'.cell? ⟨B, K1 * 7 + 4, none⟩ = some (.slice (E.c4 y).1 (E.c4 y).2.1 (E.c4 y).2.2) ∧ w'.cell? ⟨B, K1 * 7 + 5, none⟩ = some (.slice (E.c5 y).1 (E.c5 y).2.1 (E.c5 y).2.2) ∧ w'.cell? ⟨B, K1 * 7 + 6, none⟩ = some (.bool (E.c6 y)) ∧ w'.cell? ⟨B, c * 7, none⟩ = some (.string (E.c0 x)) ∧ w'.cell? ⟨B, c * 7 + 1, none⟩ = some (.string (E.c1 x)) ∧ w'.cell? ⟨B, c * 7 + 2, none⟩ = some (.string (E.c2 x)) ∧ w'.cell? ⟨B, c * 7 + 3, none⟩ = some (.string (E.c3 x)) ∧ w'.cell? ⟨B, c * 7 + 4, none⟩ = some (.slice (E.c4 x).1 (E.c4 x).2.1 (E.c4 x).2.2) ∧ w'.cell? ⟨B, c * 7 + 5, none⟩ = some (.slice (E.c5 x).1 (E.c5 x).2.1 (E.c5 x).2.2) ∧ w'.cell? ⟨B, c * 7 + 6, none⟩ = some (.bool (E.c6 x)))
          (go_keep)
          ((first
            | (go_at_call 81; refine (CM.out _ D0.turn).mono ?_; rintro e w1 ⟨rfl, b1⟩; have Q1 := D0.next b1; obtain ⟨g0, g1, g2, g3, g4, g5, g6⟩ := Q1.seen K1 y HX.out; obtain ⟨h0, h1, h2, h3, h4, h5, h6⟩ := Q1.seen c x HY.out)
            | fail))
        clear p0 p1 p2 p3 p4 p5 p6 q0 q1 q2 q3 q4 q5 q6 g0 g1 g2 g3 g4 g5 g6 h0 h1 h2 h3 h4 h5 h6
        go_wp2_with fail
        go_roundw
        case rel => exact ⟨c + 1, r, by go_num, rfl, by omega, by omega, hrh, Q1, .inr ⟨x, y, by rw [Nat.add_sub_cancel]; exact HY.out, by rw [Nat.add_sub_cancel]; exact HKy.out, by omega⟩, HRr⟩
        case measure => simp [intOf]; omega
    · have hlt' : ¬ (s : Int) < (r : Int) := by omega
      obtain rfl : s = r := by omega
      have HM := hide (HPa.out s hls hrh HS.out HRr.out)
      have a1 : (L.take (s - a)).length = s - a := by rw [List.length_take]; omega
      have a2 : (L.drop (s - a)).length = m - s := by rw [List.length_drop]; omega
      have a3 : (R.take (mid - s)).length = mid - s := by rw [List.length_take]; omega
      have a4 : (R.drop (mid - s)).length = b - (n - s) := by rw [List.length_drop]; omega
      have HE : Hid (Z = (P ++ L.take (s - a)) ++ (L.drop (s - a) ++ (R.take (mid - s) ++ (R.drop (mid - s) ++ S)))) := by
        show _ = _
        rw [← HZ.out, List.append_assoc, ← List.append_assoc (L.take (s - a)), List.take_append_drop, ← List.append_assoc (R.take (mid - s)), List.take_append_drop]
      have s1 : Hid (Srt f (L.take (s - a))) := List.Pairwise.sublist (List.take_sublist _ _) HSL.out
      have s2 : Hid (Srt f (L.drop (s - a))) := List.Pairwise.sublist (List.drop_sublist _ _) HSL.out
      have s3 : Hid (Srt f (R.take (mid - s))) := List.Pairwise.sublist (List.take_sublist _ _) HSR.out
      have s4 : Hid (Srt f (R.drop (mid - s))) := List.Pairwise.sublist (List.drop_sublist _ _) HSR.out
      generalize L.take (s - a) = L1 at *
      generalize L.drop (s - a) = L2 at *
      generalize R.take (mid - s) = R1 at *
      generalize R.drop (mid - s) = R2 at *
      obtain ⟨en2, hen⟩ : ∃ en2, en2 = n - s := ⟨_, rfl⟩
      have een : (n : Int) - (s : Int) = (en2 : Int) := by omega
      have en3 : en2 + s ≤ n := by omega
      have en4 : n ≤ en2 + s := by omega
      have hD : DW E w0 B ((P ++ L1) ++ (L2 ++ (R1 ++ (R2 ++ S)))) wr := by rw [← HE.out]; exact hD
      have HN2 : Hid (((P ++ L1) ++ (L2 ++ (R1 ++ (R2 ++ S)))).length = N) := by show _ = _; rw [← HE.out]; exact hN
      have HN3 : Hid ((P ++ (L1 ++ (R1 ++ (L2 ++ (R2 ++ S))))).length = N) := by show _ = _; rw [← HN2.out]; simp only [List.length_append]; omega
      have HN4 : Hid (((P ++ mrg f L1 R1) ++ (L2 ++ (R2 ++ S))).length = N) := by show _ = _; rw [← HN2.out]; simp only [List.length_append, mrg_length]; omega
      have ROT := fun h1 h2 => rotate_any E w0 B (P ++ L1) L2 R1 (R2 ++ S) N s m en2 HN2.out (by rw [List.length_append]; omega) (by omega) (by omega) h1 h2 (.func (.func 81) #[] #[cb])
      have REB := fun h1 h2 => IH.out P L1 R1 (L2 ++ (R2 ++ S)) a s mid ha (by omega) (by omega) HN3.out s1.out s3.out h1 h2 (by omega)
      have REC := fun h1 h2 => IH.out (P ++ mrg f L1 R1) L2 R2 S mid en2 b (by rw [List.length_append, mrg_length]; omega) (by omega) (by omega) HN4.out s2.out s4.out h1 h2 (by omega)
      have ROT := hide ROT
      have REB := hide REB
      have REC := hide REC
      have HF : Hid (P ++ (mrg f L R ++ S) = (P ++ mrg f L1 R1) ++ (mrg f L2 R2 ++ S)) := by show _ = _; rw [HM.out]; simp
      clear HE HN2 HN3 HN4 HM HS HRr HPa HG HZ HSL HSR s1 s2 s3 s4 IH HC hen
      by_cases z1 : 0 < L1.length
      · by_cases z2 : 0 < L2.length
        · by_cases z3 : 0 < R1.length
          · by_cases z4 : 0 < R2.length
            · have f1 : (s : Int) < (m : Int) := by omega
              have f2 : (m : Int) < (en2 : Int) := by omega
              have f3 : (a : Int) < (s : Int) := by omega
              have f4 : (s : Int) < (mid : Int) := by omega
              have f5 : (mid : Int) < (en2 : Int) := by omega
              have f6 : (en2 : Int) < (b : Int) := by omega
              first
              | (exfalso; omega)
              | (skip
                 go_wp2_with fail
                 refine (ROT.out (by omega) (by omega) _ hD (by omega)).mono ?_
                 rintro e w1 ⟨rfl, d1⟩
                 have d1 : DW E w0 B (P ++ (L1 ++ (R1 ++ (L2 ++ (R2 ++ S))))) w1 := by simpa using d1
                 go_wp2_with fail
                 refine (REB.out (by omega) (by omega) _ d1).mono ?_
                 rintro e w2 ⟨rfl, d2⟩
                 have d2 : DW E w0 B ((P ++ mrg f L1 R1) ++ (L2 ++ (R2 ++ S))) w2 := by simpa using d2
                 go_wp2_with fail
                 refine (REC.out (by omega) (by omega) _ d2).mono ?_
                 rintro e w3 ⟨rfl, d3⟩
                 go_wp2_with fail
                 go_end0
                 exact ⟨rfl, by rw [HF.out]; exact d3⟩)
            · have f1 : (s : Int) < (m : Int) := by omega
              have f2 : (m : Int) < (en2 : Int) := by omega
              have f3 : (a : Int) < (s : Int) := by omega
              have f4 : (s : Int) < (mid : Int) := by omega
              have f5 : (mid : Int) < (en2 : Int) := by omega
              have f6 : ¬ (en2 : Int) < (b : Int) := by omega
              obtain rfl : R2 = [] := List.length_eq_zero_iff.1 (by omega)
              first
              | (exfalso; omega)
              | (skip
                 go_wp2_with fail
                 refine (ROT.out (by omega) (by omega) _ hD (by omega)).mono ?_
                 rintro e w1 ⟨rfl, d1⟩
                 have d1 : DW E w0 B (P ++ (L1 ++ (R1 ++ (L2 ++ ([] ++ S))))) w1 := by simpa using d1
                 go_wp2_with fail
                 refine (REB.out (by omega) (by omega) _ d1).mono ?_
                 rintro e w2 ⟨rfl, d2⟩
                 have d2 : DW E w0 B ((P ++ mrg f L1 R1) ++ (L2 ++ ([] ++ S))) w2 := by simpa using d2
                 go_wp2_with fail
                 go_end0
                 exact ⟨rfl, by rw [HF.out]; simpa [mrg_nil_l, mrg_nil_r] using d2⟩)
          · by_cases z4 : 0 < R2.length
            · have f1 : (s : Int) < (m : Int) := by omega
              have f2 : ¬ (m : Int) < (en2 : Int) := by omega
              have f3 : (a : Int) < (s : Int) := by omega
              have f4 : ¬ (s : Int) < (mid : Int) := by omega
              have f5 : (mid : Int) < (en2 : Int) := by omega
              have f6 : (en2 : Int) < (b : Int) := by omega
              obtain rfl : R1 = [] := List.length_eq_zero_iff.1 (by omega)
              first
              | (exfalso; omega)
              | (skip
                 go_wp2_with fail
                 have d1 : DW E w0 B (P ++ (L1 ++ ([] ++ (L2 ++ (R2 ++ S))))) wr := by simpa using hD
                 have d2 : DW E w0 B ((P ++ mrg f L1 []) ++ (L2 ++ (R2 ++ S))) wr := by simpa [mrg_nil_l, mrg_nil_r] using d1
                 refine (REC.out (by omega) (by omega) _ d2).mono ?_
                 rintro e w3 ⟨rfl, d3⟩
                 go_wp2_with fail
                 go_end0
                 exact ⟨rfl, by rw [HF.out]; exact d3⟩)
            · exfalso; omega
        · by_cases z3 : 0 < R1.length
          · by_cases z4 : 0 < R2.length
            · have f1 : ¬ (s : Int) < (m : Int) := by omega
              have f2 : (m : Int) < (en2 : Int) := by omega
              have f3 : (a : Int) < (s : Int) := by omega
              have f4 : (s : Int) < (mid : Int) := by omega
              have f5 : ¬ (mid : Int) < (en2 : Int) := by omega
              have f6 : (en2 : Int) < (b : Int) := by omega
              obtain rfl : L2 = [] := List.length_eq_zero_iff.1 (by omega)
              first
              | (exfalso; omega)
              | (skip
                 go_wp2_with fail
                 have d1 : DW E w0 B (P ++ (L1 ++ (R1 ++ ([] ++ (R2 ++ S))))) wr := by simpa using hD
                 refine (REB.out (by omega) (by omega) _ d1).mono ?_
                 rintro e w2 ⟨rfl, d2⟩
                 have d2 : DW E w0 B ((P ++ mrg f L1 R1) ++ ([] ++ (R2 ++ S))) w2 := by simpa using d2
                 go_wp2_with fail
                 go_end0
                 exact ⟨rfl, by rw [HF.out]; simpa [mrg_nil_l, mrg_nil_r] using d2⟩)
            · have f1 : ¬ (s : Int) < (m : Int) := by omega
              have f2 : (m : Int) < (en2 : Int) := by omega
              have f3 : (a : Int) < (s : Int) := by omega
              have f4 : (s : Int) < (mid : Int) := by omega
              have f5 : ¬ (mid : Int) < (en2 : Int) := by omega
              have f6 : ¬ (en2 : Int) < (b : Int) := by omega
              obtain rfl : L2 = [] := List.length_eq_zero_iff.1 (by omega)
              obtain rfl : R2 = [] := List.length_eq_zero_iff.1 (by omega)
              first
              | (exfalso; omega)
              | (skip
                 go_wp2_with fail
                 have d1 : DW E w0 B (P ++ (L1 ++ (R1 ++ ([] ++ ([] ++ S))))) wr := by simpa using hD
                 refine (REB.out (by omega) (by omega) _ d1).mono ?_
                 rintro e w2 ⟨rfl, d2⟩
                 have d2 : DW E w0 B ((P ++ mrg f L1 R1) ++ ([] ++ ([] ++ S))) w2 := by simpa using d2
                 go_wp2_with fail
                 go_end0
                 exact ⟨rfl, by rw [HF.out]; simpa [mrg_nil_l, mrg_nil_r] using d2⟩)
          · by_cases z4 : 0 < R2.length
            · have f1 : ¬ (s : Int) < (m : Int) := by omega
              have f2 : ¬ (m : Int) < (en2 : Int) := by omega
              have f3 : (a : Int) < (s : Int) := by omega
              have f4 : ¬ (s : Int) < (mid : Int) := by omega
              have f5 : ¬ (mid : Int) < (en2 : Int) := by omega
              have f6 : (en2 : Int) < (b : Int) := by omega
              obtain rfl : R1 = [] := List.length_eq_zero_iff.1 (by omega)
              obtain rfl : L2 = [] := List.length_eq_zero_iff.1 (by omega)
              first
              | (exfalso; omega)
              | (skip
                 go_wp2_with fail
                 have d1 : DW E w0 B (P ++ (L1 ++ ([] ++ ([] ++ (R2 ++ S))))) wr := by simpa using hD
                 have d2 : DW E w0 B ((P ++ mrg f L1 []) ++ ([] ++ (R2 ++ S))) wr := by simpa [mrg_nil_l, mrg_nil_r] using d1
                 go_end0
                 exact ⟨rfl, by rw [HF.out]; simpa [mrg_nil_l, mrg_nil_r] using d2⟩)
            · exfalso; omega
      · by_cases z2 : 0 < L2.length
        · by_cases z3 : 0 < R1.length
          · by_cases z4 : 0 < R2.length
            · have f1 : (s : Int) < (m : Int) := by omega
              have f2 : (m : Int) < (en2 : Int) := by omega
              have f3 : ¬ (a : Int) < (s : Int) := by omega
              have f4 : (s : Int) < (mid : Int) := by omega
              have f5 : (mid : Int) < (en2 : Int) := by omega
              have f6 : (en2 : Int) < (b : Int) := by omega
              obtain rfl : L1 = [] := List.length_eq_zero_iff.1 (by omega)
              first
              | (exfalso; omega)
              | (skip
                 go_wp2_with fail
                 refine (ROT.out (by omega) (by omega) _ hD (by omega)).mono ?_
                 rintro e w1 ⟨rfl, d1⟩
                 have d1 : DW E w0 B (P ++ ([] ++ (R1 ++ (L2 ++ (R2 ++ S))))) w1 := by simpa using d1
                 go_wp2_with fail
                 have d2 : DW E w0 B ((P ++ mrg f [] R1) ++ (L2 ++ (R2 ++ S))) w1 := by simpa [mrg_nil_l, mrg_nil_r] using d1
                 refine (REC.out (by omega) (by omega) _ d2).mono ?_
                 rintro e w3 ⟨rfl, d3⟩
                 go_wp2_with fail
                 go_end0
                 exact ⟨rfl, by rw [HF.out]; exact d3⟩)
            · have f1 : (s : Int) < (m : Int) := by omega
              have f2 : (m : Int) < (en2 : Int) := by omega
              have f3 : ¬ (a : Int) < (s : Int) := by omega
              have f4 : (s : Int) < (mid : Int) := by omega
              have f5 : (mid : Int) < (en2 : Int) := by omega
              have f6 : ¬ (en2 : Int) < (b : Int) := by omega
              obtain rfl : L1 = [] := List.length_eq_zero_iff.1 (by omega)
              obtain rfl : R2 = [] := List.length_eq_zero_iff.1 (by omega)
              first
              | (exfalso; omega)
              | (skip
                 go_wp2_with fail
                 refine (ROT.out (by omega) (by omega) _ hD (by omega)).mono ?_
                 rintro e w1 ⟨rfl, d1⟩
                 have d1 : DW E w0 B (P ++ ([] ++ (R1 ++ (L2 ++ ([] ++ S))))) w1 := by simpa using d1
                 go_wp2_with fail
                 have d2 : DW E w0 B ((P ++ mrg f [] R1) ++ (L2 ++ ([] ++ S))) w1 := by simpa [mrg_nil_l, mrg_nil_r] using d1
                 go_end0
                 exact ⟨rfl, by rw [HF.out]; simpa [mrg_nil_l, mrg_nil_r] using d2⟩)
          · by_cases z4 : 0 < R2.length
            · have f1 : (s : Int) < (m : Int) := by omega
              have f2 : ¬ (m : Int) < (en2 : Int) := by omega
              have f3 : ¬ (a : Int) < (s : Int) := by omega
              have f4 : ¬ (s : Int) < (mid : Int) := by omega
              have f5 : (mid : Int) < (en2 : Int) := by omega
              have f6 : (en2 : Int) < (b : Int) := by omega
              obtain rfl : L1 = [] := List.length_eq_zero_iff.1 (by omega)
              obtain rfl : R1 = [] := List.length_eq_zero_iff.1 (by omega)
              first
              | (exfalso; omega)
              | (skip
                 go_wp2_with fail
                 have d1 : DW E w0 B (P ++ ([] ++ ([] ++ (L2 ++ (R2 ++ S))))) wr := by simpa using hD
                 have d2 : DW E w0 B ((P ++ mrg f [] []) ++ (L2 ++ (R2 ++ S))) wr := by simpa [mrg_nil_l, mrg_nil_r] using d1
                 refine (REC.out (by omega) (by omega) _ d2).mono ?_
                 rintro e w3 ⟨rfl, d3⟩
                 go_wp2_with fail
                 go_end0
                 exact ⟨rfl, by rw [HF.out]; exact d3⟩)
            · exfalso; omega
        · exfalso; omega

end Go.Proofs.Ytkngmgdcnplkgaa

/-
  Walks: two ranges merged, the right one the longer.
-/
namespace Go.Proofs.Ytkngmgdcnplkgaa
open Go.RowKit Go.Shelf
set_option linter.unusedVariables false

set_option maxRecDepth 100000 in
set_option maxHeartbeats 8000000 in
theorem symH_any {α : Type} (E : Cel α) (f : α → α → Int) (hf : Cmp3 f) (cb : Value) (w0 : World) (B : Nat) (HC : CmpG E f cb w0 B) (P L R S : List α) (hL : Srt f L) (hR : Srt f R) (N a m b mid : Nat) (hN : (P ++ (L ++ (R ++ S))).length = N) (ha : P.length = a) (hm : a + L.length = m) (hb : m + R.length = b) (hL1 : 2 ≤ L.length) (hR1 : 2 ≤ R.length) (hmid : mid = (a + b) / 2) (hbig : m ≤ mid) (IH : SymIH E f cb w0 B N (L.length + R.length)) (w : World) (hd : DW E w0 B (P ++ (L ++ (R ++ S))) w) (hl : N ≤ 1152921504606846976) :
    Calls Try.prog 105 #[.slice (some ⟨B, 0, none⟩) N N, .int .i64 (a : Int), .int .i64 (m : Int), .int .i64 (b : Int), .func (.func 81) #[] #[cb]] w fun e w' => e = .returned (.tuple #[]) ∧ DW E w0 B (P ++ (mrg f L R ++ S)) w' := by
  have hNs : b + S.length = N := by rw [← hN]; simp; omega
  have HC := hide HC
  have IH := hide IH
  have HZL : Hid (∀ i, a ≤ i → i < m → (P ++ (L ++ (R ++ S)))[i]? = L[i - a]?) := by
    intro i h1 h2
    have := zg_l P L R S (i - a) (by omega)
    rwa [ha, show a + (i - a) = i by omega] at this
  have HZR : Hid (∀ i, m ≤ i → i < b → (P ++ (L ++ (R ++ S)))[i]? = R[i - m]?) := by
    intro i h1 h2
    have := zg_r P L R S (i - m) (by omega)
    rwa [ha, hm, show m + (i - m) = i by omega] at this
  have eM : ((m : Int) - (a : Int) == 1) = false := by simp; omega
  have eB : ((b : Int) - (m : Int) == 1) = false := by simp; omega
  have eMid : ((a : Int) + (b : Int)) / 2 = (mid : Int) := by omega
  have hma : a < mid := by omega
  have hmb : mid < b := by omega
  obtain ⟨n, hn⟩ : ∃ n, n = mid + m := ⟨_, rfl⟩
  have en : (mid : Int) + (m : Int) = (n : Int) := by omega
  have n1 : n ≤ mid + m := by omega
  have n2 : mid + m ≤ n := by omega
  obtain ⟨p, hp⟩ : ∃ p, p = n - 1 := ⟨_, rfl⟩
  have ep : (n : Int) - 1 = (p : Int) := by omega
  have p1 : p + 1 ≤ n := by omega
  have p2 : n ≤ p + 1 := by omega
  clear hn hp
  obtain ⟨lo, hlo⟩ : ∃ lo, lo = a := ⟨_, rfl⟩
  obtain ⟨hi, hhi⟩ : ∃ hi, hi = m := ⟨_, rfl⟩
  have hbig' : ¬ (mid : Int) < (m : Int) := by omega
  have o1 : lo ≤ a := by omega
  have o3 : m ≤ hi := by omega
  have h4 : hi ≤ mid := by omega
  have h2 : hi ≤ m := by omega
  have h1 : a ≤ lo := by omega
  clear hlo hhi
  have h1 : a ≤ lo := by omega
  have h2 : hi ≤ m := by omega
  have h3 : lo ≤ hi := by omega
  have h5 : n ≤ lo + b := by omega
  have h6 : m ≤ n - hi := by omega
  have HPa : Hid (∀ s, lo ≤ s → s ≤ hi → ((s = lo ∨ ∃ l y, (P ++ (L ++ (R ++ S)))[s - 1]? = some l ∧ (P ++ (L ++ (R ++ S)))[p - (s - 1)]? = some y ∧ 0 ≤ f y l)) → (s = hi ∨ ∃ l y, (P ++ (L ++ (R ++ S)))[s]? = some l ∧ (P ++ (L ++ (R ++ S)))[p - s]? = some y ∧ f y l < 0) →
      mrg f L R = mrg f (L.take (s - a)) (R.take (mid - s)) ++ mrg f (L.drop (s - a)) (R.drop (mid - s))) := by
    intro s k1 k2 k3 k4
    refine sym_parts hf hL hR (s - a) (mid - s) ?_ ?_
    · rcases k3 with k | ⟨l, y, q1, q2, q3⟩
      · exact .inl (by omega)
      · by_cases e1 : s = lo
        · exact .inl (by omega)
        · refine .inr (.inr ⟨l, y, ?_, ?_, by omega⟩)
          · rw [← q1, HZL.out (s - 1) (by omega) (by omega)]; congr 1; omega
          · rw [← q2, HZR.out (p - (s - 1)) (by omega) (by omega)]; congr 1; omega
    · rcases k4 with k | ⟨l, y, q1, q2, q3⟩
      · exact .inl (by omega)
      · by_cases e1 : s = hi
        · exact .inl (by omega)
        · refine .inr (.inr ⟨l, y, ?_, ?_, q3⟩)
          · rw [← q1, HZL.out s (by omega) (by omega)]
          · rw [← q2, HZR.out (p - s) (by omega) (by omega)]; congr 1; omega
  have HG : Hid (∀ i, a ≤ i → i < b → ∃ x, (P ++ (L ++ (R ++ S)))[i]? = some x) := fun i k1 k2 => some_at _ i (by rw [hN]; omega)
  have HSL := hide hL
  have HSR := hide hR
  generalize hZ : P ++ (L ++ (R ++ S)) = Z at *
  have HZ := hide hZ
  clear hZ hL hR HZL HZR
  have hmid' := hide hmid
  clear hmid
  go_enter Try.func105, Try.ntmps105
  go_wp2_with fail
  go_loopw [20, 21] (fun u v wr => ∃ (s r : Nat), u = .int .i64 s ∧ v = .int .i64 r ∧ lo ≤ s ∧ s ≤ r ∧ r ≤ hi ∧ DW E w0 B Z wr ∧ Hid (s = lo ∨ ∃ l y, Z[s - 1]? = some l ∧ Z[p - (s - 1)]? = some y ∧ 0 ≤ f y l) ∧ Hid (r = hi ∨ ∃ l y, Z[r]? = some l ∧ Z[p - r]? = some y ∧ f y l < 0)) (fun u v _ => (intOf v).toNat - (intOf u).toNat)
  case atStart => exact ⟨lo, hi, by first | rfl | (congr 1; omega), by first | rfl | (congr 1; omega), Nat.le_refl _, h3, Nat.le_refl _, hd, .inl rfl, .inl rfl⟩
  case round =>
    clear hd
    obtain ⟨s, r, rfl, rfl, hls, hsr, hrh, hD, HS, HRr⟩ := hrel
    by_cases hlt : s < r
    · have hlt' : (s : Int) < (r : Int) := by omega
      obtain ⟨c, hc0⟩ : ∃ c : Nat, c = (s + r) / 2 := ⟨_, rfl⟩
      have eC : ((s : Int) + (r : Int)) / 2 = (c : Int) := by omega
      have hsc : s ≤ c := by omega
      have hcr : c < r := by omega
      clear hc0
      obtain ⟨K1, hK1⟩ : ∃ K1, K1 = p - c := ⟨_, rfl⟩
      have eK : (p : Int) - (c : Int) = (K1 : Int) := by omega
      have lK : (K1 : Int) < (N : Int) := by omega
      have lC : (c : Int) < (N : Int) := by omega
      have wK : IntKind.i64.wrap (K1 : Int) = (K1 : Int) := by rw [IntKind.wrap_i64]; omega
      obtain ⟨x, hx⟩ := HG.out c (by omega) (by omega)
      obtain ⟨y, hy⟩ := HG.out K1 (by omega) (by omega)
      have HX := hide hy
      have HY := hide hx
      have HKy : Hid (Z[p - c]? = some y) := by show _ = _; rw [← hK1]; exact hy
      clear hx hy hK1
      have CM := hide (fun W hW => HC.out W hW y x)
      obtain ⟨p0, p1, p2, p3, p4, p5, p6⟩ := hD.seen K1 y HX.out
      obtain ⟨q0, q1, q2, q3, q4, q5, q6⟩ := hD.seen c x HY.out
      have D0 := hD.drew
      by_cases hc : f y x < 0
      · have hcd : decide (f y x < 0) = true := by simpa using hc
        go_wp2_with fail
        go_region_held3 (fun w' => w'.cell? ⟨B, K1 * 7, none⟩ = some (.string (E.c0 y)) ∧ w'.cell? ⟨B, K1 * 7 + 1, none⟩ = some (.string (E.c1 y)) ∧ w'.cell? ⟨B, K1 * 7 + 2, none⟩ = some (.string (E.c2 y)) ∧ w'.cell? ⟨B, K1 * 7 + 3, none⟩ = some (.string (E.c3 y)) ∧ w'.cell? ⟨B, K1 * 7 + 4, none⟩ = some (.slice (E.c4 y).1 (E.c4 y).2.1 (E.c4 y).2.2) ∧ w'.cell? ⟨B, K1 * 7 + 5, none⟩ = some (.slice (E.c5 y).1 (E.c5 y).2.1 (E.c5 y).2.2) ∧ w'.cell? ⟨B, K1 * 7 + 6, none⟩ = some (.bool (E.c6 y)) ∧ w'.cell? ⟨B, c * 7, none⟩ = some (.string (E.c0 x)) ∧ w'.cell? ⟨B, c * 7 + 1, none⟩ = some (.string (E.c1 x)) ∧ w'.cell? ⟨B, c * 7 + 2, none⟩ = some (.string (E.c2 x)) ∧ w'.cell? ⟨B, c * 7 + 3, none⟩ = some (.string (E.c3 x)) ∧ w'.cell? ⟨B, c * 7 + 4, none⟩ = some (.slice (E.c4 x).1 (E.c4 x).2.1 (E.c4 x).2.2) ∧ w'.cell? ⟨B, c * 7 + 5, none⟩ = some (.slice (E.c5 x).1 (E.c5 x).2.1 (E.c5 x).2.2) ∧ w'.cell? ⟨B, c * 7 + 6, none⟩ = some (.bool (E.c6 x)))
          (go_keep)
          ((first
            | (go_at_call 81; refine (CM.out _ D0.turn).mono ?_; rintro e w1 ⟨rfl, b1⟩; have Q1 := D0.next b1; obtain ⟨g0, g1, g2, g3, g4, g5, g6⟩ := Q1.seen K1 y HX.out; obtain ⟨h0, h1, h2, h3, h4, h5, h6⟩ := Q1.seen c x HY.out)
            | fail))
        clear p0 p1 p2 p3 p4 p5 p6 q0 q1 q2 q3 q4 q5 q6 g0 g1 g2 g3 g4 g5 g6 h0 h1 h2 h3 h4 h5 h6
        go_wp2_with fail
        go_roundw
        case rel => exact ⟨s, c, rfl, rfl, hls, hsc, by omega, Q1, HS, .inr ⟨x, y, HY.out, HKy.out, hc⟩⟩
        case measure => simp [intOf]; omega
      · have hcd : decide (f y x < 0) = false := by simpa using hc
        go_wp2_with fail
        go_region_held3 (fun w' => w'.cell? ⟨B, K1 * 7, none⟩ = some (.string (E.c0 y)) ∧ w'.cell? ⟨B, K1 * 7 + 1, none⟩ = some (.string (E.c1 y)) ∧ w'.cell? ⟨B, K1 * 7 + 2, none⟩ = some (.string (E.c2 y)) ∧ w'.cell? ⟨B, K1 * 7 + 3, none⟩ = some (.string (E.c3 y)) ∧ w'.cell? ⟨B, K1 * 7 + 4, none⟩ = some (.slice (E.c4 y).1 (E.c4 y).2.1 (E.c4 y).2.2) ∧ w'.cell? ⟨B, K1 * 7 + 5, none⟩ = some (.slice (E.c5 y).1 (E.c5 y).2.1 (E.c5 y).2.2) ∧ w'.cell? ⟨B, K1 * 7 + 6, none⟩ = some (.bool (E.c6 y)) ∧ w'.cell? ⟨B, c * 7, none⟩ = some (.string (E.c0 x)) ∧ w'.cell? ⟨B, c * 7 + 1, none⟩ = some (.string (E.c1 x)) ∧ w'.cell? ⟨B, c * 7 + 2, none⟩ = some (.string (E.c2 x)) ∧ w'.cell? ⟨B, c * 7 + 3, none⟩ = some (.string (E.c3 x)) ∧ w'.cell? ⟨B, c * 7 + 4, none⟩ = some (.slice (E.c4 x).1 (E.c4 x).2.1 (E.c4 x).2.2) ∧ w'.cell? ⟨B, c * 7 + 5, none⟩ = some (.slice (E.c5 x).1 (E.c5 x).2.1 (E.c5 x).2.2) ∧ w'.cell? ⟨B, c * 7 + 6, none⟩ = some (.bool (E.c6 x)))
          (go_keep)
          ((first
            | (go_at_call 81; refine (CM.out _ D0.turn).mono ?_; rintro e w1 ⟨rfl, b1⟩; have Q1 := D0.next b1; obtain ⟨g0, g1, g2, g3, g4, g5, g6⟩ := Q1.seen K1 y HX.out; obtain ⟨h0, h1, h2, h3, h4, h5, h6⟩ := Q1.seen c x HY.out)
            | fail))
        clear p0 p1 p2 p3 p4 p5 p6 q0 q1 q2 q3 q4 q5 q6 g0 g1 g2 g3 g4 g5 g6 h0 h1 h2 h3 h4 h5 h6
        go_wp2_with fail
        go_roundw
        case rel => exact ⟨c + 1, r, by go_num, rfl, by omega, by omega, hrh, Q1, .inr ⟨x, y, by rw [Nat.add_sub_cancel]; exact HY.out, by rw [Nat.add_sub_cancel]; exact HKy.out, by omega⟩, HRr⟩
        case measure => simp [intOf]; omega
    · have hlt' : ¬ (s : Int) < (r : Int) := by omega
      obtain rfl : s = r := by omega
      have HM := hide (HPa.out s hls hrh HS.out HRr.out)
      have a1 : (L.take (s - a)).length = s - a := by rw [List.length_take]; omega
      have a2 : (L.drop (s - a)).length = m - s := by rw [List.length_drop]; omega
      have a3 : (R.take (mid - s)).length = mid - s := by rw [List.length_take]; omega
      have a4 : (R.drop (mid - s)).length = b - (n - s) := by rw [List.length_drop]; omega
      have HE : Hid (Z = (P ++ L.take (s - a)) ++ (L.drop (s - a) ++ (R.take (mid - s) ++ (R.drop (mid - s) ++ S)))) := by
        show _ = _
        rw [← HZ.out, List.append_assoc, ← List.append_assoc (L.take (s - a)), List.take_append_drop, ← List.append_assoc (R.take (mid - s)), List.take_append_drop]
      have s1 : Hid (Srt f (L.take (s - a))) := List.Pairwise.sublist (List.take_sublist _ _) HSL.out
      have s2 : Hid (Srt f (L.drop (s - a))) := List.Pairwise.sublist (List.drop_sublist _ _) HSL.out
      have s3 : Hid (Srt f (R.take (mid - s))) := List.Pairwise.sublist (List.take_sublist _ _) HSR.out
      have s4 : Hid (Srt f (R.drop (mid - s))) := List.Pairwise.sublist (List.drop_sublist _ _) HSR.out
      generalize L.take (s - a) = L1 at *
      generalize L.drop (s - a) = L2 at *
      generalize R.take (mid - s) = R1 at *
      generalize R.drop (mid - s) = R2 at *
      obtain ⟨en2, hen⟩ : ∃ en2, en2 = n - s := ⟨_, rfl⟩
      have een : (n : Int) - (s : Int) = (en2 : Int) := by omega
      have en3 : en2 + s ≤ n := by omega
      have en4 : n ≤ en2 + s := by omega
      have hD : DW E w0 B ((P ++ L1) ++ (L2 ++ (R1 ++ (R2 ++ S)))) wr := by rw [← HE.out]; exact hD
      have HN2 : Hid (((P ++ L1) ++ (L2 ++ (R1 ++ (R2 ++ S)))).length = N) := by show _ = _; rw [← HE.out]; exact hN
      have HN3 : Hid ((P ++ (L1 ++ (R1 ++ (L2 ++ (R2 ++ S))))).length = N) := by show _ = _; rw [← HN2.out]; simp only [List.length_append]; omega
      have HN4 : Hid (((P ++ mrg f L1 R1) ++ (L2 ++ (R2 ++ S))).length = N) := by show _ = _; rw [← HN2.out]; simp only [List.length_append, mrg_length]; omega
      have ROT := fun h1 h2 => rotate_any E w0 B (P ++ L1) L2 R1 (R2 ++ S) N s m en2 HN2.out (by rw [List.length_append]; omega) (by omega) (by omega) h1 h2 (.func (.func 81) #[] #[cb])
      have REB := fun h1 h2 => IH.out P L1 R1 (L2 ++ (R2 ++ S)) a s mid ha (by omega) (by omega) HN3.out s1.out s3.out h1 h2 (by omega)
      have REC := fun h1 h2 => IH.out (P ++ mrg f L1 R1) L2 R2 S mid en2 b (by rw [List.length_append, mrg_length]; omega) (by omega) (by omega) HN4.out s2.out s4.out h1 h2 (by omega)
      have ROT := hide ROT
      have REB := hide REB
      have REC := hide REC
      have HF : Hid (P ++ (mrg f L R ++ S) = (P ++ mrg f L1 R1) ++ (mrg f L2 R2 ++ S)) := by show _ = _; rw [HM.out]; simp
      clear HE HN2 HN3 HN4 HM HS HRr HPa HG HZ HSL HSR s1 s2 s3 s4 IH HC hen
      by_cases z1 : 0 < L1.length
      · by_cases z2 : 0 < L2.length
        · by_cases z3 : 0 < R1.length
          · by_cases z4 : 0 < R2.length
            · have f1 : (s : Int) < (m : Int) := by omega
              have f2 : (m : Int) < (en2 : Int) := by omega
              have f3 : (a : Int) < (s : Int) := by omega
              have f4 : (s : Int) < (mid : Int) := by omega
              have f5 : (mid : Int) < (en2 : Int) := by omega
              have f6 : (en2 : Int) < (b : Int) := by omega
              first
              | (exfalso; omega)
              | (skip
                 go_wp2_with fail
                 refine (ROT.out (by omega) (by omega) _ hD (by omega)).mono ?_
                 rintro e w1 ⟨rfl, d1⟩
                 have d1 : DW E w0 B (P ++ (L1 ++ (R1 ++ (L2 ++ (R2 ++ S))))) w1 := by simpa using d1
                 go_wp2_with fail
                 refine (REB.out (by omega) (by omega) _ d1).mono ?_
                 rintro e w2 ⟨rfl, d2⟩
                 have d2 : DW E w0 B ((P ++ mrg f L1 R1) ++ (L2 ++ (R2 ++ S))) w2 := by simpa using d2
                 go_wp2_with fail
                 refine (REC.out (by omega) (by omega) _ d2).mono ?_
                 rintro e w3 ⟨rfl, d3⟩
                 go_wp2_with fail
                 go_end0
                 exact ⟨rfl, by rw [HF.out]; exact d3⟩)
            · have f1 : (s : Int) < (m : Int) := by omega
              have f2 : (m : Int) < (en2 : Int) := by omega
              have f3 : (a : Int) < (s : Int) := by omega
              have f4 : (s : Int) < (mid : Int) := by omega
              have f5 : (mid : Int) < (en2 : Int) := by omega
              have f6 : ¬ (en2 : Int) < (b : Int) := by omega
              obtain rfl : R2 = [] := List.length_eq_zero_iff.1 (by omega)
              first
              | (exfalso; omega)
              | (skip
                 go_wp2_with fail
                 refine (ROT.out (by omega) (by omega) _ hD (by omega)).mono ?_
                 rintro e w1 ⟨rfl, d1⟩
                 have d1 : DW E w0 B (P ++ (L1 ++ (R1 ++ (L2 ++ ([] ++ S))))) w1 := by simpa using d1
                 go_wp2_with fail
                 refine (REB.out (by omega) (by omega) _ d1).mono ?_
                 rintro e w2 ⟨rfl, d2⟩
                 have d2 : DW E w0 B ((P ++ mrg f L1 R1) ++ (L2 ++ ([] ++ S))) w2 := by simpa using d2
                 go_wp2_with fail
                 go_end0
                 exact ⟨rfl, by rw [HF.out]; simpa [mrg_nil_l, mrg_nil_r] using d2⟩)
          · by_cases z4 : 0 < R2.length
            · have f1 : (s : Int) < (m : Int) := by omega
              have f2 : ¬ (m : Int) < (en2 : Int) := by omega
              have f3 : (a : Int) < (s : Int) := by omega
              have f4 : ¬ (s : Int) < (mid : Int) := by omega
              have f5 : (mid : Int) < (en2 : Int) := by omega
              have f6 : (en2 : Int) < (b : Int) := by omega
              obtain rfl : R1 = [] := List.length_eq_zero_iff.1 (by omega)
              first
              | (exfalso; omega)
              | (skip
                 go_wp2_with fail
                 have d1 : DW E w0 B (P ++ (L1 ++ ([] ++ (L2 ++ (R2 ++ S))))) wr := by simpa using hD
                 have d2 : DW E w0 B ((P ++ mrg f L1 []) ++ (L2 ++ (R2 ++ S))) wr := by simpa [mrg_nil_l, mrg_nil_r] using d1
                 refine (REC.out (by omega) (by omega) _ d2).mono ?_
                 rintro e w3 ⟨rfl, d3⟩
                 go_wp2_with fail
                 go_end0
                 exact ⟨rfl, by rw [HF.out]; exact d3⟩)
            · exfalso; omega
        · by_cases z3 : 0 < R1.length
          · by_cases z4 : 0 < R2.length
            · have f1 : ¬ (s : Int) < (m : Int) := by omega
              have f2 : (m : Int) < (en2 : Int) := by omega
              have f3 : (a : Int) < (s : Int) := by omega
              have f4 : (s : Int) < (mid : Int) := by omega
              have f5 : ¬ (mid : Int) < (en2 : Int) := by omega
              have f6 : (en2 : Int) < (b : Int) := by omega
              obtain rfl : L2 = [] := List.length_eq_zero_iff.1 (by omega)
              first
              | (exfalso; omega)
              | (skip
                 go_wp2_with fail
                 have d1 : DW E w0 B (P ++ (L1 ++ (R1 ++ ([] ++ (R2 ++ S))))) wr := by simpa using hD
                 refine (REB.out (by omega) (by omega) _ d1).mono ?_
                 rintro e w2 ⟨rfl, d2⟩
                 have d2 : DW E w0 B ((P ++ mrg f L1 R1) ++ ([] ++ (R2 ++ S))) w2 := by simpa using d2
                 go_wp2_with fail
                 go_end0
                 exact ⟨rfl, by rw [HF.out]; simpa [mrg_nil_l, mrg_nil_r] using d2⟩)
            · have f1 : ¬ (s : Int) < (m : Int) := by omega
              have f2 : (m : Int) < (en2 : Int) := by omega
              have f3 : (a : Int) < (s : Int) := by omega
              have f4 : (s : Int) < (mid : Int) := by omega
              have f5 : ¬ (mid : Int) < (en2 : Int) := by omega
              have f6 : ¬ (en2 : Int) < (b : Int) := by omega
              obtain rfl : L2 = [] := List.length_eq_zero_iff.1 (by omega)
              obtain rfl : R2 = [] := List.length_eq_zero_iff.1 (by omega)
              first
              | (exfalso; omega)
              | (skip
                 go_wp2_with fail
                 have d1 : DW E w0 B (P ++ (L1 ++ (R1 ++ ([] ++ ([] ++ S))))) wr := by simpa using hD
                 refine (REB.out (by omega) (by omega) _ d1).mono ?_
                 rintro e w2 ⟨rfl, d2⟩
                 have d2 : DW E w0 B ((P ++ mrg f L1 R1) ++ ([] ++ ([] ++ S))) w2 := by simpa using d2
                 go_wp2_with fail
                 go_end0
                 exact ⟨rfl, by rw [HF.out]; simpa [mrg_nil_l, mrg_nil_r] using d2⟩)
          · by_cases z4 : 0 < R2.length
            · have f1 : ¬ (s : Int) < (m : Int) := by omega
              have f2 : ¬ (m : Int) < (en2 : Int) := by omega
              have f3 : (a : Int) < (s : Int) := by omega
              have f4 : ¬ (s : Int) < (mid : Int) := by omega
              have f5 : ¬ (mid : Int) < (en2 : Int) := by omega
              have f6 : (en2 : Int) < (b : Int) := by omega
              obtain rfl : R1 = [] := List.length_eq_zero_iff.1 (by omega)
              obtain rfl : L2 = [] := List.length_eq_zero_iff.1 (by omega)
              first
              | (exfalso; omega)
              | (skip
                 go_wp2_with fail
                 have d1 : DW E w0 B (P ++ (L1 ++ ([] ++ ([] ++ (R2 ++ S))))) wr := by simpa using hD
                 have d2 : DW E w0 B ((P ++ mrg f L1 []) ++ ([] ++ (R2 ++ S))) wr := by simpa [mrg_nil_l, mrg_nil_r] using d1
                 go_end0
                 exact ⟨rfl, by rw [HF.out]; simpa [mrg_nil_l, mrg_nil_r] using d2⟩)
            · exfalso; omega
      · by_cases z2 : 0 < L2.length
        · by_cases z3 : 0 < R1.length
          · by_cases z4 : 0 < R2.length
            · have f1 : (s : Int) < (m : Int) := by omega
              have f2 : (m : Int) < (en2 : Int) := by omega
              have f3 : ¬ (a : Int) < (s : Int) := by omega
              have f4 : (s : Int) < (mid : Int) := by omega
              have f5 : (mid : Int) < (en2 : Int) := by omega
              have f6 : (en2 : Int) < (b : Int) := by omega
              obtain rfl : L1 = [] := List.length_eq_zero_iff.1 (by omega)
              first
              | (exfalso; omega)
              | (skip
                 go_wp2_with fail
                 refine (ROT.out (by omega) (by omega) _ hD (by omega)).mono ?_
                 rintro e w1 ⟨rfl, d1⟩
                 have d1 : DW E w0 B (P ++ ([] ++ (R1 ++ (L2 ++ (R2 ++ S))))) w1 := by simpa using d1
                 go_wp2_with fail
                 have d2 : DW E w0 B ((P ++ mrg f [] R1) ++ (L2 ++ (R2 ++ S))) w1 := by simpa [mrg_nil_l, mrg_nil_r] using d1
                 refine (REC.out (by omega) (by omega) _ d2).mono ?_
                 rintro e w3 ⟨rfl, d3⟩
                 go_wp2_with fail
                 go_end0
                 exact ⟨rfl, by rw [HF.out]; exact d3⟩)
            · have f1 : (s : Int) < (m : Int) := by omega
              have f2 : (m : Int) < (en2 : Int) := by omega
              have f3 : ¬ (a : Int) < (s : Int) := by omega
              have f4 : (s : Int) < (mid : Int) := by omega
              have f5 : (mid : Int) < (en2 : Int) := by omega
              have f6 : ¬ (en2 : Int) < (b : Int) := by omega
              obtain rfl : L1 = [] := List.length_eq_zero_iff.1 (by omega)
              obtain rfl : R2 = [] := List.length_eq_zero_iff.1 (by omega)
              first
              | (exfalso; omega)
              | (skip
                 go_wp2_with fail
                 refine (ROT.out (by omega) (by omega) _ hD (by omega)).mono ?_
                 rintro e w1 ⟨rfl, d1⟩
                 have d1 : DW E w0 B (P ++ ([] ++ (R1 ++ (L2 ++ ([] ++ S))))) w1 := by simpa using d1
                 go_wp2_with fail
                 have d2 : DW E w0 B ((P ++ mrg f [] R1) ++ (L2 ++ ([] ++ S))) w1 := by simpa [mrg_nil_l, mrg_nil_r] using d1
                 go_end0
                 exact ⟨rfl, by rw [HF.out]; simpa [mrg_nil_l, mrg_nil_r] using d2⟩)
          · by_cases z4 : 0 < R2.length
            · have f1 : (s : Int) < (m : Int) := by omega
              have f2 : ¬ (m : Int) < (en2 : Int) := by omega
              have f3 : ¬ (a : Int) < (s : Int) := by omega
              have f4 : ¬ (s : Int) < (mid : Int) := by omega
              have f5 : (mid : Int) < (en2 : Int) := by omega
              have f6 : (en2 : Int) < (b : Int) := by omega
              obtain rfl : L1 = [] := List.length_eq_zero_iff.1 (by omega)
              obtain rfl : R1 = [] := List.length_eq_zero_iff.1 (by omega)
              first
              | (exfalso; omega)
              | (skip
                 go_wp2_with fail
                 have d1 : DW E w0 B (P ++ ([] ++ ([] ++ (L2 ++ (R2 ++ S))))) wr := by simpa using hD
                 have d2 : DW E w0 B ((P ++ mrg f [] []) ++ (L2 ++ (R2 ++ S))) wr := by simpa [mrg_nil_l, mrg_nil_r] using d1
                 refine (REC.out (by omega) (by omega) _ d2).mono ?_
                 rintro e w3 ⟨rfl, d3⟩
                 go_wp2_with fail
                 go_end0
                 exact ⟨rfl, by rw [HF.out]; exact d3⟩)
            · exfalso; omega
        · exfalso; omega

end Go.Proofs.Ytkngmgdcnplkgaa

/-
  Walks: the stable sort of a row of structs.
-/
namespace Go.Proofs.Ytkngmgdcnplkgaa
open Go.RowKit Go.Shelf
set_option linter.unusedVariables false

theorem sym_all {α : Type} (E : Cel α) (f : α → α → Int) (hf : Cmp3 f) (cb : Value) (w0 : World) (B N : Nat) (HC : CmpG E f cb w0 B) (hl : N ≤ 1152921504606846976) : ∀ M, SymIH E f cb w0 B N M
  | 0 => fun P L R S a m b _ _ _ _ _ _ _ _ h => by omega
  | M + 1 => fun P L R S a m b ha hm hb hN hL hR h1 h2 h3 w hd => by
    have ih := sym_all E f hf cb w0 B N HC hl M
    by_cases e1 : L.length = 1
    · obtain ⟨x, rfl⟩ := List.length_eq_one_iff.1 e1
      exact symL_any E f hf cb w0 B HC P R S x hR N a m b hN ha (by simpa using hm) hb w hd hl
    by_cases e2 : R.length = 1
    · obtain ⟨y, rfl⟩ := List.length_eq_one_iff.1 e2
      exact symR_any E f hf cb w0 B HC P L S y hL N a m b hN ha hm (by simpa using hb) e1 w hd hl
    have ih' : SymIH E f cb w0 B N (L.length + R.length) := fun P' L' R' S' a' m' b' q1 q2 q3 q4 q5 q6 q7 q8 q9 => ih P' L' R' S' a' m' b' q1 q2 q3 q4 q5 q6 q7 q8 (by omega)
    by_cases e3 : (a + b) / 2 < m
    · exact symG_any E f hf cb w0 B HC P L R S hL hR N a m b _ hN ha hm hb (by omega) (by omega) rfl e3 ih' w hd hl
    · exact symH_any E f hf cb w0 B HC P L R S hL hR N a m b _ hN ha hm hb (by omega) (by omega) rfl (by omega) ih' w hd hl
theorem symMerge_any {α : Type} (E : Cel α) (f : α → α → Int) (hf : Cmp3 f) (cb : Value) (w0 : World) (B : Nat) (HC : CmpG E f cb w0 B) (P L R S : List α) (hL : Srt f L) (hR : Srt f R) (h1 : 0 < L.length) (h2 : 0 < R.length) (N a m b : Nat) (hN : (P ++ (L ++ (R ++ S))).length = N) (ha : P.length = a) (hm : a + L.length = m) (hb : m + R.length = b) (w : World) (hd : DW E w0 B (P ++ (L ++ (R ++ S))) w) (hl : N ≤ 1152921504606846976) :
    Calls Try.prog 105 #[.slice (some ⟨B, 0, none⟩) N N, .int .i64 (a : Int), .int .i64 (m : Int), .int .i64 (b : Int), .func (.func 81) #[] #[cb]] w fun e w' => e = .returned (.tuple #[]) ∧ DW E w0 B (P ++ (mrg f L R ++ S)) w' :=
  sym_all E f hf cb w0 B N HC hl (L.length + R.length + 1) P L R S a m b ha hm hb hN hL hR h1 h2 (Nat.lt_succ_self _) w hd

section
variable {α : Type} (f : α → α → Int)
/-- A list, each piece of k sorted for itself. -/
def blk (k : Nat) : Nat → List α → List α
  | 0, l => l
  | n + 1, l => srt f (l.take k) ++ blk k n (l.drop k)
/-- As many pieces as there are elements are enough. -/
def blks (k : Nat) (l : List α) : List α := blk f k l.length l
theorem blk_nil (k : Nat) : ∀ n, blk f k n ([] : List α) = []
  | 0 => rfl
  | n + 1 => by rw [blk, List.take_nil, List.drop_nil, blk_nil k n]; rfl
theorem blk_more (k : Nat) (hk : 0 < k) : ∀ (n m : Nat) (l : List α), l.length ≤ n → l.length ≤ m → blk f k n l = blk f k m l
  | 0, m, l, h, _ => by
    have : l = [] := List.length_eq_zero_iff.1 (by omega)
    subst this; rw [blk_nil, blk_nil]
  | n + 1, 0, l, _, h => by
    have : l = [] := List.length_eq_zero_iff.1 (by omega)
    subst this; rw [blk_nil, blk_nil]
  | n + 1, m + 1, l, h1, h2 => by
    rw [blk, blk]
    by_cases h0 : l = []
    · subst h0; rw [List.drop_nil, blk_nil, blk_nil]
    · have hp : 0 < l.length := List.length_pos_iff.2 h0
      rw [blk_more k hk n m (l.drop k) (by rw [List.length_drop]; omega) (by rw [List.length_drop]; omega)]
theorem blks_step (k : Nat) (hk : 0 < k) (l : List α) : blks f k l = srt f (l.take k) ++ blks f k (l.drop k) := by
  unfold blks
  rw [blk_more f k hk l.length (l.length + 1) l (Nat.le_refl _) (by omega), blk, blk_more f k hk l.length (l.drop k).length (l.drop k) (by rw [List.length_drop]; omega) (Nat.le_refl _)]
theorem blks_nil (k : Nat) : blks f k ([] : List α) = [] := rfl
theorem blks_len (k : Nat) (hk : 0 < k) : ∀ (n : Nat) (l : List α), l.length ≤ n → (blks f k l).length = l.length
  | 0, l, h => by
    have : l = [] := List.length_eq_zero_iff.1 (by omega)
    subst this; rfl
  | n + 1, l, h => by
    by_cases h0 : l = []
    · subst h0; rfl
    · have hp : 0 < l.length := List.length_pos_iff.2 h0
      rw [blks_step f k hk, List.length_append, srt_length, blks_len k hk n (l.drop k) (by rw [List.length_drop]; omega), List.length_take, List.length_drop]
      omega
theorem blks_one (k : Nat) (hk : 0 < k) (l : List α) (h : l.length ≤ k) : blks f k l = srt f l := by
  rw [blks_step f k hk, List.take_of_length_le h, List.drop_eq_nil_of_le h, blks_nil, List.append_nil]
end


end Go.Proofs.Ytkngmgdcnplkgaa

/-
  Walks: the stable sort of a row of structs, piece by piece.
-/
namespace Go.Proofs.Ytkngmgdcnplkgaa
open Go.RowKit Go.Shelf
set_option linter.unusedVariables false

theorem take_add' {α : Type} (l : List α) (i j : Nat) : l.take (i + j) = l.take i ++ (l.drop i).take j := by
  rw [List.take_add]
set_option maxRecDepth 100000 in
set_option maxHeartbeats 4000000 in
theorem stable_any {α : Type} (E : Cel α) (f : α → α → Int) (hf : Cmp3 f) (cb : Value) (w0 : World) (B : Nat) (HC : CmpG E f cb w0 B) (xs : List α) (n : Nat) (hN : xs.length = n) (w : World) (hd : DW E w0 B xs w) (hl : n ≤ 1152921504606846976) :
    Calls Try.prog 94 #[.slice (some ⟨B, 0, none⟩) n n, .int .i64 (n : Int), .func (.func 81) #[] #[cb]] w fun e w' => e = .returned (.tuple #[]) ∧ DW E w0 B (srt f xs) w' := by
  have HC := hide HC
  have HN := hide hN
  clear hN
  go_enter Try.func94, Try.ntmps94
  go_wp2_with fail
  go_loopw [7, 8] (fun u v wr => ∃ (a b : Nat) (D rest : List α), u = .int .i64 a ∧ v = .int .i64 b ∧ a + 20 = b ∧ Hid (D.length = a) ∧ a + rest.length = n ∧ DW E w0 B (D ++ rest) wr ∧ Hid (blks f 20 xs = D ++ blks f 20 rest)) (fun u _ _ => n + 1 - (intOf u).toNat)
  case atStart => exact ⟨0, 20, [], xs, rfl, rfl, rfl, rfl, by have := HN.out; omega, hd, rfl⟩
  case round =>
    clear hd
    obtain ⟨a, b, D, rest, rfl, rfl, hab, HD, hlen, hD, HB⟩ := hrel
    by_cases hlt : b ≤ n
    · have hlt' : (b : Int) ≤ (n : Int) := by omega
      have h20 : (rest.take 20).length = 20 := by rw [List.length_take]; omega
      have h20' : (rest.drop 20).length = rest.length - 20 := List.length_drop
      have hTD : rest = rest.take 20 ++ rest.drop 20 := (List.take_append_drop 20 rest).symm
      have HS := hide (blks_step f 20 (by omega) rest)
      generalize rest.take 20 = T1 at *
      generalize rest.drop 20 = T2 at *
      subst hTD
      have INS := hide (fun w => insertion_any E f hf cb w0 B HC.out D T1 T2 n a b (by rw [List.length_append, HD.out]; omega) HD.out (by omega) w)
      have HD2 : Hid ((D ++ srt f T1).length = b) := by show _ = _; rw [List.length_append, srt_length, HD.out]; omega
      have HB2 : Hid (blks f 20 xs = (D ++ srt f T1) ++ blks f 20 T2) := by show _ = _; rw [HB.out, HS.out]; simp
      have hl2 : b + T2.length = n := by rw [List.length_append] at hlen; omega
      clear h20 h20' hlen
      go_wp2_with fail
      refine (INS.out _ hD (by omega)).mono ?_
      rintro e w1 ⟨rfl, d1⟩
      have d1 : DW E w0 B ((D ++ srt f T1) ++ T2) w1 := by simpa using d1
      go_wp2_with fail
      go_roundw
      case rel => exact ⟨b, b + 20, D ++ srt f T1, T2, rfl, by go_num, rfl, HD2, hl2, d1, HB2⟩
      case measure => simp [intOf]; omega
    · have hlt' : ¬ (b : Int) ≤ (n : Int) := by omega
      have INS := hide (fun w => insertion_any E f hf cb w0 B HC.out D rest [] n a n (by rw [List.length_append, HD.out, List.append_nil]; omega) HD.out (by omega) w)
      have HF : Hid (D ++ (srt f rest ++ []) = blks f 20 xs) := by show _ = _; rw [List.append_nil, HB.out, blks_one f 20 (by omega) rest (by omega)]
      have hD0 : DW E w0 B (D ++ (rest ++ [])) wr := by simpa using hD
      clear hD
      go_wp2_with fail
      refine (INS.out _ hD0 (by omega)).mono ?_
      rintro e w1 ⟨rfl, d1⟩
      rw [HF.out] at d1
      clear hD0 HF INS HB HD
      go_wp2_with fail
      go_loopw [6] (fun u wr2 => ∃ (bs : Nat), u = .int .i64 bs ∧ 20 ≤ bs ∧ bs ≤ 4611686018427387904 ∧ DW E w0 B (blks f bs xs) wr2) (fun u _ => n - (intOf u).toNat)
      case atStart => exact ⟨20, rfl, Nat.le_refl _, by omega, d1⟩
      case round =>
        clear d1
        obtain ⟨bs, rfl, hbs, hbs2, hD⟩ := hrel
        by_cases hlb : bs < n
        · have hlb' : (bs : Int) < (n : Int) := by omega
          go_wp2_with fail
          go_loopw [7, 8] (fun u v wr3 => ∃ (a b : Nat) (D rest : List α), u = .int .i64 a ∧ v = .int .i64 b ∧ a + 2 * bs = b ∧ Hid (D.length = a) ∧ a + rest.length = n ∧ DW E w0 B (D ++ blks f bs rest) wr3 ∧ Hid (blks f (2 * bs) xs = D ++ blks f (2 * bs) rest)) (fun u _ _ => n + 1 - (intOf u).toNat)
          case atStart => exact ⟨0, 2 * bs, [], xs, rfl, by first | rfl | go_num | (congr 1; omega), by omega, rfl, by have := HN.out; omega, hD, rfl⟩
          case round =>
            clear hD
            obtain ⟨a, b, D, rest, rfl, rfl, hab, HD, hlen, hD, HB⟩ := hrel
            by_cases hlt : b ≤ n
            · have hlt' : (b : Int) ≤ (n : Int) := by omega
              have q1 : (rest.take bs).length = bs := by rw [List.length_take]; omega
              have q2 : ((rest.drop bs).take bs).length = bs := by rw [List.length_take, List.length_drop]; omega
              have q3 : (rest.drop (bs + bs)).length = rest.length - (bs + bs) := List.length_drop
              have HS1 : Hid (blks f bs rest = srt f (rest.take bs) ++ (srt f ((rest.drop bs).take bs) ++ blks f bs (rest.drop (bs + bs)))) := by
                show _ = _
                rw [blks_step f bs (by omega) rest, blks_step f bs (by omega) (rest.drop bs), List.drop_drop]
              have HS2 : Hid (blks f (2 * bs) rest = mrg f (srt f (rest.take bs)) (srt f ((rest.drop bs).take bs)) ++ blks f (2 * bs) (rest.drop (bs + bs))) := by
                show _ = _
                rw [blks_step f (2 * bs) (by omega) rest, ← srt_app hf, ← take_add', show 2 * bs = bs + bs by omega]
              have q4 : (blks f bs (rest.drop (bs + bs))).length = rest.length - (bs + bs) := by rw [blks_len f bs (by omega) _ _ (Nat.le_refl _), q3]
              generalize rest.take bs = T1 at *
              generalize (rest.drop bs).take bs = T2 at *
              generalize rest.drop (bs + bs) = T3 at *
              obtain ⟨mm, hmm⟩ : ∃ mm, mm = a + bs := ⟨_, rfl⟩
              have SY := hide (fun w => symMerge_any E f hf cb w0 B HC.out D (srt f T1) (srt f T2) (blks f bs T3) (srt_srt hf T1) (srt_srt hf T2) (by rw [srt_length]; omega) (by rw [srt_length]; omega) n a mm b (by simp only [List.length_append, srt_length]; rw [HD.out, q4]; omega) HD.out (by rw [srt_length]; omega) (by rw [srt_length]; omega) w)
              have HD2 : Hid ((D ++ mrg f (srt f T1) (srt f T2)).length = b) := by show _ = _; rw [List.length_append, mrg_length, srt_length, srt_length, HD.out]; omega
              have HB2 : Hid (blks f (2 * bs) xs = (D ++ mrg f (srt f T1) (srt f T2)) ++ blks f (2 * bs) T3) := by show _ = _; rw [HB.out, HS2.out]; simp
              have hl2 : b + T3.length = n := by omega
              have hD0 : DW E w0 B (D ++ (srt f T1 ++ (srt f T2 ++ blks f bs T3))) wr := by rw [← HS1.out]; exact hD
              have eab : (a : Int) + (bs : Int) = (mm : Int) := by omega
              clear hmm
              clear hD HS1 HS2 HB q1 q2 q3 q4 hlen
              go_wp2_with fail
              refine (SY.out _ hD0 (by omega)).mono ?_
              rintro e w1 ⟨rfl, d1⟩
              have d1 : DW E w0 B ((D ++ mrg f (srt f T1) (srt f T2)) ++ blks f bs T3) w1 := by simpa using d1
              go_wp2_with fail
              go_roundw
              case rel => exact ⟨b, b + 2 * bs, D ++ mrg f (srt f T1) (srt f T2), T3, rfl, by first | rfl | go_num | (congr 1; omega), rfl, HD2, hl2, d1, HB2⟩
              case measure => simp [intOf]; omega
            · have hlt' : ¬ (b : Int) ≤ (n : Int) := by omega
              by_cases hmn : a + bs < n
              · have hmn' : (a : Int) + (bs : Int) < (n : Int) := by omega
                have q1 : (rest.take bs).length = bs := by rw [List.length_take]; omega
                have q2 : (rest.drop bs).length = rest.length - bs := List.length_drop
                have HS1 : Hid (blks f bs rest = srt f (rest.take bs) ++ (srt f (rest.drop bs) ++ [])) := by
                  show _ = _
                  rw [blks_step f bs (by omega) rest, blks_one f bs (by omega) (rest.drop bs) (by omega), List.append_nil]
                have HS2 : Hid (blks f (2 * bs) rest = mrg f (srt f (rest.take bs)) (srt f (rest.drop bs)) ++ []) := by
                  show _ = _
                  rw [blks_one f (2 * bs) (by omega) rest (by omega), ← srt_app hf, List.take_append_drop, List.append_nil]
                generalize rest.take bs = T1 at *
                generalize rest.drop bs = T2 at *
                obtain ⟨mm, hmm⟩ : ∃ mm, mm = a + bs := ⟨_, rfl⟩
                have SY := hide (fun w => symMerge_any E f hf cb w0 B HC.out D (srt f T1) (srt f T2) [] (srt_srt hf T1) (srt_srt hf T2) (by rw [srt_length]; omega) (by rw [srt_length]; omega) n a mm n (by simp only [List.length_append, srt_length, List.length_nil]; rw [HD.out]; omega) HD.out (by rw [srt_length]; omega) (by rw [srt_length]; omega) w)
                have hD0 : DW E w0 B (D ++ (srt f T1 ++ (srt f T2 ++ []))) wr := by rw [← HS1.out]; exact hD
                have HF : Hid (D ++ (mrg f (srt f T1) (srt f T2) ++ []) = blks f (2 * bs) xs) := by show _ = _; rw [HB.out, HS2.out]
                have eab : (a : Int) + (bs : Int) = (mm : Int) := by omega
                have eab' : (mm : Int) < (n : Int) := by omega
                clear hmm hmn hmn'
                have hbs3 : bs * 2 = 2 * bs := by omega
                clear hD HS1 HS2 HB q1 q2 hlen
                go_wp2_with fail
                refine (SY.out _ hD0 (by omega)).mono ?_
                rintro e w1 ⟨rfl, d1⟩
                rw [HF.out] at d1
                clear hbs3
                go_wp2_with fail
                go_roundw
                case rel => exact ⟨2 * bs, by first | rfl | go_num | (congr 1; omega), by omega, by omega, d1⟩
                case measure => simp [intOf]; omega
              · have hmn' : ¬ (a : Int) + (bs : Int) < (n : Int) := by omega
                have HF : Hid (D ++ blks f bs rest = blks f (2 * bs) xs) := by show _ = _; rw [HB.out, blks_one f bs (by omega) rest (by omega), blks_one f (2 * bs) (by omega) rest (by omega)]
                rw [HF.out] at hD
                clear HB HF
                go_wp2_with fail
                go_roundw
                case rel => exact ⟨2 * bs, by first | rfl | go_num | (congr 1; omega), by omega, by omega, hD⟩
                case measure => simp [intOf]; omega
        · have hlb' : ¬ (bs : Int) < (n : Int) := by omega
          have HF := hide (blks_one f bs (by omega) xs (by have := HN.out; omega))
          go_wp2_with fail
          go_end0
          exact ⟨rfl, by rw [← HF.out]; exact hD⟩

set_option maxHeartbeats 1000000 in
theorem sortStable_any {α : Type} (E : Cel α) (f : α → α → Int) (hf : Cmp3 f) (cb : Value) (w0 : World) (B : Nat) (HC : CmpG E f cb w0 B) (xs : List α) (n : Nat) (hN : xs.length = n) (w : World) (hd : DW E w0 B xs w) (hl : n ≤ 1152921504606846976) :
    Calls Try.prog 80 #[.slice (some ⟨B, 0, none⟩) n n, .func (.func 81) #[] #[cb]] w fun e w' => e = .returned (.tuple #[]) ∧ DW E w0 B (srt f xs) w' := by
  have ST := hide (fun w hd => stable_any E f hf cb w0 B HC xs n hN w hd hl)
  clear hN
  go_enter Try.func80, Try.ntmps80
  go_wp2_with fail
  refine (ST.out _ hd).mono ?_
  rintro e w1 ⟨rfl, d1⟩
  go_wp2_with fail
  go_end0
  exact ⟨rfl, d1⟩

end Go.Proofs.Ytkngmgdcnplkgaa
