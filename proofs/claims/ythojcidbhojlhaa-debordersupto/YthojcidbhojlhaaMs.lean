/-
  Plain laws: the stable merge of two lists, the stable sort, and what the sort's steps make of a list; no program is named here.
-/
import Derived.Test.YthojcidbhojlhaaLq
namespace Go.Proofs.Ythojcidbhojlhaa
set_option linter.unusedVariables false

section
variable {α : Type} (f : α → α → Int)

/-- The stable merge: what stands right goes ahead where it is less. -/
def mrg : List α → List α → List α
  | [], R => R
  | L, [] => L
  | x :: L, y :: R => if f y x < 0 then y :: mrg (x :: L) R else x :: mrg L (y :: R)
termination_by L R => L.length + R.length
theorem mrg_nil_l (R : List α) : mrg f [] R = R := by unfold mrg; rfl
theorem mrg_nil_r (L : List α) : mrg f L [] = L := by cases L <;> (unfold mrg; rfl)
theorem mrg_cons (x y : α) (L R : List α) : mrg f (x :: L) (y :: R) = if f y x < 0 then y :: mrg f (x :: L) R else x :: mrg f L (y :: R) := by
  rw [mrg.eq_def]
theorem mrg_len : ∀ (n : Nat) (L R : List α), L.length + R.length ≤ n → (mrg f L R).length = L.length + R.length
  | n, [], R, _ => by rw [mrg_nil_l]; simp
  | n, x :: L, [], _ => by rw [mrg_nil_r]; simp
  | 0, x :: L, y :: R, h => by simp at h
  | n + 1, x :: L, y :: R, h => by
    rw [mrg_cons]
    simp only [List.length_cons] at h
    split
    · rw [List.length_cons, mrg_len n (x :: L) R (by simp only [List.length_cons]; omega)]; simp only [List.length_cons]; omega
    · rw [List.length_cons, mrg_len n L (y :: R) (by simp only [List.length_cons]; omega)]; simp only [List.length_cons]; omega
theorem mrg_length (L R : List α) : (mrg f L R).length = L.length + R.length := mrg_len f _ L R (Nat.le_refl _)
/-- What two lists are made of, merged each for itself. -/
theorem mrg_split : ∀ (n : Nat) (L1 L2 R1 R2 : List α), L1.length + R1.length ≤ n → (∀ l ∈ L1, ∀ r ∈ R2, ¬ f r l < 0) → (∀ r ∈ R1, ∀ l ∈ L2, f r l < 0) → mrg f (L1 ++ L2) (R1 ++ R2) = mrg f L1 R1 ++ mrg f L2 R2
  | n, [], L2, [], R2, _, _, _ => by rw [mrg_nil_l]; rfl
  | 0, x :: L1, L2, R1, R2, h, _, _ => by simp at h
  | 0, [], L2, y :: R1, R2, h, _, _ => by simp at h
  | n + 1, [], L2, y :: R1, R2, h, h1, h2 => by
    simp only [List.length_cons, List.length_nil] at h
    have ih := mrg_split n [] L2 R1 R2 (by simp only [List.length_nil]; omega) h1 (fun r hr => h2 r (List.mem_cons_of_mem _ hr))
    rw [List.nil_append, mrg_nil_l] at ih ⊢
    cases L2 with
    | nil => rw [mrg_nil_l, mrg_nil_l]
    | cons x L2 => rw [List.cons_append, mrg_cons, if_pos (h2 y List.mem_cons_self x List.mem_cons_self), ih]; rfl
  | n + 1, x :: L1, L2, [], R2, h, h1, h2 => by
    simp only [List.length_cons, List.length_nil] at h
    have ih := mrg_split n L1 L2 [] R2 (by simp only [List.length_nil]; omega) (fun l hl => h1 l (List.mem_cons_of_mem _ hl)) h2
    rw [List.nil_append, mrg_nil_r] at ih ⊢
    cases R2 with
    | nil => rw [mrg_nil_r, mrg_nil_r]
    | cons y R2 => rw [List.cons_append, mrg_cons, if_neg (h1 x List.mem_cons_self y List.mem_cons_self), ih]; rfl
  | n + 1, x :: L1, L2, y :: R1, R2, h, h1, h2 => by
    simp only [List.length_cons] at h
    rw [List.cons_append, List.cons_append, mrg_cons, mrg_cons]
    by_cases hc : f y x < 0
    · rw [if_pos hc, if_pos hc, ← List.cons_append, mrg_split n (x :: L1) L2 R1 R2 (by simp only [List.length_cons]; omega) h1 (fun r hr => h2 r (List.mem_cons_of_mem _ hr))]; rfl
    · rw [if_neg hc, if_neg hc, ← List.cons_append, mrg_split n L1 L2 (y :: R1) R2 (by simp only [List.length_cons]; omega) (fun l hl => h1 l (List.mem_cons_of_mem _ hl)) h2]; rfl
theorem mrg_parts (L1 L2 R1 R2 : List α) (h1 : ∀ l ∈ L1, ∀ r ∈ R2, ¬ f r l < 0) (h2 : ∀ r ∈ R1, ∀ l ∈ L2, f r l < 0) : mrg f (L1 ++ L2) (R1 ++ R2) = mrg f L1 R1 ++ mrg f L2 R2 := mrg_split f _ L1 L2 R1 R2 (Nat.le_refl _) h1 h2
/-- One element among others. -/
theorem mrg_one_l (x : α) (R1 R2 : List α) (h1 : ∀ r ∈ R1, f r x < 0) (h2 : ∀ r ∈ R2, ¬ f r x < 0) : mrg f [x] (R1 ++ R2) = R1 ++ x :: R2 := by
  have := mrg_parts f [] [x] R1 R2 (fun l hl => by cases hl) (fun r hr l hl => by rw [List.mem_singleton.1 hl]; exact h1 r hr)
  rw [List.nil_append, mrg_nil_l] at this
  rw [this]
  congr 1
  cases R2 with
  | nil => rw [mrg_nil_r]
  | cons y R2 => rw [mrg_cons, if_neg (h2 y List.mem_cons_self), mrg_nil_l]
theorem mrg_one_r (y : α) (L1 L2 : List α) (h1 : ∀ l ∈ L1, ¬ f y l < 0) (h2 : ∀ l ∈ L2, f y l < 0) : mrg f (L1 ++ L2) [y] = L1 ++ y :: L2 := by
  have := mrg_parts f L1 L2 [] [y] (fun l hl r hr => by rw [List.mem_singleton.1 hr]; exact h1 l hl) (fun r hr => by cases hr)
  rw [List.nil_append, mrg_nil_r] at this
  rw [this]
  congr 1
  cases L2 with
  | nil => rw [mrg_nil_l]
  | cons x L2 => rw [mrg_cons, if_pos (h2 x List.mem_cons_self), mrg_nil_r]
theorem mrg_mem : ∀ (n : Nat) (L R : List α), L.length + R.length ≤ n → ∀ z, z ∈ mrg f L R ↔ z ∈ L ∨ z ∈ R
  | n, [], R, _, z => by rw [mrg_nil_l]; simp
  | n, x :: L, [], _, z => by rw [mrg_nil_r]; simp
  | 0, x :: L, y :: R, h, z => by simp at h
  | n + 1, x :: L, y :: R, h, z => by
    rw [mrg_cons]
    simp only [List.length_cons] at h
    split
    · rw [List.mem_cons, mrg_mem n (x :: L) R (by simp only [List.length_cons]; omega) z]
      simp only [List.mem_cons]
      constructor
      · rintro (h | h | h) <;> simp [h]
      · rintro ((h | h) | h | h) <;> simp [h]
    · rw [List.mem_cons, mrg_mem n L (y :: R) (by simp only [List.length_cons]; omega) z]
      simp only [List.mem_cons]
      constructor
      · rintro (h | h | h | h) <;> simp [h]
      · rintro ((h | h) | h | h) <;> simp [h]

/-- Rising, alike ones side by side. -/
def Srt (l : List α) : Prop := l.Pairwise (fun x y => f x y ≤ 0)
variable {f}
theorem mrg_srt (h : Cmp3 f) : ∀ (n : Nat) (L R : List α), L.length + R.length ≤ n → Srt f L → Srt f R → Srt f (mrg f L R)
  | n, [], R, _, _, hR => by rw [mrg_nil_l]; exact hR
  | n, x :: L, [], _, hL, _ => by rw [mrg_nil_r]; exact hL
  | 0, x :: L, y :: R, hn, _, _ => by simp at hn
  | n + 1, x :: L, y :: R, hn, hL, hR => by
    simp only [List.length_cons] at hn
    rw [mrg_cons]
    have hL' := List.pairwise_cons.1 hL
    have hR' := List.pairwise_cons.1 hR
    split
    · rename_i hc
      refine List.pairwise_cons.2 ⟨fun z hz => ?_, mrg_srt h n (x :: L) R (by simp only [List.length_cons]; omega) hL hR'.2⟩
      rcases (mrg_mem f _ (x :: L) R (Nat.le_refl _) z).1 hz with hz | hz
      · rcases List.mem_cons.1 hz with rfl | hz
        · omega
        · exact h.trans y x z (by omega) (hL'.1 z hz)
      · exact hR'.1 z hz
    · rename_i hc
      have hxy : f x y ≤ 0 := by have := h.anti x y; omega
      refine List.pairwise_cons.2 ⟨fun z hz => ?_, mrg_srt h n L (y :: R) (by simp only [List.length_cons]; omega) hL'.2 hR⟩
      rcases (mrg_mem f _ L (y :: R) (Nat.le_refl _) z).1 hz with hz | hz
      · exact hL'.1 z hz
      · rcases List.mem_cons.1 hz with rfl | hz
        · exact hxy
        · exact h.trans x y z hxy (hR'.1 z hz)
theorem mrg_assoc (h : Cmp3 f) : ∀ (n : Nat) (A B C : List α), A.length + B.length + C.length ≤ n → mrg f (mrg f A B) C = mrg f A (mrg f B C)
  | n, [], B, C, _ => by rw [mrg_nil_l, mrg_nil_l]
  | n, a :: A, [], C, _ => by rw [mrg_nil_r, mrg_nil_l]
  | n, a :: A, b :: B, [], _ => by rw [mrg_nil_r, mrg_nil_r]
  | 0, a :: A, b :: B, c :: C, hn => by simp at hn
  | n + 1, a :: A, b :: B, c :: C, hn => by
    simp only [List.length_cons] at hn
    have e1 := mrg_cons f a b A B
    have e2 := mrg_cons f b c B C
    by_cases hba : f b a < 0
    · rw [if_pos hba] at e1
      by_cases hcb : f c b < 0
      · rw [if_pos hcb] at e2
        have hca : f c a < 0 := h.lt_le hcb (by omega)
        rw [e1, e2, mrg_cons, if_pos hcb, mrg_cons, if_pos hca, ← e1, mrg_assoc h n (a :: A) (b :: B) C (by simp only [List.length_cons]; omega)]
      · rw [if_neg hcb] at e2
        rw [e1, e2, mrg_cons, if_neg hcb, mrg_cons, if_pos hba, mrg_assoc h n (a :: A) B (c :: C) (by simp only [List.length_cons]; omega)]
    · rw [if_neg hba] at e1
      have hab : f a b ≤ 0 := by have := h.anti a b; omega
      by_cases hcb : f c b < 0
      · rw [if_pos hcb] at e2
        by_cases hca : f c a < 0
        · rw [e1, e2, mrg_cons, if_pos hca, mrg_cons, if_pos hca, ← e1, mrg_assoc h n (a :: A) (b :: B) C (by simp only [List.length_cons]; omega)]
        · rw [e1, e2, mrg_cons, if_neg hca, mrg_cons, if_neg hca, ← e2, mrg_assoc h n A (b :: B) (c :: C) (by simp only [List.length_cons]; omega)]
      · rw [if_neg hcb] at e2
        have hca : ¬ f c a < 0 := fun hc => by
          have h1 : f b c ≤ 0 := by have := h.anti b c; omega
          have h2 := h.trans a b c hab h1
          have := h.anti a c
          omega
        rw [e1, e2, mrg_cons, if_neg hca, mrg_cons, if_neg hba, ← e2, mrg_assoc h n A (b :: B) (c :: C) (by simp only [List.length_cons]; omega)]

variable (f)
/-- The stable sort. -/
def srt : List α → List α
  | [] => []
  | x :: l => mrg f [x] (srt l)
theorem srt_length : ∀ l : List α, (srt f l).length = l.length
  | [] => rfl
  | x :: l => by rw [srt, mrg_length, srt_length l]; simp; omega
variable {f}
theorem srt_srt (h : Cmp3 f) : ∀ l : List α, Srt f (srt f l)
  | [] => List.Pairwise.nil
  | x :: l => mrg_srt h _ [x] (srt f l) (Nat.le_refl _) (List.pairwise_singleton _ _) (srt_srt h l)
theorem srt_app (h : Cmp3 f) : ∀ a b : List α, srt f (a ++ b) = mrg f (srt f a) (srt f b)
  | [], b => by rw [List.nil_append, srt, mrg_nil_l]
  | x :: a, b => by
    rw [List.cons_append, srt, srt, srt_app h a b, mrg_assoc h _ _ _ _ (Nat.le_refl _)]
theorem srt_snoc (h : Cmp3 f) (a : List α) (y : α) : srt f (a ++ [y]) = mrg f (srt f a) [y] := by
  rw [srt_app h]
  congr 1
  show mrg f [y] [] = [y]
  rw [mrg_nil_r]
/-- What is rising stays. -/
theorem srt_self (h : Cmp3 f) : ∀ l : List α, Srt f l → srt f l = l
  | [], _ => rfl
  | x :: l, hl => by
    have h' := List.pairwise_cons.1 hl
    rw [srt, srt_self h l h'.2]
    have := mrg_one_l f x [] l (fun r hr => by cases hr) (fun r hr => by have := h'.1 r hr; have := h.anti x r; omega)
    simpa using this
theorem srt_mem : ∀ (l : List α) (z : α), z ∈ srt f l ↔ z ∈ l
  | [], z => by simp [srt]
  | x :: l, z => by rw [srt, mrg_mem f _ _ _ (Nat.le_refl _), srt_mem l z]; simp
theorem srt_perm_pull {β : Type} (g : β → α) : ∀ l : List β, (srt (fun x y => f (g x) (g y)) l).map g = srt f (l.map g)
  | [] => rfl
  | x :: l => by
    have hm : ∀ (n : Nat) (L R : List β), L.length + R.length ≤ n → (mrg (fun x y => f (g x) (g y)) L R).map g = mrg f (L.map g) (R.map g) := by
      intro n
      induction n with
      | zero =>
        intro L R h
        cases L with
        | nil => rw [mrg_nil_l, List.map_nil, mrg_nil_l]
        | cons a L => simp at h
      | succ n ih =>
        intro L R h
        cases L with
        | nil => rw [mrg_nil_l, List.map_nil, mrg_nil_l]
        | cons a L =>
          cases R with
          | nil => rw [mrg_nil_r, List.map_nil, mrg_nil_r]
          | cons b R =>
            simp only [List.length_cons] at h
            rw [mrg_cons, List.map_cons, List.map_cons, mrg_cons]
            split
            · rw [List.map_cons, ih (a :: L) R (by simp only [List.length_cons]; omega), List.map_cons]
            · rw [List.map_cons, ih L (b :: R) (by simp only [List.length_cons]; omega), List.map_cons]
    rw [srt, hm _ _ _ (Nat.le_refl _), srt_perm_pull g l]
    rfl
end

end Go.Proofs.Ythojcidbhojlhaa
