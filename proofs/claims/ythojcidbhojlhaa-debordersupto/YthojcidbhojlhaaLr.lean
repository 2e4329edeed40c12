/-
  Plain laws: the document's reading is the program's; no program is named here.
-/
import Derived.Test.YthojcidbhojlhaaDa
namespace Go.Proofs.Ythojcidbhojlhaa
set_option linter.unusedVariables false

/-- A byte of a part. -/
def partB (c : UInt8) : Bool := isC (c.toNat : Int) 1 || isC (c.toNat : Int) 4 || c == 46 || c == 43 || c == 126
/-- The document's loop: where it goes wrong, or begin, epoch, dash, open. -/
def docR (l : List UInt8) : List UInt8 → Nat → Nat → Bool → Int → Bool → Except (Int × Nat) (Nat × Bool × Int × Bool)
  | [], j, b, e, d, o => .ok (b, e, d, o)
  | c :: r, j, b, e, d, o =>
    if j = b ∧ isC (c.toNat : Int) 1 = false then .error (10, j)
    else if c = 58 ∧ e = false ∧ d < 0 ∧ digB (l.take j) = true then docR l r (j + 1) (j + 1) true d o
    else if c = 58 ∧ e = true then docR l r (j + 1) b e d true
    else if c = 45 then docR l r (j + 1) b e (j : Int) false
    else if partB c = false then .error (10, j)
    else docR l r (j + 1) b e d o
/-- What it makes of them. -/
def docE (l : List UInt8) (b : Nat) (e : Bool) (d : Int) (o : Bool) : Except (Int × Nat) DebL :=
  if (l.length = b ∨ d = (l.length : Int) - 1) ∨ (0 ≤ d ∧ o = true) then .error (11, l.length)
  else .ok ⟨if e then trimL (l.take (b - 1)) else [48], if 0 ≤ d then seg l b d.toNat else l.drop b, if 0 ≤ d then l.drop (d.toNat + 1) else []⟩
def docP (l : List UInt8) : Except (Int × Nat) DebL :=
  if 64 < l.length then .error (12, 64)
  else match docR l l 0 0 false (-1) false with
    | .error x => .error x
    | .ok (b, e, d, o) => docE l b e d o

theorem idx_mem (c : UInt8) : ∀ r : List UInt8, Lib.indexByte r c < 0 ↔ c ∉ r
  | [] => by simp [Lib.indexByte]
  | x :: r => by
    have ih := idx_mem c r
    have hge := Lib.indexByte_ge r c
    unfold Lib.indexByte
    by_cases hx : x = c
    · subst hx; simp
    · rw [if_neg (by simpa using hx)]
      by_cases hi : (Lib.indexByte r c == -1) = true
      · rw [if_pos hi]
        have : Lib.indexByte r c = -1 := by simpa using hi
        have h2 := ih.1 (by omega)
        simp [h2, Ne.symm hx]
      · rw [if_neg hi]
        have : ¬ Lib.indexByte r c = -1 := by simpa using hi
        have h2 : ¬ c ∉ r := fun h => by have := ih.2 h; omega
        simp only [Decidable.not_not] at h2
        simp [h2]; omega
theorem last_cons (c x : UInt8) (r : List UInt8) : ∀ n, n ≤ r.length → lastN (c :: r) x (n + 1) = if 0 ≤ lastN r x n then lastN r x n + 1 else if c = x then 0 else -1
  | 0, _ => by simp [lastN]
  | n + 1, h => by
    rw [lastN]
    have e : (c :: r).getD (n + 1) 0 = r.getD n 0 := by simp [List.getD]
    rw [e, last_cons c x r n (by omega), lastN]
    by_cases h1 : r.getD n 0 = x
    · rw [if_pos h1, if_pos h1, if_pos (by omega)]; omega
    · rw [if_neg h1, if_neg h1]
theorem lastI_cons (c x : UInt8) (r : List UInt8) : lastI (c :: r) x = if 0 ≤ lastI r x then lastI r x + 1 else if c = x then 0 else -1 := by
  unfold lastI
  exact last_cons c x r r.length (Nat.le_refl _)
theorem lastI_ge : ∀ (r : List UInt8) (x : UInt8), -1 ≤ lastI r x ∧ lastI r x < r.length
  | [], x => by simp [lastI, lastN]
  | c :: r, x => by
    have := lastI_ge r x
    rw [lastI_cons]
    (repeat' split) <;> simp <;> omega
theorem lastI_none : ∀ (r : List UInt8) (x : UInt8), lastI r x < 0 → x ∉ r
  | [], x, _ => by simp
  | c :: r, x, h => by
    have hg := lastI_ge r x
    rw [lastI_cons] at h
    split at h
    · omega
    · rename_i h1
      split at h
      · omega
      · rename_i h2
        have := lastI_none r x (by omega)
        simp [this, Ne.symm h2]
theorem lastI_behind : ∀ (r : List UInt8) (x : UInt8), 0 ≤ lastI r x → r[(lastI r x).toNat]? = some x ∧ x ∉ r.drop ((lastI r x).toNat + 1)
  | [], x, h => by simp [lastI, lastN] at h
  | c :: r, x, h => by
    have hg := lastI_ge r x
    rw [lastI_cons] at h ⊢
    by_cases h1 : 0 ≤ lastI r x
    · rw [if_pos h1]
      obtain ⟨h2, h3⟩ := lastI_behind r x h1
      have e : (lastI r x + 1).toNat = (lastI r x).toNat + 1 := by omega
      rw [e]
      simp [h2, h3]
    · rw [if_neg h1] at h ⊢
      by_cases h2 : c = x
      · rw [if_pos h2]
        subst h2
        simp [lastI_none r c (by omega)]
      · rw [if_neg h2] at h; omega
/-- How many bytes of a version a list begins with. -/
def twR (b : Bool) (l : List UInt8) : Nat := (l.takeWhile (okB b)).length
theorem ok_part (c : UInt8) (h1 : c ≠ 58) (h2 : c ≠ 45) (b : Bool) : okB b c = partB c := by
  have e : isC (c.toNat : Int) 5 = (isC (c.toNat : Int) 1 || isC (c.toNat : Int) 4) := by
    simp only [isC]
    rw [Bool.eq_iff_iff]
    simp
    omega
  unfold okB partB
  rw [e]
  have h1' : (c == 58) = false := by simpa using h1
  have h2' : (c == 45) = false := by simpa using h2
  rw [h1', h2']
  cases b <;> simp [Bool.or_assoc]
/-- What a rest without an epoch comes to. -/
def dA (r : List UInt8) (j : Nat) (d : Int) : Int := if 0 ≤ lastI r 45 then (j : Int) + lastI r 45 else d
def oA (r : List UInt8) (o : Bool) : Bool := if 0 ≤ lastI r 45 then decide (58 ∈ r.drop ((lastI r 45).toNat + 1)) else (o || decide (58 ∈ r))
def tailX (b : Nat) (e : Bool) (r : List UInt8) (j : Nat) (d : Int) (o : Bool) : Except (Int × Nat) (Nat × Bool × Int × Bool) :=
  if twR e r < r.length then .error (10, j + twR e r) else .ok (b, e, dA r j d, oA r o)
theorem tw_cons (e : Bool) (c : UInt8) (r : List UInt8) (h : okB e c = true) : twR e (c :: r) = twR e r + 1 := by unfold twR; rw [List.takeWhile_cons, if_pos h]; rfl
theorem tw_stop (e : Bool) (c : UInt8) (r : List UInt8) (h : okB e c = false) : twR e (c :: r) = 0 := by unfold twR; rw [List.takeWhile_cons, if_neg (by simp [h])]; rfl
theorem tail_stop (b : Nat) (e : Bool) (c : UInt8) (r : List UInt8) (j : Nat) (d : Int) (o : Bool) (h : okB e c = false) : tailX b e (c :: r) j d o = .error (10, j) := by
  unfold tailX
  rw [tw_stop e c r h, if_pos (by simp)]
  rfl
theorem tail_next (b : Nat) (e : Bool) (c : UInt8) (r : List UInt8) (j : Nat) (d d' : Int) (o o' : Bool) (h : okB e c = true)
    (hd : dA (c :: r) j d = dA r (j + 1) d') (ho : oA (c :: r) o = oA r o') : tailX b e (c :: r) j d o = tailX b e r (j + 1) d' o' := by
  unfold tailX
  rw [tw_cons e c r h, hd, ho]
  by_cases ht : twR e r < r.length
  · rw [if_pos ht, if_pos (by simp; exact ht)]
    congr 2; omega
  · rw [if_neg ht, if_neg (by simp; omega)]
theorem dA_other (c : UInt8) (r : List UInt8) (j : Nat) (d : Int) (h : c ≠ 45) : dA (c :: r) j d = dA r (j + 1) d := by
  unfold dA
  have hg := lastI_ge r 45
  rw [lastI_cons]
  by_cases hl : 0 ≤ lastI r 45
  · simp only [hl, if_true]
    rw [if_pos (by omega)]; omega
  · simp only [hl, h, if_false]
    rfl
theorem dA_dash (r : List UInt8) (j : Nat) (d : Int) : dA (45 :: r) j d = dA r (j + 1) (j : Int) := by
  unfold dA
  have hg := lastI_ge r 45
  rw [lastI_cons]
  by_cases hl : 0 ≤ lastI r 45
  · simp only [hl, if_true]
    rw [if_pos (by omega)]; omega
  · simp only [hl, if_false, if_true]
    simp
theorem oA_other (c : UInt8) (r : List UInt8) (o : Bool) (h : c ≠ 45) (h58 : c ≠ 58) : oA (c :: r) o = oA r o := by
  unfold oA
  have hg := lastI_ge r 45
  rw [lastI_cons]
  by_cases hl : 0 ≤ lastI r 45
  · have e2 : (lastI r 45 + 1).toNat = (lastI r 45).toNat + 1 := by omega
    simp only [hl, if_true, e2, List.drop_succ_cons]
    rw [if_pos (by omega)]
  · simp only [hl, h, if_false]
    simp [Ne.symm h58]
theorem oA_colon (r : List UInt8) (o : Bool) : oA (58 :: r) o = oA r true := by
  unfold oA
  have hg := lastI_ge r 45
  rw [lastI_cons]
  by_cases hl : 0 ≤ lastI r 45
  · have e2 : (lastI r 45 + 1).toNat = (lastI r 45).toNat + 1 := by omega
    simp only [hl, if_true, e2, List.drop_succ_cons]
    rw [if_pos (by omega)]
  · simp only [hl, if_false]
    simp
theorem oA_dash (r : List UInt8) (o : Bool) : oA (45 :: r) o = oA r false := by
  unfold oA
  have hg := lastI_ge r 45
  rw [lastI_cons]
  by_cases hl : 0 ≤ lastI r 45
  · have e2 : (lastI r 45 + 1).toNat = (lastI r 45).toNat + 1 := by omega
    simp only [hl, if_true, e2, List.drop_succ_cons]
    rw [if_pos (by omega)]
  · simp only [hl, if_false, if_true]
    simp
/-- The first byte must be a digit. -/
def badH (r : List UInt8) (j b : Nat) : Bool := decide (j = b) && (match r with | [] => false | c :: _ => !isC (c.toNat : Int) 1)
/-- What the loop finds where no epoch is to come. -/
theorem docR_tail (l : List UInt8) (b : Nat) (e : Bool) : ∀ (r : List UInt8) (j : Nat) (d : Int) (o : Bool), b ≤ j →
    (e = false → ∀ i, r[i]? = some 58 → digB (l.take (j + i)) = false) →
    docR l r j b e d o = if badH r j b = true then .error (10, j) else tailX b e r j d o
  | [], j, d, o, _, _ => by simp [docR, twR, lastI, lastN, badH, tailX, dA, oA]
  | c :: r, j, d, o, hbj, hn => by
    by_cases h1 : j = b ∧ isC (c.toNat : Int) 1 = false
    · have hb : badH (c :: r) j b = true := by simp [badH, h1.1, h1.2]
      rw [docR, if_pos h1, if_pos hb]
    · have hb : badH (c :: r) j b = false := by
        cases hx : badH (c :: r) j b
        · rfl
        · simp [badH] at hx; exact absurd hx h1
      rw [hb, if_neg (by simp)]
      have hn' : e = false → ∀ i, r[i]? = some 58 → digB (l.take (j + 1 + i)) = false := fun he i hx => by
        have := hn he (i + 1) (by simpa using hx)
        rwa [show j + 1 + i = j + (i + 1) from by omega]
      have hstep : ∀ (d' : Int) (o' : Bool), docR l r (j + 1) b e d' o' = tailX b e r (j + 1) d' o' := fun d' o' => by
        rw [docR_tail l b e r (j + 1) d' o' (by omega) hn', if_neg (by simp [badH]; omega)]
      rw [docR, if_neg h1]
      by_cases h58 : c = 58
      · subst h58
        cases e with
        | false =>
          have hd := hn rfl 0 rfl
          rw [Nat.add_zero] at hd
          rw [if_neg (by rw [hd]; simp), if_neg (by simp), if_neg (by decide), if_pos (by decide), tail_stop _ _ _ _ _ _ _ (by decide)]
        | true =>
          rw [if_neg (by simp), if_pos ⟨rfl, rfl⟩, hstep]
          exact (tail_next b true 58 r j d d o true (by decide) (dA_other _ _ _ _ (by decide)) (oA_colon r o)).symm
      · by_cases h45 : c = 45
        · subst h45
          rw [if_neg (by rintro ⟨h, _⟩; exact h58 h), if_neg (by rintro ⟨h, _⟩; exact h58 h), if_pos rfl, hstep]
          exact (tail_next b e 45 r j d j o false (by cases e <;> decide) (dA_dash r j d) (oA_dash r o)).symm
        · rw [if_neg (by rintro ⟨h, _⟩; exact h58 h), if_neg (by rintro ⟨h, _⟩; exact h58 h), if_neg h45]
          have hop := ok_part c h58 h45 e
          cases hp : partB c
          · rw [if_pos rfl, tail_stop _ _ _ _ _ _ _ (by rw [hop, hp])]
          · rw [if_neg (by simp), hstep]
            exact (tail_next b e c r j d d o o (by rw [hop, hp]) (dA_other _ _ _ _ h45) (oA_other _ _ _ h45 h58)).symm
/-- Through an epoch's digits. -/
theorem docR_head (l t : List UInt8) : ∀ (u : List UInt8) (j : Nat), (∀ c ∈ u, isC (c.toNat : Int) 1 = true) → digB (l.take (j + u.length)) = true → 0 < j + u.length →
    docR l (u ++ 58 :: t) j 0 false (-1) false = docR l t (j + u.length + 1) (j + u.length + 1) true (-1) false
  | [], j, _, hd, hj => by
    rw [List.nil_append, docR, if_neg (by rintro ⟨h, _⟩; simp at hj; omega), if_pos ⟨rfl, rfl, by decide, hd⟩]
    rfl
  | c :: u, j, h, hd, hj => by
    have hc := h c List.mem_cons_self
    have h58 : c ≠ 58 := by rintro rfl; exact absurd hc (by decide)
    have h45 : c ≠ 45 := by rintro rfl; exact absurd hc (by decide)
    have hp : partB c = true := by unfold partB; rw [hc]; rfl
    rw [List.cons_append, docR, if_neg (by rw [hc]; simp), if_neg (by simp [h58]), if_neg (by simp [h58]), if_neg h45, if_neg (by simp [hp])]
    have e : j + (c :: u).length = j + 1 + u.length := by simp; omega
    rw [e] at hd ⊢
    exact docR_head l t u (j + 1) (fun x hx => h x (List.mem_cons_of_mem _ hx)) hd (by omega)

end Go.Proofs.Ythojcidbhojlhaa
