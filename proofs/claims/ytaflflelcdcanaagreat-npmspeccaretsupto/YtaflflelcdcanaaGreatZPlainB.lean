/-
  Plain laws of the next number: one more, by the last digit that is no 9.
-/
import Derived.Test.YtaflflelcdcanaaGreatZPlain
namespace Go.Proofs.YtaflflelcdcanaaGreat

/-- One more, of digits from the last on. -/
def incR : List UInt8 → List UInt8
  | [] => [49]
  | c :: r => if c = 57 then 48 :: incR r else (c + 1) :: r

/-- One more. -/
def incL (l : List UInt8) : List UInt8 := (incR l.reverse).reverse

/-- The next number's digits. -/
def nextL (d : List UInt8) : List UInt8 := if runL 1 d = d.length then incL (trimL d) else [49]

def AllD (l : List UInt8) : Prop := ∀ c ∈ l, 48 ≤ c.toNat ∧ c.toNat ≤ 57

theorem allD_of_run : ∀ l : List UInt8, runL 1 l = l.length → AllD l
  | [], _ => by intro c hc; simp at hc
  | c :: r, h => by
    unfold runL at h
    by_cases hc : isC (c.toNat : Int) 1 = true
    · rw [if_pos hc] at h
      have ih := allD_of_run r (by simpa using h)
      have hb : 48 ≤ (c.toNat : Int) ∧ (c.toNat : Int) ≤ 57 := by simpa [isC] using hc
      intro x hx
      rcases List.mem_cons.1 hx with rfl | hx
      · omega
      · exact ih x hx
    · rw [if_neg hc] at h
      simp at h

theorem run_of_allD : ∀ l : List UInt8, AllD l → runL 1 l = l.length
  | [], _ => rfl
  | c :: r, h => by
    have hb := h c List.mem_cons_self
    unfold runL
    rw [if_pos (by simp [isC]; omega), run_of_allD r (fun x hx => h x (List.mem_cons_of_mem _ hx))]
    rfl

theorem trimL_allD : ∀ l : List UInt8, AllD l → AllD (trimL l)
  | [], _ => by intro c hc; simp [trimL] at hc; subst hc; decide
  | c :: r, h => by
    unfold trimL
    split
    · exact trimL_allD r (fun x hx => h x (List.mem_cons_of_mem _ hx))
    · exact h

theorem incL_nine (l : List UInt8) (k : Nat) (hk : k < l.length) (h9 : l[k] = 57) : incL (l.take (k + 1)) = incL (l.take k) ++ [48] := by
  unfold incL
  rw [List.take_succ_eq_append_getElem hk, List.reverse_append, h9]
  simp [incR]
theorem incL_stop (l : List UInt8) (k : Nat) (hk : k < l.length) (h9 : l[k] ≠ 57) : incL (l.take (k + 1)) = l.take k ++ [l[k] + 1] := by
  unfold incL
  rw [List.take_succ_eq_append_getElem hk, List.reverse_append]
  simp [incR, h9]
theorem incL_nil : incL [] = [49] := rfl

/-- What the bytes hold when all from place k on have been turned. -/
def tail0 (l : List UInt8) (k : Nat) : List UInt8 := l.take k ++ List.replicate (l.length - k) 48
theorem tail0_len (l : List UInt8) (k : Nat) (h : k ≤ l.length) : (tail0 l k).length = l.length := by simp [tail0]; omega
theorem tail0_all (l : List UInt8) : tail0 l l.length = l := by simp [tail0]
theorem tail0_at (l : List UInt8) (k : Nat) (h : k < l.length) : (tail0 l (k + 1)).getD k 0 = l[k] := by
  simp only [tail0, List.getD]
  rw [List.getElem?_append_left (by simp; omega)]
  simp [h]
theorem tail0_set (l : List UInt8) (k : Nat) (h : k < l.length) (c : UInt8) : (tail0 l (k + 1)).set k c = l.take k ++ [c] ++ List.replicate (l.length - (k + 1)) 48 := by
  have e : (l.take k).length = k := by simp; omega
  unfold tail0
  rw [List.take_succ_eq_append_getElem h, List.append_assoc, List.set_append_right _ _ (by omega), e, Nat.sub_self]
  simp
theorem tail0_nine (l : List UInt8) (k : Nat) (h : k < l.length) : (tail0 l (k + 1)).set k 48 = tail0 l k := by
  rw [tail0_set l k h, tail0, List.append_assoc]
  have : l.length - k = (l.length - (k + 1)) + 1 := by omega
  rw [this, List.replicate_succ]
  rfl

/-- The loop's word: the answer is that of what stands ahead, with noughts behind. -/
def Mid (l : List UInt8) (k : Nat) : Prop := incL l = incL (l.take k) ++ List.replicate (l.length - k) 48
theorem mid_all (l : List UInt8) : Mid l l.length := by simp [Mid]
theorem mid_nine (l : List UInt8) (k : Nat) (hk : k < l.length) (h9 : l[k] = 57) (h : Mid l (k + 1)) : Mid l k := by
  unfold Mid at *
  rw [h, incL_nine l k hk h9, List.append_assoc]
  have : l.length - k = (l.length - (k + 1)) + 1 := by omega
  rw [this, List.replicate_succ]
  rfl
theorem mid_stop (l : List UInt8) (k : Nat) (hk : k < l.length) (h9 : l[k] ≠ 57) (h : Mid l (k + 1)) : (tail0 l (k + 1)).set k (l[k] + 1) = incL l := by
  unfold Mid at h
  rw [h, incL_stop l k hk h9, tail0_set l k hk]
theorem mid_end (l : List UInt8) (h : Mid l 0) : incL l = 49 :: tail0 l 0 := by
  unfold Mid at h
  rw [h]
  simp [incL_nil, tail0]

/-! The document's way: with a nought ahead, and trimmed behind. -/
theorem trimL_id (c : UInt8) (l : List UInt8) (h : c ≠ 48) : trimL (c :: l) = c :: l := by rw [trimL, if_neg h]
theorem trimL_zeros : ∀ (n : Nat) (l : List UInt8), trimL (List.replicate n 48 ++ l) = trimL l
  | 0, l => by simp
  | n + 1, l => by
    rw [List.replicate_succ, List.cons_append, trimL, if_pos rfl]
    exact trimL_zeros n l

theorem incR_app : ∀ x y : List UInt8, (∀ c ∈ x, c = 57) → incR (x ++ y) = List.replicate x.length 48 ++ incR y
  | [], y, _ => by simp
  | c :: x, y, h => by
    have hc := h c List.mem_cons_self
    rw [List.cons_append, incR, if_pos hc, incR_app x y (fun z hz => h z (List.mem_cons_of_mem _ hz))]
    simp [List.replicate_succ]
theorem incR_some : ∀ x y : List UInt8, ¬ (∀ c ∈ x, c = 57) → incR (x ++ y) = incR x ++ y
  | [], y, h => absurd (by simp) h
  | c :: x, y, h => by
    by_cases hc : c = 57
    · rw [List.cons_append, incR, incR, if_pos hc, if_pos hc, incR_some x y (fun g => h (fun z hz => by rcases List.mem_cons.1 hz with rfl | hz; exact hc; exact g z hz))]
      rfl
    · rw [List.cons_append, incR, incR, if_neg hc, if_neg hc]
      rfl

/-- Digits are noughts, and then what is left of them; or noughts alone. -/
theorem trim_parts : ∀ d : List UInt8, (∃ n c r, d = List.replicate n 48 ++ c :: r ∧ c ≠ 48 ∧ trimL d = c :: r) ∨ (d = List.replicate d.length 48 ∧ trimL d = [48])
  | [] => .inr (by simp [trimL])
  | c :: r => by
    by_cases hc : c = 48
    · subst hc
      rcases trim_parts r with ⟨n, x, y, h, hx, ht⟩ | ⟨h, ht⟩
      · exact .inl ⟨n + 1, x, y, by rw [List.replicate_succ, List.cons_append, ← h], hx, by rw [trimL, if_pos rfl, ht]⟩
      · exact .inr ⟨by rw [List.length_cons, List.replicate_succ, ← h], by rw [trimL, if_pos rfl, ht]⟩
    · exact .inl ⟨0, c, r, by simp, hc, trimL_id c r hc⟩

theorem incL_head (c : UInt8) (r : List UInt8) (hd : AllD (c :: r)) (hc : c ≠ 48) (h : ¬ ∀ x ∈ c :: r, x = 57) : ∃ c' r', incL (c :: r) = c' :: r' ∧ c' ≠ 48 := by
  unfold incL
  rw [List.reverse_cons]
  by_cases hr : ∀ x ∈ r, x = 57
  · have h57 : c ≠ 57 := fun e => h (fun x hx => by rcases List.mem_cons.1 hx with rfl | hx; exact e; exact hr x hx)
    rw [incR_app _ _ (fun x hx => hr x (by simpa using hx)), incR, if_neg h57]
    refine ⟨c + 1, List.replicate r.reverse.length 48, by simp, fun e => ?_⟩
    have hb := hd c List.mem_cons_self
    have e1 : (c + 1).toNat = (c.toNat + 1) % 256 := UInt8.toNat_add c 1
    have e2 : (c + 1).toNat = 48 := by rw [e]; rfl
    omega
  · rw [incR_some _ _ (fun g => hr (fun x hx => g x (by simpa using hx)))]
    exact ⟨c, (incR r.reverse).reverse, by simp, hc⟩

theorem next_ref (d : List UInt8) (hd : AllD d) : trimL (incL (48 :: d)) = incL (trimL d) := by
  rcases trim_parts d with ⟨n, c, r, h, hc, ht⟩ | ⟨h, ht⟩
  · rw [ht]
    have e : (48 :: d).reverse = (c :: r).reverse ++ List.replicate (n + 1) 48 := by
      rw [h, ← List.cons_append, ← List.replicate_succ, List.reverse_append, List.reverse_replicate]
    have hd' : AllD (c :: r) := fun x hx => hd x (by rw [h]; exact List.mem_append_right _ hx)
    by_cases h9 : ∀ x ∈ c :: r, x = 57
    · have h9' : ∀ x ∈ (c :: r).reverse, x = 57 := fun x hx => h9 x (List.mem_reverse.1 hx)
      have a1 : incL (48 :: d) = List.replicate n 48 ++ (49 :: List.replicate (c :: r).length 48) := by
        unfold incL
        rw [e, incR_app _ _ h9', List.replicate_succ, incR, if_neg (by decide)]
        simp
      have a2 : incL (c :: r) = 49 :: List.replicate (c :: r).length 48 := by
        unfold incL
        have := incR_app (c :: r).reverse [] h9'
        rw [List.append_nil] at this
        rw [this]
        simp [incR]
      rw [a1, a2, trimL_zeros, trimL_id _ _ (by decide)]
    · have h9' : ¬ ∀ x ∈ (c :: r).reverse, x = 57 := fun g => h9 (fun x hx => g x (List.mem_reverse.2 hx))
      have a1 : incL (48 :: d) = List.replicate (n + 1) 48 ++ incL (c :: r) := by
        unfold incL
        rw [e, incR_some _ _ h9', List.reverse_append, List.reverse_replicate]
      obtain ⟨c', r', hh, hn⟩ := incL_head c r hd' hc h9
      rw [a1, trimL_zeros, hh, trimL_id _ _ hn]
  · rw [ht]
    have e : 48 :: d = List.replicate (d.length + 1) 48 := by rw [List.replicate_succ, ← h]
    have a1 : incL (48 :: d) = List.replicate d.length 48 ++ [49] := by
      unfold incL
      rw [e, List.reverse_replicate, List.replicate_succ, incR, if_neg (by decide)]
      simp
    rw [a1, trimL_zeros]
    decide

end Go.Proofs.YtaflflelcdcanaaGreat
