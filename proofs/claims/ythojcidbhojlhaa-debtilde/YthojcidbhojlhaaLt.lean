/-
  Plain laws: a part with a tilde behind it; noughts ahead of a number; no program is named here.
-/
import Derived.Test.YthojcidbhojlhaaLq
namespace Go.Proofs.Ythojcidbhojlhaa
set_option linter.unusedVariables false

/-- What stands behind the first word. -/
def dwL (l : List UInt8) : List UInt8 := l.drop (wordL l).length
theorem digsL_eq (l : List UInt8) : digsL l = (dwL l).take (runL 1 (dwL l)) := rfl
theorem restL_eq (l : List UInt8) : restL l = (dwL l).drop (runL 1 (dwL l)) := by
  unfold restL dwL; rw [List.drop_drop]
theorem wordL_cons_nd (c : UInt8) (r : List UInt8) (h : isC (c.toNat : Int) 1 = false) : wordL (c :: r) = c :: wordL r := by simp [wordL, h]
theorem wordL_cons_d (c : UInt8) (r : List UInt8) (h : isC (c.toNat : Int) 1 = true) : wordL (c :: r) = [] := by simp [wordL, h]
theorem dwL_cons_nd (c : UInt8) (r : List UInt8) (h : isC (c.toNat : Int) 1 = false) : dwL (c :: r) = dwL r := by unfold dwL; rw [wordL_cons_nd c r h]; rfl
theorem dwL_cons_d (c : UInt8) (r : List UInt8) (h : isC (c.toNat : Int) 1 = true) : dwL (c :: r) = c :: r := by unfold dwL; rw [wordL_cons_d c r h]; rfl
/-- Without a digit the word goes on. -/
theorem word_app_nd (t : List UInt8) : ∀ a : List UInt8, (∀ c ∈ a, isC (c.toNat : Int) 1 = false) → wordL (a ++ t) = a ++ wordL t ∧ dwL (a ++ t) = dwL t
  | [], _ => ⟨rfl, rfl⟩
  | c :: r, h => by
    have hc := h c List.mem_cons_self
    obtain ⟨h1, h2⟩ := word_app_nd t r (fun x hx => h x (List.mem_cons_of_mem _ hx))
    rw [List.cons_append, wordL_cons_nd _ _ hc, dwL_cons_nd _ _ hc, h1, h2]
    exact ⟨rfl, rfl⟩
/-- With a digit the word ends there. -/
theorem word_app_d (t : List UInt8) : ∀ a : List UInt8, (∃ c ∈ a, isC (c.toNat : Int) 1 = true) → wordL (a ++ t) = wordL a ∧ dwL (a ++ t) = dwL a ++ t ∧ dwL a ≠ []
  | [], h => by obtain ⟨c, hc, _⟩ := h; cases hc
  | c :: r, h => by
    cases hc : isC (c.toNat : Int) 1
    · have hr : ∃ x ∈ r, isC (x.toNat : Int) 1 = true := by
        obtain ⟨x, hx, hd⟩ := h
        rcases List.mem_cons.1 hx with rfl | hx
        · rw [hc] at hd; cases hd
        · exact ⟨x, hx, hd⟩
      obtain ⟨h1, h2, h3⟩ := word_app_d t r hr
      rw [List.cons_append, wordL_cons_nd _ _ hc, dwL_cons_nd _ _ hc, h1, h2, wordL_cons_nd _ _ hc, dwL_cons_nd _ _ hc]
      exact ⟨rfl, rfl, h3⟩
    · rw [List.cons_append, wordL_cons_d _ _ hc, dwL_cons_d _ _ hc, wordL_cons_d _ _ hc, dwL_cons_d _ _ hc]
      exact ⟨rfl, rfl, by simp⟩
theorem run_app_in (t : List UInt8) : ∀ u : List UInt8, runL 1 u < u.length → runL 1 (u ++ t) = runL 1 u
  | [], h => by simp at h
  | c :: r, h => by
    rw [List.cons_append, runL, runL]
    rw [runL] at h
    split
    · rename_i hc
      rw [if_pos hc] at h
      rw [run_app_in t r (by simpa using h)]
    · rfl
theorem run_app_all (t : List UInt8) : ∀ u : List UInt8, runL 1 u = u.length → runL 1 (u ++ t) = u.length + runL 1 t
  | [], _ => by simp
  | c :: r, h => by
    rw [runL] at h
    split at h
    · rename_i hc
      rw [List.cons_append, runL, if_pos hc, run_app_all t r (by simpa using h)]
      simp; omega
    · simp at h
/-- A row goes the same way whatever stands behind it. -/
theorem cut_app (a t : List UInt8) (hd : ∃ c ∈ a, isC (c.toNat : Int) 1 = true) (ht : restL a ≠ [] ∨ runL 1 t = 0) : wordL (a ++ t) = wordL a ∧ digsL (a ++ t) = digsL a ∧ restL (a ++ t) = restL a ++ t := by
  obtain ⟨h1, h2, h3⟩ := word_app_d t a hd
  have hle := runL_le 1 (dwL a)
  refine ⟨h1, ?_, ?_⟩
  · rw [digsL_eq, digsL_eq, h2]
    by_cases hr : runL 1 (dwL a) < (dwL a).length
    · rw [run_app_in t _ hr, List.take_append_of_le_length (by omega)]
    · have he : runL 1 (dwL a) = (dwL a).length := by omega
      have hz : runL 1 t = 0 := by
        rcases ht with ht | ht
        · exact absurd (by rw [restL_eq, he, List.drop_length]) ht
        · exact ht
      rw [run_app_all t _ he, hz, he, Nat.add_zero, List.take_append_of_le_length (Nat.le_refl _)]
  · rw [restL_eq, restL_eq, h2]
    by_cases hr : runL 1 (dwL a) < (dwL a).length
    · rw [run_app_in t _ hr, List.drop_append_of_le_length (by omega)]
    · have he : runL 1 (dwL a) = (dwL a).length := by omega
      have hz : runL 1 t = 0 := by
        rcases ht with ht | ht
        · exact absurd (by rw [restL_eq, he, List.drop_length]) ht
        · exact ht
      rw [run_app_all t _ he, hz, he, Nat.add_zero, List.drop_append_of_le_length (Nat.le_refl _)]
theorem has_or (a : List UInt8) : (∃ c ∈ a, isC (c.toNat : Int) 1 = true) ∨ (∀ c ∈ a, isC (c.toNat : Int) 1 = false) := by
  by_cases h : ∃ c ∈ a, isC (c.toNat : Int) 1 = true
  · exact .inl h
  · refine .inr fun c hc => ?_
    cases hx : isC (c.toNat : Int) 1
    · rfl
    · exact absurd ⟨c, hc, hx⟩ h

theorem wordO_tilde (x : List UInt8) : ∀ a : List UInt8, wordO (a ++ 126 :: x) a = -1
  | [] => by
    rw [List.nil_append, wordO_step]
    have e1 : wtL (126 :: x) 0 = -1 := by simp [wtL, wtB]
    have e2 : wtL [] 0 = 0 := rfl
    rw [e1, e2, if_neg (by decide)]
    rfl
  | c :: r => by
    rw [wordO_step]
    have e : wtL (c :: r ++ 126 :: x) 0 = wtL (c :: r) 0 := by simp [wtL]
    rw [e, if_pos (cmpI_self _)]
    exact wordO_tilde x r
theorem part_tilde (b : List UInt8) : ∀ (n : Nat) (a : List UInt8), a.length ≤ n → partO (a ++ 126 :: b) a = -1 := by
  intro n
  induction n with
  | zero =>
    intro a h
    have ha : a = [] := List.length_eq_zero_iff.1 (by omega)
    subst ha
    have hw : wordO (wordL ([] ++ 126 :: b)) (wordL []) = -1 := by
      rw [List.nil_append, wordL_cons_nd _ _ (by decide)]
      exact wordO_tilde _ []
    have hr : rowO ([] ++ 126 :: b) [] = -1 := by unfold rowO; rw [hw]; rfl
    rw [partO_step, hr]
    rfl
  | succ n ih =>
    intro a h
    rcases has_or a with hd | hd
    · obtain ⟨h1, h2, h3⟩ := cut_app a (126 :: b) hd (.inr (by rfl))
      have hr : rowO (a ++ 126 :: b) a = 0 := by
        unfold rowO
        rw [h1, h2, wordO_cmp3.self, if_pos rfl, cmpD_cmp3.self]
      have hne : a ≠ [] := by rintro rfl; obtain ⟨c, hc, _⟩ := hd; cases hc
      have := restL_lt a hne
      rw [partO_step, hr, if_pos rfl, h3]
      exact ih (restL a) (by omega)
    · obtain ⟨h1, h2⟩ := word_app_nd (126 :: b) a hd
      obtain ⟨h1', _⟩ := word_app_nd [] a hd
      rw [List.append_nil] at h1'
      have hw : wordO (wordL (a ++ 126 :: b)) (wordL a) = -1 := by
        rw [h1, h1', wordL_cons_nd _ _ (by decide)]
        have e : a ++ wordL [] = a := by simp [wordL]
        rw [e]
        exact wordO_tilde _ a
      have hr : rowO (a ++ 126 :: b) a = -1 := by unfold rowO; rw [hw]; rfl
      rw [partO_step, hr]
      rfl

/-- The last byte is no digit. -/
def LastND (a : List UInt8) : Prop := ∀ c, a.getLast? = some c → isC (c.toNat : Int) 1 = false
theorem run_all (u : List UInt8) : runL 1 u = u.length → ∀ c ∈ u, isC (c.toNat : Int) 1 = true := by
  induction u with
  | nil => intro _ c hc; cases hc
  | cons x r ih =>
    intro h c hc
    rw [runL] at h
    split at h
    · rename_i hx
      rcases List.mem_cons.1 hc with rfl | hc
      · exact hx
      · exact ih (by simpa using h) c hc
    · simp at h
theorem parts_eq (a : List UInt8) : wordL a ++ dwL a = a := by
  unfold dwL
  induction a with
  | nil => rfl
  | cons c r ih =>
    cases hc : isC (c.toNat : Int) 1
    · rw [wordL_cons_nd _ _ hc]; simpa using ih
    · rw [wordL_cons_d _ _ hc]; rfl
theorem last_app (p q : List UInt8) (h : q ≠ []) : (p ++ q).getLast? = q.getLast? := by
  rw [List.getLast?_append, List.getLast?_eq_some_getLast h]; rfl
theorem rest_last (a : List UInt8) (hd : ∃ c ∈ a, isC (c.toNat : Int) 1 = true) (hl : LastND a) : restL a ≠ [] ∧ LastND (restL a) := by
  obtain ⟨_, _, h3⟩ := word_app_d [] a hd
  have hle := runL_le 1 (dwL a)
  have hne : restL a ≠ [] := by
    intro he
    rw [restL_eq, List.drop_eq_nil_iff] at he
    have hall := run_all (dwL a) (by omega)
    have hlast : a.getLast? = (dwL a).getLast? := by
      have := congrArg List.getLast? (parts_eq a)
      rw [← this, last_app _ _ h3]
    obtain ⟨c, hc⟩ : ∃ c, (dwL a).getLast? = some c := ⟨_, List.getLast?_eq_some_getLast h3⟩
    have h1 := hl c (by rw [hlast, hc])
    have h2 := hall c (List.mem_of_getLast? hc)
    rw [h1] at h2; cases h2
  refine ⟨hne, fun c hc => hl c ?_⟩
  have e : a = (wordL a ++ (dwL a).take (runL 1 (dwL a))) ++ restL a := by
    rw [restL_eq, List.append_assoc, List.take_append_drop, parts_eq]
  rw [e, last_app _ _ hne]
  exact hc

theorem trim_zeros (z r : List UInt8) (hz : ∀ c ∈ z, c = 48) : trimL (z ++ r) = trimL r := by
  induction z with
  | nil => rfl
  | cons c z ih =>
    have hc := hz c List.mem_cons_self
    subst hc
    rw [List.cons_append, trimL, if_pos rfl]
    exact ih (fun c hc => hz c (List.mem_cons_of_mem _ hc))
theorem cmpD_of_trim (x y : List UInt8) (h : trimL x = trimL y) : cmpD x y = 0 := by
  unfold cmpD
  rw [h, if_neg (by omega), if_neg (by omega)]
  exact bytes_cmp3.self _
theorem part_zeros (z b : List UInt8) (hz : ∀ c ∈ z, c = 48) : ∀ (n : Nat) (a : List UInt8), a.length ≤ n → LastND a → partO (a ++ (z ++ 55 :: b)) (a ++ 55 :: b) = 0 := by
  have hzr : runL 1 z = z.length := by
    induction z with
    | nil => rfl
    | cons c z ih =>
      have hc := hz c List.mem_cons_self
      subst hc
      rw [runL, if_pos (by decide), ih (fun c hc => hz c (List.mem_cons_of_mem _ hc))]
      rfl
  have base : ∀ a : List UInt8, (∀ c ∈ a, isC (c.toNat : Int) 1 = false) → partO (a ++ (z ++ 55 :: b)) (a ++ 55 :: b) = 0 := by
    intro a hd
    have w0 : wordL (z ++ 55 :: b) = [] ∧ dwL (z ++ 55 :: b) = z ++ 55 :: b := by
      cases z with
      | nil => exact ⟨wordL_cons_d _ _ (by decide), dwL_cons_d _ _ (by decide)⟩
      | cons c z =>
        have hc := hz c List.mem_cons_self
        subst hc
        exact ⟨wordL_cons_d _ _ (by decide), dwL_cons_d _ _ (by decide)⟩
    have w1 : wordL (55 :: b) = [] ∧ dwL (55 :: b) = 55 :: b := ⟨wordL_cons_d _ _ (by decide), dwL_cons_d _ _ (by decide)⟩
    obtain ⟨h1, h2⟩ := word_app_nd (z ++ 55 :: b) a hd
    obtain ⟨k1, k2⟩ := word_app_nd (55 :: b) a hd
    rw [w0.1] at h1
    rw [w0.2] at h2
    rw [w1.1] at k1
    rw [w1.2] at k2
    have r1 : runL 1 (z ++ 55 :: b) = z.length + runL 1 (55 :: b) := run_app_all _ z hzr
    have d1 : digsL (a ++ (z ++ 55 :: b)) = z ++ digsL (a ++ 55 :: b) := by
      rw [digsL_eq, digsL_eq, h2, k2, r1, List.take_length_add_append]
    have d2 : restL (a ++ (z ++ 55 :: b)) = restL (a ++ 55 :: b) := by
      rw [restL_eq, restL_eq, h2, k2, r1, List.drop_length_add_append]
    have hr : rowO (a ++ (z ++ 55 :: b)) (a ++ 55 :: b) = 0 := by
      unfold rowO
      rw [h1, k1, wordO_cmp3.self, if_pos rfl, d1]
      exact cmpD_of_trim _ _ (trim_zeros z _ hz)
    rw [partO_step, hr, if_pos rfl, d2, partO_cmp3.self]
  intro n
  induction n with
  | zero =>
    intro a h _
    have ha : a = [] := List.length_eq_zero_iff.1 (by omega)
    subst ha
    exact base [] (by intro c hc; cases hc)
  | succ n ih =>
    intro a h hl
    rcases has_or a with hd | hd
    · obtain ⟨hne, hl'⟩ := rest_last a hd hl
      obtain ⟨h1, h2, h3⟩ := cut_app a (z ++ 55 :: b) hd (.inl hne)
      obtain ⟨k1, k2, k3⟩ := cut_app a (55 :: b) hd (.inl hne)
      have hr : rowO (a ++ (z ++ 55 :: b)) (a ++ 55 :: b) = 0 := by
        unfold rowO
        rw [h1, h2, k1, k2, wordO_cmp3.self, if_pos rfl, cmpD_cmp3.self]
      have hna : a ≠ [] := by rintro rfl; obtain ⟨c, hc, _⟩ := hd; cases hc
      have := restL_lt a hna
      rw [partO_step, hr, if_pos rfl, h3, k3]
      exact ih (restL a) (by omega) hl'
    · exact base a hd

end Go.Proofs.Ythojcidbhojlhaa
