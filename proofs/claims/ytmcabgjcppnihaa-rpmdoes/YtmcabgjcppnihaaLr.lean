/-
  Plain laws: where a segment begins and ends, as the document looks for it; no program is named here.
-/
import Derived.Test.YtmcabgjcppnihaaLu
namespace Go.Proofs.Ytmcabgjcppnihaa
set_option linter.unusedVariables false

theorem isC5 (c : Int) : isC c 5 = (isC c 4 || isC c 1) := by simp [isC]
theorem dig_not (c : Int) (h : isC c 4 = true) : isC c 1 = false := by
  simp [isC] at h ⊢; omega
theorem kind_let (d : UInt8) : (kindB d == 3) = isC (d.toNat : Int) 4 := by
  unfold kindB
  by_cases h1 : d = 126
  · subst h1; decide
  rw [if_neg h1]
  by_cases h2 : d = 94
  · subst h2; decide
  rw [if_neg h2]
  cases h4 : isC (d.toNat : Int) 4
  · rw [if_neg (by simp)]
    cases h5 : isC (d.toNat : Int) 1 <;> rfl
  · rfl
theorem kind_dig (d : UInt8) : (kindB d == 4) = isC (d.toNat : Int) 1 := by
  unfold kindB
  by_cases h1 : d = 126
  · subst h1; decide
  rw [if_neg h1]
  by_cases h2 : d = 94
  · subst h2; decide
  rw [if_neg h2]
  cases h4 : isC (d.toNat : Int) 4
  · rw [if_neg (by simp)]
    cases h5 : isC (d.toNat : Int) 1 <;> rfl
  · rw [dig_not _ h4]; rfl
theorem kind_one (d : UInt8) : (kindB d == 1) = (!isC (d.toNat : Int) 5 && !(d == 126) && !(d == 94)) := by
  unfold kindB
  by_cases h1 : d = 126
  · subst h1; decide
  rw [if_neg h1]
  by_cases h2 : d = 94
  · subst h2; decide
  rw [if_neg h2, isC5]
  have e1 : (d == 126) = false := by simpa using h1
  have e2 : (d == 94) = false := by simpa using h2
  rw [e1, e2]
  cases h4 : isC (d.toNat : Int) 4
  · rw [if_neg (by simp)]
    cases h5 : isC (d.toNat : Int) 1 <;> rfl
  · rfl
theorem kind_tilde (d : UInt8) : (kindB d == 0) = (d == 126) := by
  unfold kindB
  by_cases h1 : d = 126
  · subst h1; decide
  have e1 : (d == 126) = false := by simpa using h1
  rw [if_neg h1, e1]
  by_cases h2 : d = 94
  · subst h2; decide
  rw [if_neg h2]
  cases h4 : isC (d.toNat : Int) 4
  · rw [if_neg (by simp)]
    cases h5 : isC (d.toNat : Int) 1 <;> rfl
  · rfl
theorem kind_caret (d : UInt8) : (kindB d == 2) = (d == 94) := by
  unfold kindB
  by_cases h1 : d = 126
  · subst h1; decide
  rw [if_neg h1]
  by_cases h2 : d = 94
  · subst h2; decide
  have e1 : (d == 94) = false := by simpa using h2
  rw [if_neg h2, e1]
  cases h4 : isC (d.toNat : Int) 4
  · rw [if_neg (by simp)]
    cases h5 : isC (d.toNat : Int) 1 <;> rfl
  · rfl
theorem kind_five (d : UInt8) : kindB d = 0 ∨ kindB d = 1 ∨ kindB d = 2 ∨ kindB d = 3 ∨ kindB d = 4 := by
  unfold kindB; (repeat' split) <;> simp
theorem kn_let : ∀ r : List UInt8, knN 3 r = runL 4 r
  | [] => rfl
  | d :: r => by
    have ih := kn_let r
    unfold knN at *
    rw [List.takeWhile_cons, runL, kind_let d]
    cases isC (d.toNat : Int) 4
    · rfl
    · simp only [if_true, List.length_cons, ih]
theorem kn_dig : ∀ r : List UInt8, knN 4 r = runL 1 r
  | [] => rfl
  | d :: r => by
    have ih := kn_dig r
    unfold knN at *
    rw [List.takeWhile_cons, runL, kind_dig d]
    cases isC (d.toNat : Int) 1
    · rfl
    · simp only [if_true, List.length_cons, ih]
/-- What is left behind what is passed over: nothing, or a segment. -/
theorem sk_nil_or (l : List UInt8) : (skL l = [] ∧ knL l = 1) ∨ ∃ c r, skL l = c :: r ∧ knL l = kindB c ∧ kindB c ≠ 1 := by
  cases h : skL l with
  | nil => exact .inl ⟨rfl, by unfold knL; rw [h]⟩
  | cons c r =>
    refine .inr ⟨c, r, rfl, by unfold knL; rw [h], fun e => ?_⟩
    have : ∀ (t : List UInt8), t.drop (t.takeWhile (fun c => kindB c == 1)).length = c :: r → False := by
      intro t
      induction t with
      | nil => intro h; cases h
      | cons d t ih =>
        intro h
        rw [List.takeWhile_cons] at h
        cases hd : (kindB d == 1)
        · rw [hd] at h
          cases h
          rw [e] at hd; cases hd
        · rw [hd] at h
          exact ih (by simpa using h)
    exact this l h
theorem kn_five (l : List UInt8) : knL l = 0 ∨ knL l = 1 ∨ knL l = 2 ∨ knL l = 3 ∨ knL l = 4 := by
  rcases sk_nil_or l with ⟨_, h⟩ | ⟨c, r, _, h, _⟩
  · exact .inr (.inl h)
  · rw [h]; exact kind_five c
/-- The place of a segment. -/
def skP (s : ByteArray) (i : Nat) : Nat := i + skN (s.data.toList.drop i)
theorem skP_le (s : ByteArray) (i : Nat) (h : i ≤ s.size) : skP s i ≤ s.size := by
  have := skN_le (s.data.toList.drop i)
  rw [List.length_drop, len_data] at this
  unfold skP; omega
theorem skP_ge (s : ByteArray) (i : Nat) : i ≤ skP s i := Nat.le_add_right _ _
theorem skP_drop (s : ByteArray) (i : Nat) : skL (s.data.toList.drop i) = s.data.toList.drop (skP s i) := by unfold skL skP; rw [List.drop_drop]
theorem end_one (s : ByteArray) (i : Nat) (h : i ≤ s.size) : skP s i = s.size ↔ knL (s.data.toList.drop i) = 1 := by
  have hd := skP_drop s i
  have hl := skP_le s i h
  constructor
  · intro e
    unfold knL
    rw [hd, e, drop_end s _ (Nat.le_refl _)]
  · intro e
    rcases sk_nil_or (s.data.toList.drop i) with ⟨h1, _⟩ | ⟨c, r, h1, h2, h3⟩
    · rw [hd] at h1
      have := congrArg List.length h1
      rw [List.length_drop, len_data, List.length_nil] at this
      omega
    · rw [e] at h2; exact absurd h2.symm h3
theorem kn_at (s : ByteArray) (i : Nat) (h : skP s i < s.size) : knL (s.data.toList.drop i) = kindB s[skP s i] := by
  unfold knL
  rw [skP_drop, drop_at s _ h]
theorem at_sign (s : ByteArray) (i : Nat) (h : i ≤ s.size) (c : UInt8) (k : Int) (hk : k ≠ 1) (hc : ∀ d : UInt8, (kindB d == k) = (d == c)) : atB s.data.toList (skP s i) c = (knL (s.data.toList.drop i) == k) := by
  by_cases hlt : skP s i < s.size
  · rw [kn_at s i hlt, hc, atB_in s _ c hlt, Bool.eq_iff_iff]
    simp only [decide_eq_true_eq, beq_iff_eq]
    exact ⟨fun h => UInt8.toNat_inj.1 (by omega), fun h => by rw [h]⟩
  · have he : skP s i = s.size := by have := skP_le s i h; omega
    rw [atB_out s _ c hlt, (end_one s i h).1 he]
    have : ((1 : Int) == k) = false := by simpa using Ne.symm hk
    rw [this]
theorem tk_sign (l : List UInt8) (k : Int) (hk : k = 0 ∨ k = 2) (h : knL l = k) : tkN l = 1 ∧ txL l = (skL l).take 1 := by
  have : tkN l = 1 := by
    rcases sk_nil_or l with ⟨_, h1⟩ | ⟨c, r, h1, h2, _⟩
    · rw [h1] at h; omega
    · unfold tkN
      rw [h1]
      dsimp only
      rw [← h2, h]
      rcases hk with rfl | rfl <;> rfl
  exact ⟨this, by unfold txL; rw [this]⟩
theorem tx_sign (l : List UInt8) (c : UInt8) (k : Int) (hk : k = 0 ∨ k = 2) (hc : ∀ d : UInt8, (kindB d == k) = (d == c)) (h : knL l = k) : txL l = [c] := by
  rw [(tk_sign l k hk h).2]
  rcases sk_nil_or l with ⟨_, h1⟩ | ⟨d, r, h1, h2, _⟩
  · rw [h1] at h; omega
  · rw [h1]
    have : (d == c) = true := by rw [← hc d, ← h2, h]; simp
    rw [eq_of_beq this]; rfl
theorem tx_none (l : List UInt8) (h : knL l = 1) : txL l = [] ∧ restL l = [] := by
  rcases sk_nil_or l with ⟨h1, _⟩ | ⟨d, r, h1, h2, h3⟩
  · unfold txL restL; rw [h1]; simp
  · rw [h] at h2; exact absurd h2.symm h3
theorem tk_run (l : List UInt8) (k : Int) (cl : Int) (hk : (k = 3 ∧ cl = 4) ∨ (k = 4 ∧ cl = 1)) (h : knL l = k) : tkN l = runL cl (skL l) := by
  rcases sk_nil_or l with ⟨_, h1⟩ | ⟨c, r, h1, h2, _⟩
  · rw [h1] at h; omega
  · unfold tkN
    rw [h1]
    dsimp only
    rw [← h2, h, runL]
    rw [h] at h2
    rcases hk with ⟨rfl, rfl⟩ | ⟨rfl, rfl⟩
    · have : isC (c.toNat : Int) 4 = true := by rw [← kind_let, ← h2]; rfl
      rw [this, kn_let]; simp [joinB]; omega
    · have : isC (c.toNat : Int) 1 = true := by rw [← kind_dig, ← h2]; rfl
      rw [this, kn_dig]; simp [joinB]; omega
theorem run_other (l : List UInt8) (k : Int) (cl : Int) (hk : (k ≠ 3 ∧ cl = 4) ∨ (k ≠ 4 ∧ cl = 1)) (h : knL l = k) : runL cl (skL l) = 0 := by
  rcases sk_nil_or l with ⟨h0, h1⟩ | ⟨c, r, h1, h2, _⟩
  · rw [h0]; rfl
  · rw [h1, runL]
    rw [h] at h2
    rcases hk with ⟨hn, rfl⟩ | ⟨hn, rfl⟩
    · have : isC (c.toNat : Int) 4 = false := by rw [← kind_let, ← h2]; simpa using hn
      rw [this]; rfl
    · have : isC (c.toNat : Int) 1 = false := by rw [← kind_dig, ← h2]; simpa using hn
      rw [this]; rfl
theorem run_pos (l : List UInt8) (k : Int) (cl : Int) (hk : (k = 3 ∧ cl = 4) ∨ (k = 4 ∧ cl = 1)) (h : knL l = k) : 0 < runL cl (skL l) := by
  rcases sk_nil_or l with ⟨h0, h1⟩ | ⟨c, r, h1, h2, _⟩
  · rw [h1] at h; omega
  · rw [h1, runL]
    rw [h] at h2
    rcases hk with ⟨rfl, rfl⟩ | ⟨rfl, rfl⟩
    · have : isC (c.toNat : Int) 4 = true := by rw [← kind_let, ← h2]; rfl
      rw [this]; simp
    · have : isC (c.toNat : Int) 1 = true := by rw [← kind_dig, ← h2]; rfl
      rw [this]; simp

theorem row_ne {P Q : List UInt8} {a b : Int} (ha : knL P = a) (hb : knL Q = b) (h : a ≠ b) : partO P Q = cmpI a b := by
  have e : rowO P Q = cmpI a b := by unfold rowO; rw [ha, hb, if_neg h]
  rw [partO_step, if_neg (by rw [e]; unfold cmpI; (repeat' split) <;> omega), e]
theorem row_sign {P Q : List UInt8} (c : UInt8) (k : Int) (hk : k = 0 ∨ k = 2) (hc : ∀ d : UInt8, (kindB d == k) = (d == c)) (ha : knL P = k) (hb : knL Q = k) : partO P Q = partO (restL P) (restL Q) := by
  rw [partO_step, if_pos (row_self _ _ (by rw [ha, hb]) (by rw [tx_sign P c k hk hc ha, tx_sign Q c k hk hc hb]))]
theorem row_none {P Q : List UInt8} (ha : knL P = 1) (hb : knL Q = 1) : partO P Q = 0 := by
  rw [partO_step, if_pos (row_self _ _ (by rw [ha, hb]) (by rw [(tx_none P ha).1, (tx_none Q hb).1])), (tx_none P ha).2, (tx_none Q hb).2]; rfl
theorem row_dig {P Q : List UInt8} (ha : knL P = 4) (hb : knL Q = 4) : partO P Q = if cmpD (txL P) (txL Q) = 0 then partO (restL P) (restL Q) else cmpD (txL P) (txL Q) := by
  have e : rowO P Q = cmpD (txL P) (txL Q) := by unfold rowO; rw [ha, hb, if_pos rfl, if_pos rfl]
  rw [partO_step, e]
theorem row_let {P Q : List UInt8} (ha : knL P = 3) (hb : knL Q = 3) : partO P Q = if Lib.compareBytes (txL P) (txL Q) = 0 then partO (restL P) (restL Q) else Lib.compareBytes (txL P) (txL Q) := by
  have e : rowO P Q = Lib.compareBytes (txL P) (txL Q) := by unfold rowO; rw [ha, hb, if_pos rfl, if_neg (by omega)]
  rw [partO_step, e]
theorem rest_at (s : ByteArray) (i : Nat) : restL (s.data.toList.drop i) = s.data.toList.drop (skP s i + tkN (s.data.toList.drop i)) := by
  rw [restL_eq, List.drop_drop]; unfold skP; congr 1; omega
theorem tx_at (s : ByteArray) (i : Nat) : ofL (txL (s.data.toList.drop i)) = s.extract (skP s i) (skP s i + tkN (s.data.toList.drop i)) := by
  rw [extract_seg, seg_run, ← skP_drop]; rfl

end Go.Proofs.Ytmcabgjcppnihaa
