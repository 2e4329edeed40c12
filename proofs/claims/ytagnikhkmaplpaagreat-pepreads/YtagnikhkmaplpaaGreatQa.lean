/-
  Plain laws: a text behind a version of releases alone is read as if it stood alone; no program is named here.
-/
import Derived.Test.YtagnikhkmaplpaaGreatPs
namespace Go.Proofs.YtagnikhkmaplpaaGreat
set_option linter.unusedVariables false

theorem drop_sh (B e : List UInt8) (a : Nat) : (B ++ e).drop (B.length + a) = e.drop a := by
  rw [List.drop_append, List.drop_eq_nil_of_le (by omega), List.nil_append, Nat.add_sub_cancel_left]
theorem get_sh (B e : List UInt8) (a : Nat) : (B ++ e)[B.length + a]? = e[a]? := by
  rw [List.getElem?_append_right (by omega), Nat.add_sub_cancel_left]
theorem seg_sh (B e : List UInt8) (a b : Nat) : seg (B ++ e) (B.length + a) (B.length + b) = seg e a b := by
  unfold seg
  rw [List.take_append, List.take_of_length_le (by omega), Nat.add_sub_cancel_left, drop_sh]
theorem mark_sh (B e : List UInt8) (a : Nat) : markL (B ++ e) (B.length + a) = B.length + markL e a := by
  unfold markL
  rw [get_sh]
  split <;> omega
theorem digE_sh (B e : List UInt8) (a : Nat) : digE (B ++ e) (B.length + a) = B.length + digE e a := by
  unfold digE
  rw [mark_sh, drop_sh]
  omega
theorem digT_sh (B e : List UInt8) (a : Nat) : digT (B ++ e) (B.length + a) = digT e a := by
  unfold digT
  rw [mark_sh, digE_sh, seg_sh]
theorem digP_sh (B e : List UInt8) (a : Nat) : digP (B ++ e) (B.length + a) = B.length + digP e a := by
  unfold digP
  rw [mark_sh, digE_sh]
  by_cases h : markL e a < digE e a
  · rw [if_pos h, if_pos (by omega)]
  · rw [if_neg h, if_neg (by omega)]
theorem skip_sh (B e : List UInt8) (a : Nat) (p : List UInt8) : skipP (B ++ e) (B.length + a) p = B.length + skipP e a p := by
  unfold skipP
  rw [drop_sh]
  split <;> omega
theorem word_sh (B e : List UInt8) (a : Nat) (ws : List (List UInt8)) : wordL (B ++ e) (B.length + a) ws = wordL e a ws := by
  unfold wordL
  rw [mark_sh, drop_sh]
theorem stN_sh (B e : List UInt8) (a : Nat) (ws : List (List UInt8)) : stN (B ++ e) (B.length + a) ws = stN e a ws := by
  unfold stN
  rw [word_sh, mark_sh]
  cases wordL e a ws with
  | none => rfl
  | some x => show trimL (digT _ (B.length + markL e a + x.length)) = _; rw [Nat.add_assoc, digT_sh]
theorem stP_sh (B e : List UInt8) (a : Nat) (ws : List (List UInt8)) : stP (B ++ e) (B.length + a) ws = B.length + stP e a ws := by
  unfold stP
  rw [word_sh, mark_sh]
  cases wordL e a ws with
  | none => rfl
  | some x => show digP _ (B.length + markL e a + x.length) = _; rw [Nat.add_assoc, digP_sh]
theorem preC_sh (B e : List UInt8) (a : Nat) : preC (B ++ e) (B.length + a) = preC e a := by
  unfold preC
  rw [word_sh]
theorem dash_sh (B e : List UInt8) (a : Nat) : dashB (B ++ e) (B.length + a) = dashB e a := by
  unfold dashB
  rw [drop_sh, digT_sh]
theorem posB_sh (B e : List UInt8) (a : Nat) : posB (B ++ e) (B.length + a) = posB e a := by
  unfold posB
  rw [dash_sh, word_sh]
theorem posN_sh (B e : List UInt8) (a : Nat) : posN (B ++ e) (B.length + a) = posN e a := by
  unfold posN
  rw [dash_sh, digT_sh, stN_sh]
theorem posP_sh (B e : List UInt8) (a : Nat) : posP (B ++ e) (B.length + a) = B.length + posP e a := by
  unfold posP
  rw [dash_sh, digP_sh, stP_sh]
  split <;> rfl
/-- Two places, further on. -/
def sh (n : Nat) (x : Nat × Nat) : Nat × Nat := (n + x.1, n + x.2)
theorem runs_sh (B e : List UInt8) (k : Int) (seps : List UInt8) : ∀ (m a : Nat), e.length - a = m → runsL (B ++ e) k seps (B.length + a) = (runsL e k seps a).map (sh B.length) := by
  intro m
  induction m using Nat.strongRecOn with
  | ind m ih =>
    intro a hm
    conv => lhs; rw [runsL]
    conv => rhs; rw [runsL]
    rw [drop_sh]
    by_cases h0 : runL k (e.drop a) = 0
    · rw [if_pos h0, if_pos h0]; rfl
    · rw [if_neg h0, if_neg h0]
      have g : (B ++ e)[B.length + a + runL k (e.drop a)]? = e[a + runL k (e.drop a)]? := by rw [Nat.add_assoc]; exact get_sh _ _ _
      by_cases h1 : ∃ c, e[a + runL k (e.drop a)]? = some c ∧ seps.contains c = true
      · rw [dif_pos (by rw [g]; exact h1), dif_pos h1]
        obtain ⟨c, hc, _⟩ := h1
        have hlt := (List.getElem?_eq_some_iff.1 hc).1
        have := ih (e.length - (a + runL k (e.drop a) + 1)) (by omega) (a + runL k (e.drop a) + 1) rfl
        rw [show B.length + a + runL k (e.drop a) + 1 = B.length + (a + runL k (e.drop a) + 1) by omega, this, List.map_cons]
        rw [show B.length + a + runL k (e.drop a) = B.length + (a + runL k (e.drop a)) by omega]
        rfl
      · rw [dif_neg (by rw [g]; exact h1), dif_neg h1]
        rw [show B.length + a + runL k (e.drop a) = B.length + (a + runL k (e.drop a)) by omega]
        rfl
theorem rowL_sh (B e : List UInt8) (xs : List (Nat × Nat)) : rowL (B ++ e) (xs.map (sh B.length)) = rowL e xs := by
  unfold rowL
  rw [List.map_map]
  refine List.map_congr_left fun x _ => ?_
  show plainL (seg (B ++ e) (B.length + x.1) (B.length + x.2)) = _
  rw [seg_sh]
theorem lastE_sh (n z : Nat) (xs : List (Nat × Nat)) : lastE (n + z) (xs.map (sh n)) = n + lastE z xs := by
  unfold lastE
  rw [List.getLast?_map]
  cases xs.getLast? <;> rfl

theorem run_all_app : ∀ (t r : List UInt8), runL 1 t = t.length → runL 1 r = 0 → runL 1 (t ++ r) = t.length
  | [], r, _, h => h
  | c :: t, r, h1, h2 => by
    have hc : isC (c.toNat : Int) 1 = true := by
      cases hh : isC (c.toNat : Int) 1
      · rw [runL, hh] at h1; simp at h1
      · rfl
    rw [runL, if_pos hc] at h1
    rw [List.cons_append, runL, if_pos hc, run_all_app t r (by simpa using h1) h2]; rfl
theorem trim_of {t : List UInt8} (h : trimB t = true) : t ≠ [] ∧ runL 1 t = t.length ∧ trimL t = t ∧ plainL t = t := by
  unfold trimB digB at h
  simp only [Bool.and_eq_true, beq_iff_eq, Bool.not_eq_true', List.isEmpty_eq_false_iff] at h
  refine ⟨h.1.1, h.1.2, h.2, ?_⟩
  unfold plainL
  split
  · exact h.2
  · rfl
theorem joinL_cons (t u : List UInt8) (r : List (List UInt8)) : joinL (t :: u :: r) = t ++ 46 :: joinL (u :: r) := by
  simp [joinL, dotted]
theorem lastE_more (z z' : Nat) (x : Nat × Nat) (xs : List (Nat × Nat)) (h : xs ≠ []) : lastE z (x :: xs) = lastE z' xs := by
  unfold lastE
  cases xs with
  | nil => exact absurd rfl h
  | cons y r =>
    rw [List.getLast?_cons_cons]
    cases hg : (y :: r).getLast? with
    | none => simp at hg
    | some z => rfl

/-- What may stand behind a release. -/
structure Tail (e : List UInt8) : Prop where
  e0 : runL 1 e = 0
  e1 : ∀ r, e = 46 :: r → runL 1 r = 0

theorem rel_runs (e : List UInt8) (he : Tail e) : ∀ (ts : List (List UInt8)) (t X : List UInt8), (∀ x ∈ t :: ts, trimB x = true) →
    ∃ xs, runsL (X ++ (joinL (t :: ts) ++ e)) 1 [46] X.length = xs ∧ xs ≠ [] ∧ rowL (X ++ (joinL (t :: ts) ++ e)) xs = t :: ts ∧ lastE X.length xs = X.length + (joinL (t :: ts)).length := by
  intro ts
  induction ts with
  | nil =>
    intro t X h
    obtain ⟨h1, h2, h3, h4⟩ := trim_of (h t List.mem_cons_self)
    have ej : joinL [t] = t := by simp [joinL, dotted]
    rw [ej]
    refine ⟨[(X.length, X.length + t.length)], ?_, by simp, ?_, rfl⟩
    · rw [runsL]
      have d0 : (X ++ (t ++ e)).drop X.length = t ++ e := drop_sh X (t ++ e) 0
      rw [d0, run_all_app t e h2 he.e0, if_neg (by simpa using h1)]
      have g : (X ++ (t ++ e))[X.length + t.length]? = e[0]? := by rw [get_sh]; exact get_sh t e 0
      by_cases hh : ∃ c, (X ++ (t ++ e))[X.length + t.length]? = some c ∧ ([46] : List UInt8).contains c = true
      · rw [dif_pos hh]
        obtain ⟨c, hc, hd⟩ := hh
        rw [g] at hc
        obtain ⟨r, rfl⟩ : ∃ r, e = 46 :: r := by
          cases e with
          | nil => cases hc
          | cons c' r =>
            have h5 : c' = c := by simpa using hc
            have h6 : c = 46 := by simpa using hd
            exact ⟨r, by rw [h5, h6]⟩
        rw [runsL]
        have d1 : (X ++ (t ++ 46 :: r)).drop (X.length + t.length + 1) = r := by
          rw [Nat.add_assoc, drop_sh, drop_sh]; rfl
        rw [d1, he.e1 r rfl, if_pos rfl]
      · rw [dif_neg hh]
    · show [plainL (seg (X ++ (t ++ e)) X.length (X.length + t.length))] = [t]
      have : seg (X ++ (t ++ e)) (X.length + 0) (X.length + t.length) = seg (t ++ e) 0 t.length := seg_sh _ _ _ _
      rw [Nat.add_zero] at this
      rw [this]
      have : seg (t ++ e) 0 t.length = t := by unfold seg; simp
      rw [this, h4]
  | cons u ts ih =>
    intro t X h
    obtain ⟨h1, h2, h3, h4⟩ := trim_of (h t List.mem_cons_self)
    have eY : X ++ (joinL (t :: u :: ts) ++ e) = (X ++ t ++ [46]) ++ (joinL (u :: ts) ++ e) := by rw [joinL_cons]; simp
    obtain ⟨xs, hx, hne, hr, hl⟩ := ih u (X ++ t ++ [46]) (fun x hx => h x (List.mem_cons_of_mem _ hx))
    have lY : (X ++ t ++ [46]).length = X.length + t.length + 1 := by simp; omega
    refine ⟨(X.length, X.length + t.length) :: xs, ?_, by simp, ?_, ?_⟩
    · have d0 : (X ++ (joinL (t :: u :: ts) ++ e)).drop X.length = joinL (t :: u :: ts) ++ e := drop_sh X _ 0
      rw [runsL]
      rw [d0]
      have er : runL 1 (joinL (t :: u :: ts) ++ e) = t.length := by
        rw [joinL_cons, List.append_assoc]
        exact run_all_app t _ h2 rfl
      rw [er, if_neg (by simpa using h1)]
      have g : (X ++ (joinL (t :: u :: ts) ++ e))[X.length + t.length]? = some 46 := by
        rw [get_sh, joinL_cons, List.append_assoc]
        exact get_sh t _ 0
      rw [dif_pos ⟨46, g, rfl⟩, eY, ← lY, hx]
    · rw [eY]
      show plainL (seg ((X ++ t ++ [46]) ++ (joinL (u :: ts) ++ e)) X.length (X.length + t.length)) :: rowL _ xs = _
      rw [hr, ← eY]
      have : seg (X ++ (joinL (t :: u :: ts) ++ e)) (X.length + 0) (X.length + t.length) = seg (joinL (t :: u :: ts) ++ e) 0 t.length := seg_sh _ _ _ _
      rw [Nat.add_zero] at this
      rw [this, joinL_cons, List.append_assoc]
      have : seg (t ++ (46 :: joinL (u :: ts) ++ e)) 0 t.length = t := by unfold seg; simp
      rw [this, h4]
    · rw [lastE_more _ (X ++ t ++ [46]).length _ _ hne, hl, lY, joinL_cons]
      simp
      omega

end Go.Proofs.YtagnikhkmaplpaaGreat
