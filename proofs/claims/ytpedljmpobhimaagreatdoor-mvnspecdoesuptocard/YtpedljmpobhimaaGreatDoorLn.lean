/-
  Plain laws: what stands behind a mark, nulls laid behind, great letters; no program is named here.
-/
import Derived.Test.YtpedljmpobhimaaGreatDoorLq
import Derived.Test.YtpedljmpobhimaaGreatDoorDe
namespace Go.Proofs.YtpedljmpobhimaaGreatDoor
set_option linter.unusedVariables false

theorem all8 (p : UInt8 → Bool) (h : (List.range 256).all (fun n => p (UInt8.ofNat n)) = true) (c : UInt8) : p c = true := by
  have h1 := List.all_eq_true.1 h c.toNat (List.mem_range.2 c.toNat_lt)
  simpa using h1
theorem mark_not (m : UInt8) (h : markB m = true) : isC (m.toNat : Int) 1 = false ∧ wordB m = false := by
  have := all8 (fun m => !markB m || (!isC (m.toNat : Int) 1 && !wordB m)) (by decide +kernel) m
  simp only [h, Bool.not_true, Bool.false_or, Bool.and_eq_true, Bool.not_eq_true'] at this
  exact this

theorem runL_app (m : UInt8) (r : List UInt8) (h : isC (m.toNat : Int) 1 = false) : ∀ l : List UInt8, runL 1 (l ++ m :: r) = runL 1 l
  | [] => by
    show (if isC (m.toNat : Int) 1 = true then runL 1 r + 1 else 0) = 0
    rw [if_neg (by rw [h]; decide)]
  | c :: l => by rw [List.cons_append, runL, runL, runL_app m r h l]
theorem wdN_app (m : UInt8) (r : List UInt8) (h : wordB m = false) : ∀ l : List UInt8, wdN (l ++ m :: r) = wdN l
  | [] => by simp [wdN, h]
  | c :: l => by
    have ih := wdN_app m r h l
    unfold wdN at ih ⊢
    rw [List.cons_append, List.takeWhile_cons, List.takeWhile_cons]
    split
    · simp only [List.length_cons, ih]
    · rfl
theorem tkN_app (l : List UInt8) (m : UInt8) (r : List UInt8) (h : markB m = true) : tkN (l ++ m :: r) = tkN l := by
  obtain ⟨h1, h2⟩ := mark_not m h
  unfold tkN
  rw [runL_app m r h1, wdN_app m r h2]

theorem splitD_app (m : UInt8) (r : List UInt8) (hm : markB m = true) (hr : ∀ c ∈ m :: r, okM c = true) : ∀ (n : Nat) (d : Bool) (l : List UInt8), l.length ≤ n → (∀ c ∈ l, okM c = true) → splitD d (l ++ m :: r) = splitD d l ++ splitD (m == 45) r := by
  intro n
  induction n with
  | zero =>
    intro d l hl hok
    obtain rfl : l = [] := List.length_eq_zero_iff.1 (by omega)
    have ht : tkN ([] ++ m :: r) = 0 := by rw [tkN_app [] m r hm]; rfl
    rw [splitD_mark d ([] ++ m :: r) hr m r (by rw [ht]; rfl) hm, ht, splitD_end d [] rfl]
    rfl
  | succ n ih =>
    intro d l hl hok
    have ht := tkN_app l m r hm
    have hle := tkN_le l
    have hall : ∀ c ∈ l ++ m :: r, okM c = true := fun c hc => by
      rcases List.mem_append.1 hc with h | h
      · exact hok c h
      · exact hr c h
    have hdr : (l ++ m :: r).drop (tkN l) = l.drop (tkN l) ++ m :: r := List.drop_append_of_le_length hle
    have htk : (l ++ m :: r).take (tkN l) = l.take (tkN l) := List.take_append_of_le_length hle
    have hdl : (l.drop (tkN l)).length = l.length - tkN l := List.length_drop
    have hdm : ∀ c ∈ l.drop (tkN l), okM c = true := fun c hc => hok c (List.mem_of_mem_drop hc)
    cases hd : l.drop (tkN l) with
    | nil =>
      rw [hd] at hdr
      rw [splitD_mark d (l ++ m :: r) hall m r (by rw [ht, hdr]; rfl) hm, ht, htk, splitD_end d l hd]
      rfl
    | cons c q =>
      rw [hd] at hdr hdl hdm
      simp only [List.length_cons] at hdl
      cases hmc : markB c
      · obtain ⟨hp, e1⟩ := splitD_turn d l hok c q hd hmc
        obtain ⟨_, e2⟩ := splitD_turn d (l ++ m :: r) hall c (q ++ m :: r) (by rw [ht, hdr]; rfl) hmc
        rw [e1, e2, ht, htk, ← List.cons_append, ih true (c :: q) (by simp only [List.length_cons]; omega) hdm]
        rfl
      · have e1 := splitD_mark d l hok c q hd hmc
        have e2 := splitD_mark d (l ++ m :: r) hall c (q ++ m :: r) (by rw [ht, hdr]; rfl) hmc
        rw [e1, e2, ht, htk, ih (c == 45) q (by omega) (fun x hx => hdm x (List.mem_cons_of_mem _ hx))]
        rfl

theorem trimR_app (ys : List Tok) (h : trimR ys = []) : ∀ xs : List Tok, trimR (xs ++ ys) = trimR xs
  | [] => h
  | x :: xs => by rw [List.cons_append, trimR, trimR, trimR_app ys h xs]

theorem tw_full (p : UInt8 → Bool) : ∀ l : List UInt8, (∀ c ∈ l, p c = true) → l.takeWhile p = l
  | [], _ => rfl
  | x :: r, h => by rw [List.takeWhile_cons, if_pos (h x List.mem_cons_self), tw_full p r (fun c hc => h c (List.mem_cons_of_mem _ hc))]
theorem okN_full (l : List UInt8) (h : ∀ c ∈ l, okM c = true) : okN l = l.length := by
  unfold okN
  rw [tw_full okM l h]
theorem toks_all {l : List UInt8} {ts : List Tok} (h : toksL l = .ok ts) : l ≠ [] ∧ (∀ c ∈ l, okM c = true) ∧ ts = trimT (splitL l) ∧ l.length ≤ 64 := by
  unfold toksL at h
  split at h
  · cases h
  · split at h
    · cases h
    · split at h
      · cases h
      · cases h
        rename_i h1 h2 h3
        refine ⟨h2, ?_, rfl, by omega⟩
        exact tw_all okM l (by unfold okN at h3; omega)
theorem toks_mk {l : List UInt8} (h0 : l ≠ []) (h1 : ∀ c ∈ l, okM c = true) (h2 : l.length ≤ 64) : toksL l = .ok (trimT (splitL l)) := by
  unfold toksL
  rw [if_neg (by omega), if_neg h0, if_neg (by rw [okN_full l h1]; omega)]

/-- What may be laid behind. -/
structure NullTail (tl : List UInt8) : Prop where
  ok : tl.all okM = true
  mark : (tl.head?.any markB) = true
  none : trimR (splitD (tl.head? == some 45) tl.tail) = []
theorem null_toks {l tl : List UInt8} {ts : List Tok} (h : toksL l = .ok ts) (ht : NullTail tl) (hl : (l ++ tl).length ≤ 64) : toksL (l ++ tl) = .ok ts := by
  obtain ⟨h0, h1, rfl, _⟩ := toks_all h
  obtain ⟨ho, hm, hn⟩ := ht
  cases tl with
  | nil => simp at hm
  | cons m r =>
    have hr := List.all_eq_true.1 ho
    have hm' : markB m = true := by simpa using hm
    rw [toks_mk (by simp) (fun c hc => (List.mem_append.1 hc).elim (h1 c) (hr c)) hl]
    unfold trimT splitL
    have e1 : splitN ((l ++ m :: r).length + 1) false (l ++ m :: r) = splitD false (l ++ m :: r) := rfl
    have e2 : splitN (l.length + 1) false l = splitD false l := rfl
    have hn : trimR (splitD (m == 45) r) = [] := hn
    rw [e1, e2, splitD_app m r hm' hr _ false l (Nat.le_refl _) h1, trimR_app _ hn]

/-! ### Great letters -/
theorem low_idem (c : UInt8) : lowC (lowC c) = lowC c := by
  have := all8 (fun c => lowC (lowC c) == lowC c) (by decide +kernel) c
  simpa using this
theorem low_digit (c : UInt8) : isC ((lowC c).toNat : Int) 1 = isC (c.toNat : Int) 1 := by
  have := all8 (fun c => isC ((lowC c).toNat : Int) 1 == isC (c.toNat : Int) 1) (by decide +kernel) c
  simpa using this
theorem low_word (c : UInt8) : wordB (lowC c) = wordB c := by
  have := all8 (fun c => wordB (lowC c) == wordB c) (by decide +kernel) c
  simpa using this
theorem low_mark (c : UInt8) : markB (lowC c) = markB c := by
  have := all8 (fun c => markB (lowC c) == markB c) (by decide +kernel) c
  simpa using this
theorem low_dash (c : UInt8) : (lowC c == 45) = (c == 45) := by
  have := all8 (fun c => (lowC c == 45) == (c == 45)) (by decide +kernel) c
  simpa using this
theorem low_keep (c : UInt8) (h : isC (c.toNat : Int) 1 = true) : lowC c = c := by
  have := all8 (fun c => !isC (c.toNat : Int) 1 || lowC c == c) (by decide +kernel) c
  simpa [h] using this
theorem low_ok (c : UInt8) : okM (lowC c) = okM c := by unfold okM; rw [low_digit, low_word, low_mark]
theorem runL_low : ∀ l : List UInt8, runL 1 (l.map lowC) = runL 1 l
  | [] => rfl
  | c :: l => by rw [List.map_cons, runL, runL, low_digit, runL_low l]
theorem wdN_low : ∀ l : List UInt8, wdN (l.map lowC) = wdN l
  | [] => rfl
  | c :: l => by
    have ih := wdN_low l
    unfold wdN at ih ⊢
    rw [List.map_cons, List.takeWhile_cons, List.takeWhile_cons, low_word]
    split
    · simp only [List.length_cons, ih]
    · rfl
theorem tkN_low (l : List UInt8) : tkN (l.map lowC) = tkN l := by unfold tkN; rw [runL_low, wdN_low]
theorem take_run_low : ∀ l : List UInt8, (l.take (runL 1 l)).map lowC = l.take (runL 1 l)
  | [] => rfl
  | c :: l => by
    rw [runL]
    split
    · rename_i h; rw [List.take_succ_cons, List.map_cons, take_run_low l, low_keep c h]
    · rfl
theorem tok_low (d : Bool) (l : List UInt8) (b : Bool) : tokL d ((l.take (tkN l)).map lowC) b = tokL d (l.take (tkN l)) b := by
  have hn : numB ((l.take (tkN l)).map lowC) = numB (l.take (tkN l)) := by
    cases l.take (tkN l) with
    | nil => rfl
    | cons c r => exact low_digit c
  unfold tokL
  rw [hn]
  cases hb : numB (l.take (tkN l))
  · simp only [Bool.false_eq_true, if_false, List.map_map]
    rw [show lowC ∘ lowC = lowC from funext low_idem]
  · simp only [if_true]
    have : (l.take (tkN l)).map lowC = l.take (tkN l) := by
      by_cases h0 : 0 < runL 1 l
      · have : tkN l = runL 1 l := by unfold tkN; rw [if_pos h0]
        rw [this]; exact take_run_low l
      · have hz : runL 1 l = 0 := by omega
        cases l with
        | nil => rfl
        | cons c r =>
          rw [runL] at hz
          split at hz
          · omega
          · rename_i hc
            cases hk : tkN (c :: r) with
            | zero => rfl
            | succ k =>
              rw [hk, List.take_succ_cons] at hb
              exact absurd hb hc
    rw [this]
theorem turn_low (l : List UInt8) : turnB (l.map lowC) = turnB l := by
  cases l with
  | nil => rfl
  | cons c r => show (!markB (lowC c)) = !markB c; rw [low_mark]
theorem splitN_low : ∀ (n : Nat) (d : Bool) (l : List UInt8), splitN n d (l.map lowC) = splitN n d l
  | 0, _, _ => rfl
  | n + 1, d, l => by
    rw [splitN, splitN, tkN_low, ← List.map_take, ← List.map_drop, turn_low, tok_low]
    cases l.drop (tkN l) with
    | nil => rfl
    | cons c r =>
      rw [List.map_cons]
      dsimp only
      rw [low_mark, low_dash, splitN_low n (c == 45) r, ← List.map_cons, splitN_low n true (c :: r)]
theorem okN_low : ∀ l : List UInt8, okN (l.map lowC) = okN l
  | [] => rfl
  | c :: l => by
    have ih := okN_low l
    unfold okN at ih ⊢
    rw [List.map_cons, List.takeWhile_cons, List.takeWhile_cons, low_ok]
    split
    · simp only [List.length_cons, ih]
    · rfl
theorem toks_low (l : List UInt8) : toksL (l.map lowC) = toksL l := by
  unfold toksL
  rw [List.length_map, okN_low]
  have h1 : (l.map lowC = []) ↔ l = [] := List.map_eq_nil_iff
  have h2 : splitL (l.map lowC) = splitL l := by unfold splitL; rw [List.length_map]; exact splitN_low _ _ _
  rw [h2]
  by_cases h : l = []
  · rw [if_pos h, if_pos (h1.2 h)]
  · rw [if_neg h, if_neg (fun e => h (h1.1 e))]
theorem low_great (c : UInt8) (h1 : 97 ≤ c.toNat) (h2 : c.toNat ≤ 122) : lowC (c - 32) = lowC c := by
  have := all8 (fun c => !(decide (97 ≤ c.toNat) && decide (c.toNat ≤ 122)) || lowC (c - 32) == lowC c) (by decide +kernel) c
  simpa [h1, h2] using this
theorem set_low (l : List UInt8) (i : Nat) (c : UInt8) (h : lowC c = lowC (l.getD i 0)) : (l.set i c).map lowC = l.map lowC := by
  rw [List.map_set, h]
  apply List.ext_getElem?
  intro j
  rw [List.getElem?_set]
  by_cases hj : i = j
  · subst hj
    by_cases hl : i < (l.map lowC).length
    · have hl' : i < l.length := by simpa using hl
      rw [if_pos rfl, if_pos hl, List.getElem?_map, List.getElem?_eq_getElem hl', List.getD_eq_getElem?_getD, List.getElem?_eq_getElem hl']
      rfl
    · rw [if_pos rfl, if_neg hl, List.getElem?_eq_none (by omega)]
  · rw [if_neg hj]
theorem cmp_alike {a b : List UInt8} {ts : List Tok} (ha : toksL a = .ok ts) (hb : toksL b = .ok ts) : cmpT a b = 0 := by
  unfold cmpT
  rw [ha, hb]
  exact ordL_cmp3.self ts

end Go.Proofs.YtpedljmpobhimaaGreatDoor
