/-
  Plain laws: the canonical text is read as the same tokens; no program is named here.
-/
import Derived.Test.YtpedljmpobhimaaGreatDoorLn
namespace Go.Proofs.YtpedljmpobhimaaGreatDoor
set_option linter.unusedVariables false

/-- A token that is read again out of its text. -/
def TokF (t : Tok) : Prop := (t.num = false ∧ t.text = []) ∨ (t.text ≠ [] ∧ tkN t.text = t.text.length ∧ ∀ d, tokL d t.text false = ⟨d, t.num, t.text⟩)

theorem run_all : ∀ l : List UInt8, runL 1 l = l.length → ∀ c ∈ l, isC (c.toNat : Int) 1 = true
  | [], _, c, hc => by cases hc
  | x :: r, h, c, hc => by
    rw [runL] at h
    split at h
    · rename_i hx
      rcases List.mem_cons.1 hc with rfl | hc
      · exact hx
      · exact run_all r (by simpa using h) c hc
    · simp at h
theorem run_full : ∀ l : List UInt8, (∀ c ∈ l, isC (c.toNat : Int) 1 = true) → runL 1 l = l.length
  | [], _ => rfl
  | x :: r, h => by rw [runL, if_pos (h x List.mem_cons_self), run_full r (fun c hc => h c (List.mem_cons_of_mem _ hc)), List.length_cons]
theorem tk_digits (q : List UInt8) (h : ∀ c ∈ q, isC (c.toNat : Int) 1 = true) (h0 : 0 < q.length) : tkN q = q.length := by
  have hr := run_full q h
  unfold tkN
  rw [if_pos (by omega), hr]
theorem take_run : ∀ l : List UInt8, ∀ c ∈ l.take (runL 1 l), isC (c.toNat : Int) 1 = true
  | [], c, hc => by simp at hc
  | x :: r, c, hc => by
    rw [runL] at hc
    split at hc
    · rename_i hx
      rw [List.take_succ_cons] at hc
      rcases List.mem_cons.1 hc with rfl | hc
      · exact hx
      · exact take_run r c hc
    · simp at hc
theorem take_wd : ∀ l : List UInt8, ∀ c ∈ l.take (wdN l), wordB c = true
  | [], c, hc => by simp at hc
  | x :: r, c, hc => by
    unfold wdN at hc
    rw [List.takeWhile_cons] at hc
    split at hc
    · rename_i hx
      rw [List.length_cons, List.take_succ_cons] at hc
      rcases List.mem_cons.1 hc with rfl | hc
      · exact hx
      · exact take_wd r c hc
    · simp at hc
theorem tk_all (l : List UInt8) (h : tkN l = l.length) : ∀ c ∈ l, okM c = true := by
  intro c hc
  unfold tkN at h
  unfold okM
  split at h
  · rw [run_all l h c hc]; rfl
  · have := tw_all wordB l (by unfold wdN at h; omega) c hc
    rw [this]; simp
theorem trim_digits : ∀ l : List UInt8, (∀ c ∈ l, isC (c.toNat : Int) 1 = true) → (∀ c ∈ trimL l, isC (c.toNat : Int) 1 = true) ∧ trimL (trimL l) = trimL l ∧ ((trimL l).length ≤ l.length ∨ (trimL l).length = 1)
  | [], _ => ⟨by intro c hc; simp [trimL] at hc; subst hc; rfl, rfl, .inr rfl⟩
  | x :: r, h => by
    rw [trimL]
    split
    · obtain ⟨h1, h2, h3⟩ := trim_digits r (fun c hc => h c (List.mem_cons_of_mem _ hc))
      exact ⟨h1, h2, h3.imp (fun h => by simp only [List.length_cons]; omega) id⟩
    · rename_i hx
      refine ⟨h, ?_, .inl (Nat.le_refl _)⟩
      rw [trimL, if_neg hx]
theorem word_low (c : UInt8) (h : wordB c = true) : wordB (lowC c) = true ∧ lowC (lowC c) = lowC c ∧ isC ((lowC c).toNat : Int) 1 = false := by
  refine ⟨by rw [low_word]; exact h, low_idem c, ?_⟩
  rw [low_digit]
  have := all8 (fun c => !wordB c || !isC (c.toNat : Int) 1) (by decide +kernel) c
  simpa [h] using this
/-- Bytes of a qualifier, in small letters. -/
def AllW (q : List UInt8) : Prop := ∀ c ∈ q, wordB c = true ∧ lowC c = c ∧ isC (c.toNat : Int) 1 = false
theorem allW_map (l : List UInt8) (h : ∀ c ∈ l, wordB c = true) : AllW (l.map lowC) := by
  intro c hc
  obtain ⟨x, hx, rfl⟩ := List.mem_map.1 hc
  exact word_low x (h x hx)
theorem allW_tok (q : List UInt8) (h : AllW q) (h0 : q ≠ []) : tkN q = q.length ∧ numB q = false ∧ q.map lowC = q := by
  have hw : wdN q = q.length := by unfold wdN; rw [tw_full wordB q (fun c hc => (h c hc).1)]
  refine ⟨?_, ?_, ?_⟩
  · unfold tkN
    cases q with
    | nil => exact absurd rfl h0
    | cons c r =>
      have hc := (h c List.mem_cons_self).2.2
      rw [if_neg (by rw [runL, if_neg (by rw [hc]; decide)]; decide)]
      exact hw
  · cases q with
    | nil => exact absurd rfl h0
    | cons c r => exact (h c List.mem_cons_self).2.2
  · rw [List.map_congr_left (g := id) (fun c hc => (h c hc).2.1), List.map_id]
theorem qual_fit (y : List UInt8) (b : Bool) (h : AllW y) : TokF ⟨false, false, qualL y b⟩ ∧ ((qualL y b).length ≤ y.length ∨ (qualL y b).length ≤ 9) := by
  have key : ∀ q : List UInt8, AllW q → qualL q false = q → TokF ⟨false, false, q⟩ := fun q hq hf => by
    by_cases h0 : q = []
    · exact .inl ⟨rfl, h0⟩
    · obtain ⟨h1, h2, h3⟩ := allW_tok q hq h0
      refine .inr ⟨h0, h1, fun d => ?_⟩
      unfold tokL
      dsimp only
      rw [h2, h3, hf]
      rfl
  unfold qualL
  split
  · exact ⟨key _ (by intro c hc; simp at hc; rcases hc with rfl | rfl <;> exact ⟨rfl, rfl, rfl⟩) rfl, .inr (by decide)⟩
  · rename_i h1
    split
    · exact ⟨.inl ⟨rfl, rfl⟩, .inr (by decide)⟩
    · rename_i h2
      have hy : qualL y false = y := by unfold qualL; rw [if_neg h1, if_neg h2, if_pos rfl]
      split
      · exact ⟨key y h hy, .inl (Nat.le_refl _)⟩
      · split
        · exact ⟨key _ (by intro c hc; simp at hc; rcases hc with rfl | rfl | rfl | rfl | rfl <;> exact ⟨rfl, rfl, rfl⟩) rfl, .inr (by decide)⟩
        · split
          · exact ⟨key _ (by intro c hc; simp at hc; rcases hc with rfl | rfl | rfl | rfl <;> exact ⟨rfl, rfl, rfl⟩) rfl, .inr (by decide)⟩
          · split
            · exact ⟨key _ (by intro c hc; simp at hc; rcases hc with rfl | rfl | rfl | rfl | rfl | rfl | rfl | rfl | rfl <;> exact ⟨rfl, rfl, rfl⟩) rfl, .inr (by decide)⟩
            · exact ⟨key y h hy, .inl (Nat.le_refl _)⟩
theorem tok_fit (d : Bool) (l : List UInt8) (b : Bool) (hl : l.length ≤ 64) : TokF (tokL d (l.take (tkN l)) b) ∧ (tokL d (l.take (tkN l)) b).text.length ≤ 64 := by
  have htl : (l.take (tkN l)).length ≤ 64 := by rw [List.length_take]; omega
  unfold tokL
  cases hb : numB (l.take (tkN l))
  · have hw : ∀ c ∈ l.take (tkN l), wordB c = true := by
      have hz : ¬ 0 < runL 1 l := by
        intro h0
        have ht : tkN l = runL 1 l := by unfold tkN; rw [if_pos h0]
        rw [ht] at hb
        cases l with
        | nil => simp [numB] at hb
        | cons x r =>
          rw [runL] at h0 hb
          split at h0
          · rename_i hx
            rw [if_pos hx, List.take_succ_cons] at hb
            rw [numB] at hb
            rw [hx] at hb
            cases hb
          · omega
      have ht : tkN l = wdN l := by unfold tkN; rw [if_neg hz]
      rw [ht]
      exact take_wd l
    obtain ⟨h1, h2⟩ := qual_fit _ b (allW_map _ hw)
    rw [List.length_map] at h2
    simp only [Bool.false_eq_true, if_false]
    refine ⟨?_, by rcases h2 with h | h <;> omega⟩
    rcases h1 with h | h
    · exact .inl h
    · exact .inr h
  · have hd : ∀ c ∈ l.take (tkN l), isC (c.toNat : Int) 1 = true := by
      by_cases h0 : 0 < runL 1 l
      · have ht : tkN l = runL 1 l := by unfold tkN; rw [if_pos h0]
        rw [ht]; exact take_run l
      · intro c hc
        cases l with
        | nil => simp at hc
        | cons x r =>
          cases hk : tkN (x :: r) with
          | zero => rw [hk] at hc; simp at hc
          | succ k =>
            rw [hk, List.take_succ_cons, numB] at hb
            rw [runL, if_pos hb] at h0
            omega
    obtain ⟨h1, h2, h3⟩ := trim_digits _ hd
    have hp := trimL_pos (l.take (tkN l))
    simp only [if_true]
    refine ⟨.inr ⟨?_, ?_, ?_⟩, by rcases h3 with h | h <;> omega⟩
    · intro e
      dsimp only at e
      rw [e] at hp; simp at hp
    · exact tk_digits _ h1 hp
    · intro d'
      dsimp only
      have hnb : numB (trimL (l.take (tkN l))) = true := by
        cases hx : trimL (l.take (tkN l)) with
        | nil => rfl
        | cons c r => exact h1 c (by rw [hx]; exact List.mem_cons_self)
      unfold tokL
      rw [hnb, h2]
      rfl
theorem split_fit : ∀ (n : Nat) (d : Bool) (l : List UInt8), l.length ≤ 64 → ∀ t ∈ splitN n d l, TokF t ∧ t.text.length ≤ 64
  | 0, _, _, _, t, h => by cases h
  | n + 1, d, l, hl, t, h => by
    rw [splitN] at h
    have hdl : (l.drop (tkN l)).length = l.length - tkN l := List.length_drop
    rcases List.mem_cons.1 h with rfl | h
    · exact tok_fit d l _ hl
    · cases hd : l.drop (tkN l) with
      | nil => rw [hd] at h; cases h
      | cons c r =>
        rw [hd] at h hdl
        dsimp only at h
        simp only [List.length_cons] at hdl
        split at h
        · exact split_fit n (c == 45) r (by omega) t h
        · exact split_fit n true (c :: r) (by simp only [List.length_cons]; omega) t h
theorem trimR_in : ∀ (ts : List Tok) (t : Tok), t ∈ trimR ts → t ∈ ts
  | [], t, h => h
  | x :: r, t, h => by
    rw [trimR] at h
    split at h
    · exact List.mem_cons_of_mem _ (trimR_in r t h)
    · rcases List.mem_cons.1 h with rfl | h
      · exact List.mem_cons_self
      · exact List.mem_cons_of_mem _ (trimR_in r t h)
theorem tokF_dash {t : Tok} (h : TokF t) (d : Bool) : TokF ⟨d, t.num, t.text⟩ := h
theorem head_fit (ts : List Tok) (h : ∀ t ∈ ts, TokF t ∧ t.text.length ≤ 64) : ∀ t ∈ headL ts, TokF t ∧ t.text.length ≤ 64 := by
  cases ts with
  | nil =>
    intro t ht
    simp [headL] at ht
    subst ht
    exact ⟨.inr ⟨by decide, by decide, fun d => by cases d <;> rfl⟩, by decide⟩
  | cons x r =>
    intro t ht
    rcases List.mem_cons.1 ht with rfl | ht
    · exact ⟨tokF_dash (h x List.mem_cons_self).1 false, (h x List.mem_cons_self).2⟩
    · exact h t (List.mem_cons_of_mem _ ht)
theorem toks_fit {l : List UInt8} {ts : List Tok} (h : toksL l = .ok ts) : ∀ t ∈ ts, TokF t ∧ t.text.length ≤ 64 := by
  obtain ⟨_, _, rfl, hl⟩ := toks_all h
  exact head_fit _ (fun t ht => split_fit _ _ _ hl t (trimR_in _ _ ht))

theorem trimR_idem : ∀ xs : List Tok, trimR (trimR xs) = trimR xs
  | [] => rfl
  | x :: r => by
    rw [trimR]
    split
    · exact trimR_idem r
    · rename_i h
      rw [trimR, trimR_idem r, if_neg h]
theorem trimR_le : ∀ ts : List Tok, (trimR ts).length ≤ ts.length
  | [] => Nat.le_refl _
  | x :: r => by
    have := trimR_le r
    rw [trimR]
    split <;> simp only [List.length_cons] <;> omega
theorem trimT_idem (xs : List Tok) : trimT (trimT xs) = trimT xs := by
  unfold trimT
  have h := trimR_idem xs
  cases hx : trimR xs with
  | nil => rfl
  | cons t r =>
    rw [hx] at h
    rw [trimR] at h
    have hc : ¬ ((nullB t && looseB ((trimR r).headD nilT)) = true) := by
      intro hc
      rw [if_pos hc] at h
      have h1 := trimR_le r
      rw [h] at h1
      simp only [List.length_cons] at h1
      omega
    rw [if_neg hc] at h
    have hr : trimR r = r := by simpa using h
    rw [hr] at hc
    have hn : nullB ⟨false, t.num, t.text⟩ = nullB t := rfl
    rw [headL, trimR, hr, hn, if_neg hc, headL]

theorem mark_dash (t : Tok) : (markT t == 45) = t.dash := by unfold markT; cases t.dash <;> rfl
theorem mark_ok (t : Tok) : markB (markT t) = true := by unfold markT; cases t.dash <;> rfl
theorem write_ok (t : Tok) (h : TokF t) : ∀ c ∈ writeT t, okM c = true := by
  unfold writeT
  split
  · intro c hc; simp at hc; rcases hc with rfl | rfl | rfl | rfl | rfl <;> rfl
  · rename_i h0
    rcases h with h | h
    · exact absurd h.2 h0
    · exact tk_all _ h.2.1
theorem canonR_ok : ∀ r : List Tok, (∀ t ∈ r, TokF t) → ∀ c ∈ canonR r, okM c = true
  | [], _, c, hc => by cases hc
  | t :: r, h, c, hc => by
    rw [canonR] at hc
    rcases List.mem_cons.1 hc with rfl | hc
    · unfold okM; rw [mark_ok]; simp
    · rcases List.mem_append.1 hc with hc | hc
      · exact write_ok t (h t List.mem_cons_self) c hc
      · exact canonR_ok r (fun t ht => h t (List.mem_cons_of_mem _ ht)) c hc
theorem split_write (t : Tok) (h : TokF t) (d : Bool) : splitD d (writeT t) = [⟨d, t.num, t.text⟩] := by
  unfold writeT
  split
  · rename_i h0
    rcases h with h | h
    · rw [h.1, h0]; cases d <;> rfl
    · exact absurd h0 h.1
  · rename_i h0
    rcases h with h | h
    · exact absurd h.2 h0
    · rw [splitD_end d t.text (by rw [h.2.1, List.drop_length]), h.2.1, List.take_length, h.2.2 d]
theorem split_canon : ∀ (r : List Tok), (∀ t ∈ r, TokF t) → ∀ (w : List UInt8) (d : Bool), (∀ c ∈ w, okM c = true) → splitD d (w ++ canonR r) = splitD d w ++ r
  | [], _, w, d, _ => by rw [canonR, List.append_nil, List.append_nil]
  | t :: r, h, w, d, hw => by
    have ht := h t List.mem_cons_self
    have hr := fun q hq => h q (List.mem_cons_of_mem _ hq)
    have e : canonR (t :: r) = markT t :: (writeT t ++ canonR r) := rfl
    have hall : ∀ c ∈ markT t :: (writeT t ++ canonR r), okM c = true := fun c hc => canonR_ok (t :: r) h c hc
    rw [e, splitD_app (markT t) _ (mark_ok t) hall _ d w (Nat.le_refl _) hw, mark_dash, split_canon r hr (writeT t) t.dash (write_ok t ht), split_write t ht]
    rfl
theorem canon_toks {l : List UInt8} {ts : List Tok} (h : toksL l = .ok ts) (hl : (canonT ts).length ≤ 64) : toksL (canonT ts) = .ok ts := by
  have hf := toks_fit h
  obtain ⟨_, _, hts, _⟩ := toks_all h
  have hid : trimT ts = ts := by rw [hts, trimT_idem]
  obtain ⟨t, r, htr, hd⟩ : ∃ t r, ts = t :: r ∧ t.dash = false := by
    rw [hts]
    unfold trimT
    cases trimR (splitL l) with
    | nil => exact ⟨_, _, rfl, rfl⟩
    | cons x q => exact ⟨_, _, rfl, rfl⟩
  subst htr
  have ht := (hf t List.mem_cons_self).1
  have hr : ∀ q ∈ r, TokF q := fun q hq => (hf q (List.mem_cons_of_mem _ hq)).1
  have hwn : writeT t ≠ [] := by
    unfold writeT
    split
    · decide
    · assumption
  have hok : ∀ c ∈ canonT (t :: r), okM c = true := fun c hc => by
    rcases List.mem_append.1 hc with hc | hc
    · exact write_ok t ht c hc
    · exact canonR_ok r hr c hc
  rw [toks_mk (by intro e; exact hwn (List.append_eq_nil_iff.1 e).1) hok hl]
  have es : splitL (canonT (t :: r)) = t :: r := by
    show splitD false (writeT t ++ canonR r) = _
    rw [split_canon r hr (writeT t) false (write_ok t ht), split_write t ht]
    obtain ⟨td, tn, tx⟩ := t
    dsimp only at hd
    subst hd
    rfl
  rw [es, hid]

end Go.Proofs.YtpedljmpobhimaaGreatDoor
