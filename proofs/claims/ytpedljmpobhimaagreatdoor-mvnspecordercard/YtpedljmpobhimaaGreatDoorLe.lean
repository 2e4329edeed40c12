/-
  Which tokens are a version's: the program's answer is the document's.
-/
import Derived.Test.YtpedljmpobhimaaGreatDoorFd
namespace Go.Proofs.YtpedljmpobhimaaGreatDoor
set_option linter.unusedVariables false

/-! ### Trimming that takes nothing away -/

theorem trimR_self : ∀ ts : List Tok, trimR ts = ts → ∀ i, i < ts.length → looseAt ts i = false
  | [], _, i, hi => by simp at hi
  | t :: r, h, i, hi => by
    have hl := trimR_len r
    rw [trimR] at h
    split at h
    · have := congrArg List.length h; simp only [List.length_cons] at this; omega
    · rename_i hb
      have hr : trimR r = r := (List.cons.inj h).2
      cases i with
      | zero =>
        rw [hr] at hb
        unfold looseAt
        have e : (t :: r).getD (0 + 1) nilT = r.headD nilT := by cases r <;> rfl
        rw [e, List.getD_cons_zero]
        simpa using hb
      | succ i =>
        have := trimR_self r hr i (by simpa using hi)
        unfold looseAt at this ⊢
        rw [List.getD_cons_succ, List.getD_cons_succ]
        exact this
theorem trimR_full : ∀ ts : List Tok, (trimR ts).length = ts.length → trimR ts = ts
  | [], _ => rfl
  | t :: r, h => by
    have hl := trimR_len r
    rw [trimR] at h ⊢
    split at h
    · simp only [List.length_cons] at h; omega
    · rename_i hb
      rw [if_neg hb, trimR_full r (by simpa using h)]
theorem trimT_self (ts : List Tok) : decide (trimT ts = ts) = match ts with
    | [] => false
    | t :: r => !t.dash && ((r.isEmpty && t.num && (t.text == [48])) || (List.range (r.length + 1)).all (fun i => !looseAt (t :: r) i)) := by
  cases ts with
  | nil => rfl
  | cons t r =>
    dsimp only
    by_cases hd : t.dash = true
    · rw [hd]
      simp only [Bool.not_true, Bool.false_and, decide_eq_false_iff_not]
      intro h
      unfold trimT at h
      cases hq : trimR (t :: r) with
      | nil => rw [hq] at h; simp only [headL] at h; have := (List.cons.inj h).1; rw [← this] at hd; cases hd
      | cons y q => rw [hq] at h; simp only [headL] at h; have := (List.cons.inj h).1; rw [← this] at hd; cases hd
    · have hd : t.dash = false := by simpa using hd
      rw [hd]
      simp only [Bool.not_false, Bool.true_and]
      cases hz : (r.isEmpty && t.num && (t.text == [48]))
      · rw [Bool.false_or]
        cases hA : (List.range (r.length + 1)).all (fun i => !looseAt (t :: r) i)
        · rw [decide_eq_false_iff_not]
          intro h
          rw [List.all_eq_false] at hA
          obtain ⟨i, hi, hn⟩ := hA
          rw [List.mem_range] at hi
          have hself : trimR (t :: r) = t :: r := by
            unfold trimT at h
            cases hq : trimR (t :: r) with
            | nil =>
              rw [hq] at h
              simp only [headL] at h
              obtain ⟨e1, e2⟩ := List.cons.inj h
              rw [← e1, ← e2] at hz
              cases hz
            | cons y q =>
              rw [← hq]
              refine trimR_full _ ?_
              rw [hq] at h
              have := congrArg List.length h
              simp only [headL, List.length_cons] at this
              rw [hq]; simpa using this
          have := trimR_self _ hself i (by simpa using hi)
          rw [this] at hn
          exact hn rfl
        · rw [decide_eq_true_iff]
          rw [List.all_eq_true] at hA
          have hself : trimR (t :: r) = t :: r := trim_none _ (fun j hj => by
            have := hA j (by rw [List.mem_range]; simpa using hj)
            simpa using this)
          unfold trimT
          rw [hself]
          simp only [headL]
          obtain ⟨d, n, x⟩ := t
          simp only at hd
          rw [hd]
      · rw [Bool.true_or, decide_eq_true_iff]
        simp only [Bool.and_eq_true, List.isEmpty_iff, beq_iff_eq] at hz
        obtain ⟨⟨rfl, h2⟩, h3⟩ := hz
        obtain ⟨d, n, x⟩ := t
        simp only at hd h2 h3
        subst hd h2 h3
        rfl

/-! ### A token is one -/

theorem low_okC (c : UInt8) (h : wordB c = true) : okC false c = true ↔ lowC c = c := by
  have := all8 (fun c => !wordB c || (okC false c == (lowC c == c))) (by decide +kernel) c
  rw [h, Bool.not_true, Bool.false_or, beq_iff_eq] at this
  rw [this, beq_iff_eq]
theorem okC_word (c : UInt8) (h : okC false c = true) : wordB c = true ∧ lowC c = c ∧ isC (c.toNat : Int) 1 = false := by
  have := all8 (fun c => !okC false c || (wordB c && (lowC c == c) && !isC (c.toNat : Int) 1)) (by decide +kernel) c
  rw [h, Bool.not_true, Bool.false_or, Bool.and_eq_true, Bool.and_eq_true, beq_iff_eq] at this
  exact ⟨this.1.1, this.1.2, by simpa using this.2⟩
theorem low_cr (c : UInt8) : (lowC c = 99 → c ≠ 114) := by
  have := all8 (fun c => !(lowC c == 99) || !(c == 114)) (by decide +kernel) c
  intro h e
  rw [h, e] at this
  exact absurd this (by decide)

theorem isTok_num (d : Bool) (x : List UInt8) : isTokB ⟨d, true, x⟩ = (x.all (okC true) && !badN x) := by
  unfold isTokB badN
  simp only [Bool.not_true, Bool.false_and, Bool.false_or]
  cases x with
  | nil => rfl
  | cons c r =>
    cases hc : isC (c.toNat : Int) 1
    · have h1 : (tokL false (c :: r) false).num = false := by unfold tokL; rw [if_neg (show ¬ numB (c :: r) = true by show ¬ isC (c.toNat : Int) 1 = true; rw [hc]; simp)]
      have h2 : (c :: r).all (okC true) = false := by rw [List.all_cons]; unfold okC; rw [if_pos rfl, hc]; rfl
      rw [h1, h2]
      simp
    · have h1 : tokL false (c :: r) false = ⟨false, true, trimL (c :: r)⟩ := by unfold tokL; rw [if_pos (show numB (c :: r) = true from hc)]
      have h2 : tkN (c :: r) = runL 1 (c :: r) := by
        unfold tkN
        rw [if_pos]
        rw [runL, if_pos hc]; omega
      have h3 : ((runL 1 (c :: r) : Int) == ((c :: r).length : Int)) = (c :: r).all (okC true) := by
        cases hA : (c :: r).all (okC true)
        · rw [beq_eq_false_iff_ne]
          intro e
          have e2 : runL 1 (c :: r) = (c :: r).length := by omega
          have := run_all _ e2
          rw [List.all_eq_false] at hA
          obtain ⟨z, hz, hn⟩ := hA
          exact hn (by unfold okC; rw [if_pos rfl]; exact this z hz)
        · rw [beq_iff_eq]
          rw [List.all_eq_true] at hA
          have := run_full (c :: r) (fun z hz => by have := hA z hz; unfold okC at this; rwa [if_pos rfl] at this)
          rw [this]
      rw [h1, h2, h3]
      simp

theorem qual_self (y : List UInt8) : qualL y false = if y = [99, 114] then [114, 99] else if y = [102, 105, 110, 97, 108] ∨ y = [103, 97] ∨ y = [114, 101, 108, 101, 97, 115, 101] then [] else y := by
  unfold qualL
  rw [if_pos rfl]

theorem isTok_qual (d : Bool) (x : List UInt8) : isTokB ⟨d, false, x⟩ = (x.all (okC false) && !badQ x) := by
  unfold isTokB
  simp only [Bool.not_false, Bool.true_and]
  cases x with
  | nil => rfl
  | cons c r =>
    have h0 : ((c :: r) == ([] : List UInt8)) = false := rfl
    rw [h0, Bool.false_or]
    cases hA : (c :: r).all (okC false)
    · rw [Bool.false_and]
      cases hc : isC (c.toNat : Int) 1
      · have h1 : tokL false (c :: r) false = ⟨false, false, qualL ((c :: r).map lowC) false⟩ := by unfold tokL; rw [if_neg (show ¬ numB (c :: r) = true by show ¬ isC (c.toNat : Int) 1 = true; rw [hc]; simp)]
        have h2 : tkN (c :: r) = wdN (c :: r) := by
          unfold tkN
          rw [if_neg]
          rw [runL, if_neg (by rw [hc]; simp)]; omega
        rw [h1, h2]
        dsimp only
        cases hw : ((wdN (c :: r) : Int) == ((c :: r).length : Int))
        · rfl
        · have hwl : wdN (c :: r) = (c :: r).length := by rw [beq_iff_eq] at hw; omega
          have hwa : ∀ z ∈ c :: r, wordB z = true := by
            have := take_wd (c :: r)
            rw [hwl, List.take_of_length_le (Nat.le_refl _)] at this
            exact this
          have hmap : ¬ (c :: r).map lowC = c :: r := by
            intro e
            rw [List.all_eq_false] at hA
            obtain ⟨z, hz, hn⟩ := hA
            apply hn
            rw [low_okC z (hwa z hz)]
            have : ∀ (l : List UInt8), l.map lowC = l → ∀ z ∈ l, lowC z = z := by
              intro l
              induction l with
              | nil => intro _ z hz; cases hz
              | cons a l ih =>
                intro e z hz
                obtain ⟨e1, e2⟩ := List.cons.inj e
                rcases List.mem_cons.1 hz with rfl | hz
                · exact e1
                · exact ih e2 z hz
            exact this _ e z hz
          have hq : (qualL ((c :: r).map lowC) false == c :: r) = false := by
            rw [beq_eq_false_iff_ne, qual_self]
            intro e
            split at e
            · rename_i h
              have e1 := (List.cons.inj e).1
              have h1 := (List.cons.inj h).1
              exact low_cr c h1 e1.symm
            · split at e
              · cases e
              · exact hmap e
          rw [hq]
          simp
      · have h1 : (tokL false (c :: r) false).num = true := by unfold tokL; rw [if_pos (show numB (c :: r) = true from hc)]
        rw [h1]
        simp
    · rw [List.all_eq_true] at hA
      have hW : AllW (c :: r) := fun z hz => okC_word z (hA z hz)
      obtain ⟨h1, h2, h3⟩ := allW_tok _ hW (by simp)
      have h4 : tokL false (c :: r) false = ⟨false, false, qualL (c :: r) false⟩ := by unfold tokL; rw [h2, h3]; rfl
      rw [h1, h4, qual_self]
      unfold badQ
      dsimp only
      generalize c :: r = y
      by_cases e1 : y = [99, 114]
      · subst e1; rfl
      · by_cases e2 : y = [102, 105, 110, 97, 108]
        · subst e2; rfl
        · by_cases e3 : y = [103, 97]
          · subst e3; rfl
          · by_cases e4 : y = [114, 101, 108, 101, 97, 115, 101]
            · subst e4; rfl
            · rw [if_neg e1, if_neg (by simp [e2, e3, e4])]
              simp [e1, e2, e3, e4]

theorem isTok_doc (t : Tok) : isTokB t = (t.text.all (okC t.num) && !badB t) := by
  obtain ⟨d, n, x⟩ := t
  cases n
  · exact isTok_qual d x
  · exact isTok_num d x

/-- The program's answer is the document's. -/
theorem fit_doc (ts : List Tok) : fitB ts = fitR ts := by
  unfold fitB
  rw [trimT_self]
  cases ts with
  | nil => rfl
  | cons t r =>
    dsimp only [fitR]
    have hall : (t :: r).all isTokB = (List.range (r.length + 1)).all (fun i => isTokB ((t :: r).getD i nilT)) := by
      rw [Bool.eq_iff_iff, List.all_eq_true, List.all_eq_true]
      constructor
      · intro h i hi
        rw [List.mem_range] at hi
        have hi' : i < (t :: r).length := by simpa using hi
        rw [List.getD_eq_getElem?_getD, List.getElem?_eq_getElem hi']
        exact h _ (List.getElem_mem hi')
      · intro h z hz
        obtain ⟨i, hi, rfl⟩ := List.getElem_of_mem hz
        have := h i (by rw [List.mem_range]; simpa using hi)
        rwa [List.getD_eq_getElem?_getD, List.getElem?_eq_getElem hi] at this
    have hone : (List.range (r.length + 1)).all (oneR (t :: r)) = ((List.range (r.length + 1)).all (fun i => isTokB ((t :: r).getD i nilT)) && (List.range (r.length + 1)).all (fun i => !looseAt (t :: r) i)) := by
      rw [Bool.eq_iff_iff, Bool.and_eq_true, List.all_eq_true, List.all_eq_true, List.all_eq_true]
      constructor
      · intro h
        refine ⟨fun i hi => ?_, fun i hi => ?_⟩
        · have := h i hi
          unfold oneR at this
          rw [← isTok_doc, Bool.and_eq_true] at this
          exact this.1
        · have := h i hi
          unfold oneR at this
          rw [Bool.and_eq_true] at this
          exact this.2
      · rintro ⟨h1, h2⟩ i hi
        unfold oneR
        rw [← isTok_doc, h1 i hi, h2 i hi]; rfl
    rw [hall, hone]
    cases hz : (r.isEmpty && t.num && (t.text == [48]))
    · rw [Bool.false_or, Bool.false_or]
      cases t.dash <;> cases (List.range (r.length + 1)).all (fun i => isTokB ((t :: r).getD i nilT)) <;> cases (List.range (r.length + 1)).all (fun i => !looseAt (t :: r) i) <;> rfl
    · rw [Bool.true_or, Bool.true_or]
      have hz' := hz
      simp only [Bool.and_eq_true, List.isEmpty_iff, beq_iff_eq] at hz'
      obtain ⟨⟨rfl, h2⟩, h3⟩ := hz'
      obtain ⟨d, n, x⟩ := t
      simp only at h2 h3
      subst h2 h3
      have : (List.range (([] : List Tok).length + 1)).all (fun i => isTokB (([⟨d, true, [48]⟩] : List Tok).getD i nilT)) = true := by cases d <;> decide +kernel
      rw [this, Bool.true_and]

theorem fit_dash {ts : List Tok} (h : fitB ts = true) : (ts.headD nilT).dash = false := by
  rw [fit_doc] at h
  cases ts with
  | nil => rfl
  | cons t r =>
    dsimp only [fitR] at h
    rw [Bool.and_eq_true] at h
    simpa using h.1

end Go.Proofs.YtpedljmpobhimaaGreatDoor
