/-
  Which tokens are a version's: the program's answer is the document's.
-/
import Derived.Test.YtpedljmpobhimaaGreatDoorFd
import Derived.Test.YtpedljmpobhimaaGreatDoorFc
import Derived.Test.YtpedljmpobhimaaGreatDoorEe
namespace Go.Proofs.YtpedljmpobhimaaGreatDoor
set_option linter.unusedVariables false

/-! ### Trimming that takes nothing away -/

theorem trimR_self : ∀ ts : List Tok, trimR ts = ts → ∀ i, i < ts.length → looseAt ts i = false
  | [], _, i, hi => by simp at hi
  | t :: r, h, i, hi => by
    have hl := trimR_len r
    rw [trimR] at h
    split at h
    · have := congrArg List.length h; simp only [List.length_cons] at this; omega
    · rename_i hb
      have hr : trimR r = r := (List.cons.inj h).2
      cases i with
      | zero =>
        rw [hr] at hb
        unfold looseAt
        have e : (t :: r).getD (0 + 1) nilT = r.headD nilT := by cases r <;> rfl
        rw [e, List.getD_cons_zero]
        simpa using hb
      | succ i =>
        have := trimR_self r hr i (by simpa using hi)
        unfold looseAt at this ⊢
        rw [List.getD_cons_succ, List.getD_cons_succ]
        exact this
theorem trimR_full : ∀ ts : List Tok, (trimR ts).length = ts.length → trimR ts = ts
  | [], _ => rfl
  | t :: r, h => by
    have hl := trimR_len r
    rw [trimR] at h ⊢
    split at h
    · simp only [List.length_cons] at h; omega
    · rename_i hb
      rw [if_neg hb, trimR_full r (by simpa using h)]
theorem trimT_self (ts : List Tok) : decide (trimT ts = ts) = match ts with
    | [] => false
    | t :: r => !t.dash && ((r.isEmpty && t.num && (t.text == [48])) || (List.range (r.length + 1)).all (fun i => !looseAt (t :: r) i)) := by
  cases ts with
  | nil => rfl
  | cons t r =>
    dsimp only
    by_cases hd : t.dash = true
    · rw [hd]
      simp only [Bool.not_true, Bool.false_and, decide_eq_false_iff_not]
      intro h
      unfold trimT at h
      cases hq : trimR (t :: r) with
      | nil => rw [hq] at h; simp only [headL] at h; have := (List.cons.inj h).1; rw [← this] at hd; cases hd
      | cons y q => rw [hq] at h; simp only [headL] at h; have := (List.cons.inj h).1; rw [← this] at hd; cases hd
    · have hd : t.dash = false := by simpa using hd
      rw [hd]
      simp only [Bool.not_false, Bool.true_and]
      cases hz : (r.isEmpty && t.num && (t.text == [48]))
      · rw [Bool.false_or]
        cases hA : (List.range (r.length + 1)).all (fun i => !looseAt (t :: r) i)
        · rw [decide_eq_false_iff_not]
          intro h
          rw [List.all_eq_false] at hA
          obtain ⟨i, hi, hn⟩ := hA
          rw [List.mem_range] at hi
          have hself : trimR (t :: r) = t :: r := by
            unfold trimT at h
            cases hq : trimR (t :: r) with
            | nil =>
              rw [hq] at h
              simp only [headL] at h
              obtain ⟨e1, e2⟩ := List.cons.inj h
              rw [← e1, ← e2] at hz
              cases hz
            | cons y q =>
              rw [← hq]
              refine trimR_full _ ?_
              rw [hq] at h
              have := congrArg List.length h
              simp only [headL, List.length_cons] at this
              rw [hq]; simpa using this
          have := trimR_self _ hself i (by simpa using hi)
          rw [this] at hn
          exact hn rfl
        · rw [decide_eq_true_iff]
          rw [List.all_eq_true] at hA
          have hself : trimR (t :: r) = t :: r := trim_none _ (fun j hj => by
            have := hA j (by rw [List.mem_range]; simpa using hj)
            simpa using this)
          unfold trimT
          rw [hself]
          simp only [headL]
          obtain ⟨d, n, x⟩ := t
          simp only at hd
          rw [hd]
      · rw [Bool.true_or, decide_eq_true_iff]
        simp only [Bool.and_eq_true, List.isEmpty_iff, beq_iff_eq] at hz
        obtain ⟨⟨rfl, h2⟩, h3⟩ := hz
        obtain ⟨d, n, x⟩ := t
        simp only at hd h2 h3
        subst hd h2 h3
        rfl

/-! ### A token is one -/

theorem low_okC (c : UInt8) (h : wordB c = true) : okC false c = true ↔ lowC c = c := by
  have := all8 (fun c => !wordB c || (okC false c == (lowC c == c))) (by decide +kernel) c
  rw [h, Bool.not_true, Bool.false_or, beq_iff_eq] at this
  rw [this, beq_iff_eq]
theorem okC_word (c : UInt8) (h : okC false c = true) : wordB c = true ∧ lowC c = c ∧ isC (c.toNat : Int) 1 = false := by
  have := all8 (fun c => !okC false c || (wordB c && (lowC c == c) && !isC (c.toNat : Int) 1)) (by decide +kernel) c
  rw [h, Bool.not_true, Bool.false_or, Bool.and_eq_true, Bool.and_eq_true, beq_iff_eq] at this
  exact ⟨this.1.1, this.1.2, by simpa using this.2⟩
theorem low_cr (c : UInt8) : (lowC c = 99 → c ≠ 114) := by
  have := all8 (fun c => !(lowC c == 99) || !(c == 114)) (by decide +kernel) c
  intro h e
  rw [h, e] at this
  exact absurd this (by decide)

theorem isTok_num (d : Bool) (x : List UInt8) : isTokB ⟨d, true, x⟩ = (x.all (okC true) && !badN x) := by
  unfold isTokB badN
  simp only [Bool.not_true, Bool.false_and, Bool.false_or]
  cases x with
  | nil => rfl
  | cons c r =>
    cases hc : isC (c.toNat : Int) 1
    · have h1 : (tokL false (c :: r) false).num = false := by unfold tokL; rw [if_neg (show ¬ numB (c :: r) = true by show ¬ isC (c.toNat : Int) 1 = true; rw [hc]; simp)]
      have h2 : (c :: r).all (okC true) = false := by rw [List.all_cons]; unfold okC; rw [if_pos rfl, hc]; rfl
      rw [h1, h2]
      simp
    · have h1 : tokL false (c :: r) false = ⟨false, true, trimL (c :: r)⟩ := by unfold tokL; rw [if_pos (show numB (c :: r) = true from hc)]
      have h2 : tkN (c :: r) = runL 1 (c :: r) := by
        unfold tkN
        rw [if_pos]
        rw [runL, if_pos hc]; omega
      have h3 : ((runL 1 (c :: r) : Int) == ((c :: r).length : Int)) = (c :: r).all (okC true) := by
        cases hA : (c :: r).all (okC true)
        · rw [beq_eq_false_iff_ne]
          intro e
          have e2 : runL 1 (c :: r) = (c :: r).length := by omega
          have := run_all _ e2
          rw [List.all_eq_false] at hA
          obtain ⟨z, hz, hn⟩ := hA
          exact hn (by unfold okC; rw [if_pos rfl]; exact this z hz)
        · rw [beq_iff_eq]
          rw [List.all_eq_true] at hA
          have := run_full (c :: r) (fun z hz => by have := hA z hz; unfold okC at this; rwa [if_pos rfl] at this)
          rw [this]
      rw [h1, h2, h3]
      simp

theorem qual_self (y : List UInt8) : qualL y false = if y = [99, 114] then [114, 99] else if y = [102, 105, 110, 97, 108] ∨ y = [103, 97] ∨ y = [114, 101, 108, 101, 97, 115, 101] then [] else y := by
  unfold qualL
  rw [if_pos rfl]

theorem isTok_qual (d : Bool) (x : List UInt8) : isTokB ⟨d, false, x⟩ = (x.all (okC false) && !badQ x) := by
  unfold isTokB
  simp only [Bool.not_false, Bool.true_and]
  cases x with
  | nil => rfl
  | cons c r =>
    have h0 : ((c :: r) == ([] : List UInt8)) = false := rfl
    rw [h0, Bool.false_or]
    cases hA : (c :: r).all (okC false)
    · rw [Bool.false_and]
      cases hc : isC (c.toNat : Int) 1
      · have h1 : tokL false (c :: r) false = ⟨false, false, qualL ((c :: r).map lowC) false⟩ := by unfold tokL; rw [if_neg (show ¬ numB (c :: r) = true by show ¬ isC (c.toNat : Int) 1 = true; rw [hc]; simp)]
        have h2 : tkN (c :: r) = wdN (c :: r) := by
          unfold tkN
          rw [if_neg]
          rw [runL, if_neg (by rw [hc]; simp)]; omega
        rw [h1, h2]
        dsimp only
        cases hw : ((wdN (c :: r) : Int) == ((c :: r).length : Int))
        · rfl
        · have hwl : wdN (c :: r) = (c :: r).length := by rw [beq_iff_eq] at hw; omega
          have hwa : ∀ z ∈ c :: r, wordB z = true := by
            have := take_wd (c :: r)
            rw [hwl, List.take_of_length_le (Nat.le_refl _)] at this
            exact this
          have hmap : ¬ (c :: r).map lowC = c :: r := by
            intro e
            rw [List.all_eq_false] at hA
            obtain ⟨z, hz, hn⟩ := hA
            apply hn
            rw [low_okC z (hwa z hz)]
            have : ∀ (l : List UInt8), l.map lowC = l → ∀ z ∈ l, lowC z = z := by
              intro l
              induction l with
              | nil => intro _ z hz; cases hz
              | cons a l ih =>
                intro e z hz
                obtain ⟨e1, e2⟩ := List.cons.inj e
                rcases List.mem_cons.1 hz with rfl | hz
                · exact e1
                · exact ih e2 z hz
            exact this _ e z hz
          have hq : (qualL ((c :: r).map lowC) false == c :: r) = false := by
            rw [beq_eq_false_iff_ne, qual_self]
            intro e
            split at e
            · rename_i h
              have e1 := (List.cons.inj e).1
              have h1 := (List.cons.inj h).1
              exact low_cr c h1 e1.symm
            · split at e
              · cases e
              · exact hmap e
          rw [hq]
          simp
      · have h1 : (tokL false (c :: r) false).num = true := by unfold tokL; rw [if_pos (show numB (c :: r) = true from hc)]
        rw [h1]
        simp
    · rw [List.all_eq_true] at hA
      have hW : AllW (c :: r) := fun z hz => okC_word z (hA z hz)
      obtain ⟨h1, h2, h3⟩ := allW_tok _ hW (by simp)
      have h4 : tokL false (c :: r) false = ⟨false, false, qualL (c :: r) false⟩ := by unfold tokL; rw [h2, h3]; rfl
      rw [h1, h4, qual_self]
      unfold badQ
      dsimp only
      generalize c :: r = y
      by_cases e1 : y = [99, 114]
      · subst e1; rfl
      · by_cases e2 : y = [102, 105, 110, 97, 108]
        · subst e2; rfl
        · by_cases e3 : y = [103, 97]
          · subst e3; rfl
          · by_cases e4 : y = [114, 101, 108, 101, 97, 115, 101]
            · subst e4; rfl
            · rw [if_neg e1, if_neg (by simp [e2, e3, e4])]
              simp [e1, e2, e3, e4]

theorem isTok_doc (t : Tok) : isTokB t = (t.text.all (okC t.num) && !badB t) := by
  obtain ⟨d, n, x⟩ := t
  cases n
  · exact isTok_qual d x
  · exact isTok_num d x

/-- The program's answer is the document's. -/
theorem fit_doc (ts : List Tok) : fitB ts = fitR ts := by
  unfold fitB
  rw [trimT_self]
  cases ts with
  | nil => rfl
  | cons t r =>
    dsimp only [fitR]
    have hall : (t :: r).all isTokB = (List.range (r.length + 1)).all (fun i => isTokB ((t :: r).getD i nilT)) := by
      rw [Bool.eq_iff_iff, List.all_eq_true, List.all_eq_true]
      constructor
      · intro h i hi
        rw [List.mem_range] at hi
        have hi' : i < (t :: r).length := by simpa using hi
        rw [List.getD_eq_getElem?_getD, List.getElem?_eq_getElem hi']
        exact h _ (List.getElem_mem hi')
      · intro h z hz
        obtain ⟨i, hi, rfl⟩ := List.getElem_of_mem hz
        have := h i (by rw [List.mem_range]; simpa using hi)
        rwa [List.getD_eq_getElem?_getD, List.getElem?_eq_getElem hi] at this
    have hone : (List.range (r.length + 1)).all (oneR (t :: r)) = ((List.range (r.length + 1)).all (fun i => isTokB ((t :: r).getD i nilT)) && (List.range (r.length + 1)).all (fun i => !looseAt (t :: r) i)) := by
      rw [Bool.eq_iff_iff, Bool.and_eq_true, List.all_eq_true, List.all_eq_true, List.all_eq_true]
      constructor
      · intro h
        refine ⟨fun i hi => ?_, fun i hi => ?_⟩
        · have := h i hi
          unfold oneR at this
          rw [← isTok_doc, Bool.and_eq_true] at this
          exact this.1
        · have := h i hi
          unfold oneR at this
          rw [Bool.and_eq_true] at this
          exact this.2
      · rintro ⟨h1, h2⟩ i hi
        unfold oneR
        rw [← isTok_doc, h1 i hi, h2 i hi]; rfl
    rw [hall, hone]
    cases hz : (r.isEmpty && t.num && (t.text == [48]))
    · rw [Bool.false_or, Bool.false_or]
      cases t.dash <;> cases (List.range (r.length + 1)).all (fun i => isTokB ((t :: r).getD i nilT)) <;> cases (List.range (r.length + 1)).all (fun i => !looseAt (t :: r) i) <;> rfl
    · rw [Bool.true_or, Bool.true_or]
      have hz' := hz
      simp only [Bool.and_eq_true, List.isEmpty_iff, beq_iff_eq] at hz'
      obtain ⟨⟨rfl, h2⟩, h3⟩ := hz'
      obtain ⟨d, n, x⟩ := t
      simp only at h2 h3
      subst h2 h3
      have : (List.range (([] : List Tok).length + 1)).all (fun i => isTokB (([⟨d, true, [48]⟩] : List Tok).getD i nilT)) = true := by cases d <;> decide +kernel
      rw [this, Bool.true_and]

theorem fit_dash {ts : List Tok} (h : fitB ts = true) : (ts.headD nilT).dash = false := by
  rw [fit_doc] at h
  cases ts with
  | nil => rfl
  | cons t r =>
    dsimp only [fitR] at h
    rw [Bool.and_eq_true] at h
    simpa using h.1

end Go.Proofs.YtpedljmpobhimaaGreatDoor

/-
  Walks: the document's order of versions and of texts.
-/
namespace Go.Proofs.YtpedljmpobhimaaGreatDoor
open Go.RowKit Go.Shelf
set_option linter.unusedVariables false

theorem stepW {w wr W2 w2 : World} (hB : Below w.heap.size w wr) (bW : Below wr.heap.size wr W2) (b2 : Below W2.heap.size W2 w2) : Below w.heap.size w w2 := hB.trans ((bW.trans (b2.mono bW.size)).mono hB.size)
theorem head_get (xs : List Tok) : xs.getD 0 nilT = xs.headD nilT := by cases xs <;> rfl

set_option maxRecDepth 100000 in
set_option maxHeartbeats 8000000 in
theorem ROrder_any (a1 a2 : Option Addr) (n1 n2 c1 c2 : Nat) (xs ys : List Tok) (w : World) (hX : Toks w (.slice a1 n1 c1) xs) (hY : Toks w (.slice a2 n2 c2) ys) (h1 : n1 ≤ 1048576) (h2 : n2 ≤ 1048576) (f1 : ∀ t ∈ xs, t.text.length ≤ 1048576) (f2 : ∀ t ∈ ys, t.text.length ≤ 1048576) :
    Calls Tryz.prog 42 #[.slice a1 n1 c1, .slice a2 n2 c2] w fun e w' => e = .returned (.int .i64 (ordF xs ys)) ∧ Below w.heap.size w w' := by
  have FX := fun w hT => RFit_any a1 n1 c1 xs w hT h1 f1
  have FY := fun w hT => RFit_any a2 n2 c2 ys w hT h2 f2
  rw [← fit_doc] at FX FY
  have FX := hide FX
  have FY := hide FY
  have HL1 := hide (toks_n hX)
  have HL2 := hide (toks_n hY)
  have HX := hide hX
  have HY := hide hY
  have G1 : Hid (∀ i, (xs.getD i nilT).text.length ≤ 1048576) := fun i => by
    by_cases hk : i < xs.length
    · rw [List.getD_eq_getElem?_getD, List.getElem?_eq_getElem hk]; exact f1 _ (List.getElem_mem hk)
    · rw [List.getD_eq_getElem?_getD, List.getElem?_eq_none (by omega)]; simp [nilT]
  have G2 : Hid (∀ i, (ys.getD i nilT).text.length ≤ 1048576) := fun i => by
    by_cases hk : i < ys.length
    · rw [List.getD_eq_getElem?_getD, List.getElem?_eq_getElem hk]; exact f2 _ (List.getElem_mem hk)
    · rw [List.getD_eq_getElem?_getD, List.getElem?_eq_none (by omega)]; simp [nilT]
  have HV : Hid (ordF xs ys = if fitB xs && fitB ys then ordL xs ys else 0) := rfl
  have HD : Hid (fitB xs = true → fitB ys = true → ∀ i : Nat, ((i : Int) == 0) = true → (xs.getD i nilT).dash = false ∧ (ys.getD i nilT).dash = false) := fun h3 h4 i hi => by
    have : i = 0 := by have := beq_iff_eq.1 hi; omega
    subst this
    rw [head_get, head_get]
    exact ⟨fit_dash h3, fit_dash h4⟩
  clear hX hY f1 f2
  generalize ordF xs ys = R at *
  generalize fitB xs = p at *
  generalize fitB ys = q at *
  cases p
  · go_enter Tryz.func42, Tryz.ntmps42
    go_wp2_with fail
    refine (FX.out _ HX.out).mono ?_
    rintro e w1 ⟨rfl, b1⟩
    go_wp2_with fail
    go_ret
    exact ⟨ret_i HV.out.symm, b1⟩
  · cases q
    · go_enter Tryz.func42, Tryz.ntmps42
      go_wp2_with fail
      refine (FX.out _ HX.out).mono ?_
      rintro e w1 ⟨rfl, b1⟩
      go_wp2_with fail
      refine (FY.out _ (HY.out.below b1)).mono ?_
      rintro e w2 ⟨rfl, b2⟩
      go_wp2_with fail
      go_ret
      exact ⟨ret_i HV.out.symm, b1.trans (b2.mono b1.size)⟩
    · have HD2 := hide (HD.out (by simp) (by simp))
      clear HD
      obtain ⟨M, hM1, hM2, hM3⟩ : ∃ M, n1 ≤ M ∧ n2 ≤ M ∧ (M = n1 ∨ M = n2) := ⟨max n1 n2, Nat.le_max_left _ _, Nat.le_max_right _ _, by omega⟩
      have HV2 : Hid (R = ordN (M - 0) (xs.drop 0) (ys.drop 0)) := by
        show _ = _
        rw [HV.out]
        show ordL xs ys = _
        unfold ordL
        rw [HL1.out, HL2.out, show max n1 n2 = M by omega]
        rfl
      go_enter Tryz.func42, Tryz.ntmps42
      go_wp2_with fail
      refine (FX.out _ HX.out).mono ?_
      rintro e w1 ⟨rfl, b1⟩
      go_wp2_with fail
      refine (FY.out _ (HY.out.below b1)).mono ?_
      rintro e w2 ⟨rfl, b2⟩
      have b12 := b1.trans (b2.mono b1.size)
      clear FX FY b1 b2
      go_wp2_with fail
      go_loopw [5] (fun y wr => ∃ i : Nat, i ≤ M ∧ y = .int .i64 i ∧ Below w.heap.size w wr ∧ Hid (R = ordN (M - i) (xs.drop i) (ys.drop i))) (fun y _ => M - (intOf y).toNat)
      case atStart => exact ⟨0, by omega, rfl, b12, HV2⟩
      case round =>
        clear HV HV2 b12
        obtain ⟨i, hi, rfl, hB, HR⟩ := hrel
        by_cases hiM : i < M
        · have HS := hide (ordN_drop xs ys i (M - i - 1))
          have hmk : M - i = M - i - 1 + 1 := by omega
          rw [hmk] at HR
          have hm2 : M - i - 1 = M - (i + 1) := by omega
          rw [hm2] at HR HS
          have ON := fun w => Rone_any (xs.getD i nilT) (ys.getD i nilT) ((i : Int) == 0) w (HD2.out i) (G1.out i) (G2.out i)
          have HX1 : Hid (i < n1 → xs.getD i nilT = xs[i]?.getD nilT) := fun h => List.getD_eq_getElem?_getD ..
          have hwr := hB.size
          clear hm2 hmk
          by_cases hi1 : i < n1
          · have hi1' : (i : Int) < (n1 : Int) := by omega
            have j1 : i < xs.length := by rw [HL1.out]; exact hi1
            obtain ⟨g1, o1, rfl, q1, d1⟩ := toks_at (HX.out.below hB) (by omega)
            obtain ⟨e0, e1, e2⟩ := d1 i j1
            have hg : xs.getD i nilT = xs[i] := by rw [List.getD_eq_getElem?_getD, List.getElem?_eq_getElem j1]; rfl
            rw [hg] at ON HS
            have hg1 : g1 ≠ wr.heap.size := by omega
            have hg2 : g1 ≠ wr.heap.size + 1 := by omega
            have hg3 : g1 < wr.heap.size + 1 := by omega
            clear d1 hg
            by_cases hi2 : i < n2
            · have hi2' : (i : Int) < (n2 : Int) := by omega
              have j2 : i < ys.length := by rw [HL2.out]; exact hi2
              obtain ⟨k1, r1, rfl, q2, d2⟩ := toks_at (HY.out.below hB) (by omega)
              obtain ⟨u0, u1, u2⟩ := d2 i j2
              have hg : ys.getD i nilT = ys[i] := by rw [List.getD_eq_getElem?_getD, List.getElem?_eq_getElem j2]; rfl
              rw [hg] at ON HS
              have hk1 : k1 ≠ wr.heap.size := by omega
              have hk2 : k1 ≠ wr.heap.size + 1 := by omega
              have hk3 : k1 < wr.heap.size + 1 := by omega
              clear d2 hg
              generalize xs[i] = x at *
              generalize ys[i] = y at *
              unfold tokV at ON
              clear j1 j2
              have ON := hide ON
              generalize ordT x y = O at *
              by_cases h0 : O = 0
              · subst h0
                have HZ : Hid (R = ordN (M - (i + 1)) (xs.drop (i + 1)) (ys.drop (i + 1))) := by show _ = _; rw [HR.out, HS.out, if_pos rfl]
                clear HR HS
                go_wp2_with fail
                refine (ON.out _).mono ?_
                rintro e w3 ⟨rfl, b3⟩
                have hB3 := stepW hB (by
                  repeat (first | exact Below.refl _ _ | refine Below.setCell (p := ⟨_, _, none⟩) ?_ (by simp) _ | refine Below.alloc ?_ (by simp) _ | refine Below.alloc ?_ (by simp; omega) _)) b3
                go_wp2_with fail
                go_roundw
                case rel => exact ⟨i + 1, by omega, by go_num, hB3, HZ⟩
                case measure => simp [intOf]; omega
              · have HZ : Hid (R = O) := by show _ = _; rw [HR.out, HS.out, if_neg h0]
                have hb0 : (O != 0) = true := by simpa using h0
                clear HR HS h0
                go_wp2_with fail
                refine (ON.out _).mono ?_
                rintro e w3 ⟨rfl, b3⟩
                have hB3 := stepW hB (by
                  repeat (first | exact Below.refl _ _ | refine Below.setCell (p := ⟨_, _, none⟩) ?_ (by simp) _ | refine Below.alloc ?_ (by simp) _ | refine Below.alloc ?_ (by simp; omega) _)) b3
                go_wp2_with fail
                go_ret
                exact ⟨ret_i HZ.out.symm, hB3⟩
            · have hi2' : ¬ (i : Int) < (n2 : Int) := by omega
              have hg : ys.getD i nilT = nilT := by rw [List.getD_eq_getElem?_getD, List.getElem?_eq_none (by rw [HL2.out]; omega)]; rfl
              rw [hg] at ON HS
              clear hg
              generalize xs[i] = x at *
              have ON : ∀ w, Calls Tryz.prog 67 #[tokV x, .agg #[.bool false, .bool false, .string ⟨#[]⟩], .bool ((i : Int) == 0)] w fun e w' => e = .returned (.int .i64 (ordT x nilT)) ∧ Below w.heap.size w w' := ON
              generalize nilT = y at *
              unfold tokV at ON
              clear j1
              have ON := hide ON
              generalize ordT x y = O at *
              by_cases h0 : O = 0
              · subst h0
                have HZ : Hid (R = ordN (M - (i + 1)) (xs.drop (i + 1)) (ys.drop (i + 1))) := by show _ = _; rw [HR.out, HS.out, if_pos rfl]
                clear HR HS
                go_wp2_with fail
                refine (ON.out _).mono ?_
                rintro e w3 ⟨rfl, b3⟩
                have hB3 := stepW hB (by
                  repeat (first | exact Below.refl _ _ | refine Below.setCell (p := ⟨_, _, none⟩) ?_ (by simp) _ | refine Below.alloc ?_ (by simp) _ | refine Below.alloc ?_ (by simp; omega) _)) b3
                go_wp2_with fail
                go_roundw
                case rel => exact ⟨i + 1, by omega, by go_num, hB3, HZ⟩
                case measure => simp [intOf]; omega
              · have HZ : Hid (R = O) := by show _ = _; rw [HR.out, HS.out, if_neg h0]
                have hb0 : (O != 0) = true := by simpa using h0
                clear HR HS h0
                go_wp2_with fail
                refine (ON.out _).mono ?_
                rintro e w3 ⟨rfl, b3⟩
                have hB3 := stepW hB (by
                  repeat (first | exact Below.refl _ _ | refine Below.setCell (p := ⟨_, _, none⟩) ?_ (by simp) _ | refine Below.alloc ?_ (by simp) _ | refine Below.alloc ?_ (by simp; omega) _)) b3
                go_wp2_with fail
                go_ret
                exact ⟨ret_i HZ.out.symm, hB3⟩
          · have hi1' : ¬ (i : Int) < (n1 : Int) := by omega
            have hi2 : i < n2 := by omega
            have hi2' : (i : Int) < (n2 : Int) := by omega
            have hg : xs.getD i nilT = nilT := by rw [List.getD_eq_getElem?_getD, List.getElem?_eq_none (by rw [HL1.out]; omega)]; rfl
            rw [hg] at ON HS
            clear hg
            have j2 : i < ys.length := by rw [HL2.out]; exact hi2
            obtain ⟨k1, r1, rfl, q2, d2⟩ := toks_at (HY.out.below hB) (by omega)
            obtain ⟨u0, u1, u2⟩ := d2 i j2
            have hg : ys.getD i nilT = ys[i] := by rw [List.getD_eq_getElem?_getD, List.getElem?_eq_getElem j2]; rfl
            rw [hg] at ON HS
            have hk1 : k1 ≠ wr.heap.size := by omega
            have hk2 : k1 ≠ wr.heap.size + 1 := by omega
            have hk3 : k1 < wr.heap.size + 1 := by omega
            clear d2 hg
            generalize ys[i] = y at *
            have ON : ∀ w, Calls Tryz.prog 67 #[.agg #[.bool false, .bool false, .string ⟨#[]⟩], tokV y, .bool ((i : Int) == 0)] w fun e w' => e = .returned (.int .i64 (ordT nilT y)) ∧ Below w.heap.size w w' := ON
            generalize nilT = x at *
            unfold tokV at ON
            clear j2
            have ON := hide ON
            generalize ordT x y = O at *
            by_cases h0 : O = 0
            · subst h0
              have HZ : Hid (R = ordN (M - (i + 1)) (xs.drop (i + 1)) (ys.drop (i + 1))) := by show _ = _; rw [HR.out, HS.out, if_pos rfl]
              clear HR HS
              go_wp2_with fail
              refine (ON.out _).mono ?_
              rintro e w3 ⟨rfl, b3⟩
              have hB3 := stepW hB (by
                repeat (first | exact Below.refl _ _ | refine Below.setCell (p := ⟨_, _, none⟩) ?_ (by simp) _ | refine Below.alloc ?_ (by simp) _ | refine Below.alloc ?_ (by simp; omega) _)) b3
              go_wp2_with fail
              go_roundw
              case rel => exact ⟨i + 1, by omega, by go_num, hB3, HZ⟩
              case measure => simp [intOf]; omega
            · have HZ : Hid (R = O) := by show _ = _; rw [HR.out, HS.out, if_neg h0]
              have hb0 : (O != 0) = true := by simpa using h0
              clear HR HS h0
              go_wp2_with fail
              refine (ON.out _).mono ?_
              rintro e w3 ⟨rfl, b3⟩
              have hB3 := stepW hB (by
                repeat (first | exact Below.refl _ _ | refine Below.setCell (p := ⟨_, _, none⟩) ?_ (by simp) _ | refine Below.alloc ?_ (by simp) _ | refine Below.alloc ?_ (by simp; omega) _)) b3
              go_wp2_with fail
              go_ret
              exact ⟨ret_i HZ.out.symm, hB3⟩
        · have hi1' : ¬ (i : Int) < (n1 : Int) := by omega
          have hi2' : ¬ (i : Int) < (n2 : Int) := by omega
          have HZ : Hid (R = 0) := by show _ = _; rw [HR.out, show M - i = 0 by omega]; rfl
          go_wp2_with fail
          go_ret
          exact ⟨ret_i HZ.out.symm, hB⟩

end Go.Proofs.YtpedljmpobhimaaGreatDoor

/-
  Walks: the document's order of texts.
-/
namespace Go.Proofs.YtpedljmpobhimaaGreatDoor
open Go.RowKit Go.Shelf
set_option linter.unusedVariables false

theorem isTok_of {t : Tok} (h : TokF t) : isTokB t = true := by
  unfold isTokB
  rcases h with ⟨h1, h2⟩ | ⟨h1, h2, h3⟩
  · rw [h1, h2]; rfl
  · rw [h2, h3 false]; simp
theorem toks_fitB {l : List UInt8} {ts : List Tok} (h : toksL l = .ok ts) : fitB ts = true := by
  unfold fitB
  rw [Bool.and_eq_true, List.all_eq_true]
  refine ⟨fun t ht => isTok_of (toks_fit h t ht).1, ?_⟩
  rw [decide_eq_true_iff, toks_eq h]
  exact trimT_idem _

set_option maxRecDepth 100000 in
set_option maxHeartbeats 4000000 in
theorem RCompare_any (s t : ByteArray) (w : World) :
    Calls Tryz.prog 20 #[.string s, .string t] w fun e w' => e = .returned (.int .i64 (cmpT s.data.toList t.data.toList)) ∧ Below w.heap.size w w' := by
  have HT : Hid (cmpT s.data.toList t.data.toList = match toksL s.data.toList, toksL t.data.toList with
    | .ok x, .ok y => ordL x y
    | .ok _, .error _ => 1
    | .error _, .ok _ => -1
    | .error _, .error _ => Lib.compareBytes s.data.toList t.data.toList) := rfl
  generalize cmpT s.data.toList t.data.toList = C at *
  have TS := hide (fun w => Rtokens_any s w)
  have TT := hide (fun w => Rtokens_any t w)
  have T1 := hide (fun w => Rtruth_any true w)
  have T0 := hide (fun w => Rtruth_any false w)
  cases hs : toksL s.data.toList with
  | error x =>
    have hx0 : (x.1 != 0) = true := by simpa using toks_errs hs
    have hx1 : (x.1 == 0) = false := by simpa using toks_errs hs
    have TS : ∀ w, Calls Tryz.prog 40 #[.string s] w fun r w' => r = .returned (.tuple #[.slice none 0 0, .int .i64 x.1, .int .i64 (x.2 : Int)]) ∧ Below w.heap.size w w' := fun w => (TS.out w).mono fun e w' h => by
      rcases h with ⟨y, h1, h2⟩ | ⟨ts, ao, cv, h1, _⟩
      · rw [hs] at h1; cases h1; exact h2
      · rw [hs] at h1; cases h1
    have TS := hide TS
    cases ht : toksL t.data.toList with
    | error y =>
      have hy0 : (y.1 != 0) = true := by simpa using toks_errs ht
      have TT : ∀ w, Calls Tryz.prog 40 #[.string t] w fun r w' => r = .returned (.tuple #[.slice none 0 0, .int .i64 y.1, .int .i64 (y.2 : Int)]) ∧ Below w.heap.size w w' := fun w => (TT.out w).mono fun e w' h => by
        rcases h with ⟨z, h1, h2⟩ | ⟨ts, ao, cv, h1, _⟩
        · rw [ht] at h1; cases h1; exact h2
        · rw [ht] at h1; cases h1
      have TT := hide TT
      rw [hs, ht] at HT
      have HBT := hide (cmp3 s.toList t.toList)
      rw [toL, toL] at HBT
      have HT9 : Hid (C = Lib.compareBytes s.data.toList t.data.toList) := HT
      clear HT
      generalize Lib.compareBytes s.data.toList t.data.toList = c2 at *
      rw [← toL, ← toL] at HBT
      clear hs ht
      rcases HBT.out with ⟨rfl, hbl⟩ | ⟨rfl, hbl, heq⟩ | ⟨rfl, hbl, heq⟩
      · go_enter Tryz.func20, Tryz.ntmps20
        go_wp2_with fail
        refine (TS.out _).mono ?_
        rintro e w1 ⟨rfl, b1⟩
        go_wp2_with fail
        refine (TT.out _).mono ?_
        rintro e w2 ⟨rfl, b2⟩
        have b12 := b1.trans (b2.mono b1.size)
        go_wp2_with fail
        refine (T0.out _).mono ?_
        rintro e w' ⟨rfl, hw'⟩
        rw [hw']; clear hw' w'
        go_wp2_with fail
        refine (T1.out _).mono ?_
        rintro e w' ⟨rfl, hw'⟩
        rw [hw']; clear hw' w'
        go_wp2_with fail
        go_ret
        exact ⟨ret_i HT9.out.symm, b12⟩
      · go_enter Tryz.func20, Tryz.ntmps20
        go_wp2_with fail
        refine (TS.out _).mono ?_
        rintro e w1 ⟨rfl, b1⟩
        go_wp2_with fail
        refine (TT.out _).mono ?_
        rintro e w2 ⟨rfl, b2⟩
        have b12 := b1.trans (b2.mono b1.size)
        go_wp2_with fail
        refine (T0.out _).mono ?_
        rintro e w' ⟨rfl, hw'⟩
        rw [hw']; clear hw' w'
        go_wp2_with fail
        refine (T0.out _).mono ?_
        rintro e w' ⟨rfl, hw'⟩
        rw [hw']; clear hw' w'
        go_wp2_with fail
        go_ret
        exact ⟨ret_i HT9.out.symm, b12⟩
      · go_enter Tryz.func20, Tryz.ntmps20
        go_wp2_with fail
        refine (TS.out _).mono ?_
        rintro e w1 ⟨rfl, b1⟩
        go_wp2_with fail
        refine (TT.out _).mono ?_
        rintro e w2 ⟨rfl, b2⟩
        have b12 := b1.trans (b2.mono b1.size)
        go_wp2_with fail
        refine (T1.out _).mono ?_
        rintro e w' ⟨rfl, hw'⟩
        rw [hw']; clear hw' w'
        go_wp2_with fail
        refine (T0.out _).mono ?_
        rintro e w' ⟨rfl, hw'⟩
        rw [hw']; clear hw' w'
        go_wp2_with fail
        go_ret
        exact ⟨ret_i HT9.out.symm, b12⟩
    | ok ys =>
      have HT9 : Hid (C = -1) := by rw [hs, ht] at HT; exact HT
      clear HT hs
      go_enter Tryz.func20, Tryz.ntmps20
      go_wp2_with fail
      refine (TS.out _).mono ?_
      rintro e w1 ⟨rfl, b1⟩
      go_wp2_with fail
      refine (TT.out _).mono ?_
      rintro e w2 (⟨z, h1, _⟩ | ⟨ts, ao, cv, h1, rfl, _, b2⟩)
      · rw [ht] at h1; cases h1
      have b12 := b1.trans (b2.mono b1.size)
      go_wp2_with fail
      refine (T0.out _).mono ?_
      rintro e w' ⟨rfl, hw'⟩
      rw [hw']; clear hw' w'
      go_wp2_with fail
      refine (T1.out _).mono ?_
      rintro e w' ⟨rfl, hw'⟩
      rw [hw']; clear hw' w'
      go_wp2_with fail
      go_ret
      exact ⟨ret_i HT9.out.symm, b12⟩
  | ok xs =>
    cases ht : toksL t.data.toList with
    | error y =>
      have hy0 : (y.1 != 0) = true := by simpa using toks_errs ht
      have hy1 : (y.1 == 0) = false := by simpa using toks_errs ht
      have TT : ∀ w, Calls Tryz.prog 40 #[.string t] w fun r w' => r = .returned (.tuple #[.slice none 0 0, .int .i64 y.1, .int .i64 (y.2 : Int)]) ∧ Below w.heap.size w w' := fun w => (TT.out w).mono fun e w' h => by
        rcases h with ⟨z, h1, h2⟩ | ⟨ts, ao, cv, h1, _⟩
        · rw [ht] at h1; cases h1; exact h2
        · rw [ht] at h1; cases h1
      have TT := hide TT
      have HT9 : Hid (C = 1) := by rw [hs, ht] at HT; exact HT
      clear HT ht
      go_enter Tryz.func20, Tryz.ntmps20
      go_wp2_with fail
      refine (TS.out _).mono ?_
      rintro e w1 (⟨z, h1, _⟩ | ⟨ts, ao, cv, h1, rfl, _, b1⟩)
      · rw [hs] at h1; cases h1
      go_wp2_with fail
      refine (TT.out _).mono ?_
      rintro e w2 ⟨rfl, b2⟩
      have b12 := b1.trans (b2.mono b1.size)
      go_wp2_with fail
      refine (T1.out _).mono ?_
      rintro e w' ⟨rfl, hw'⟩
      rw [hw']; clear hw' w'
      go_wp2_with fail
      refine (T0.out _).mono ?_
      rintro e w' ⟨rfl, hw'⟩
      rw [hw']; clear hw' w'
      go_wp2_with fail
      go_ret
      exact ⟨ret_i HT9.out.symm, b12⟩
    | ok ys =>
      have HT9 : Hid (C = ordF xs ys) := by
        rw [hs, ht] at HT
        show _ = _
        unfold ordF
        rw [toks_fitB hs, toks_fitB ht]
        exact HT.out
      clear HT
      obtain ⟨sx, mx⟩ := toks_short hs
      obtain ⟨sy, my⟩ := toks_short ht
      have HMX := hide mx
      have HMY := hide my
      clear mx my
      go_enter Tryz.func20, Tryz.ntmps20
      go_wp2_with fail
      refine (TS.out _).mono ?_
      rintro e w1 (⟨z, h1, _⟩ | ⟨ts1, ao1, cv1, h1, rfl, K1, b1⟩)
      · rw [hs] at h1; cases h1
      rw [hs] at h1
      cases h1
      go_wp2_with fail
      refine (TT.out _).mono ?_
      rintro e w2 (⟨z, h1, _⟩ | ⟨ts2, ao2, cv2, h1, rfl, K2, b2⟩)
      · rw [ht] at h1; cases h1
      rw [ht] at h1
      cases h1
      have b12 := b1.trans (b2.mono b1.size)
      have RO := hide (ROrder_any ao1 ao2 _ _ cv1 cv2 xs ys w2 (K1.below b2) K2 (by omega) (by omega) (fun t h => by have := HMX.out t h; omega) (fun t h => by have := HMY.out t h; omega))
      clear K1 K2 hs ht
      go_wp2_with fail
      refine RO.out.mono ?_
      rintro e w3 ⟨rfl, b3⟩
      go_wp2_with fail
      go_ret
      exact ⟨ret_i HT9.out.symm, b12.trans (b3.mono b12.size)⟩

end Go.Proofs.YtpedljmpobhimaaGreatDoor
