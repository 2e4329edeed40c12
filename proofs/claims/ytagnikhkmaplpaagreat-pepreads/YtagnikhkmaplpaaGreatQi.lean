/-
  Plain laws: the text of a fit version is read back; no program is named here.
-/
import Derived.Test.YtagnikhkmaplpaaGreatQh
namespace Go.Proofs.YtagnikhkmaplpaaGreat
set_option linter.unusedVariables false

/-- The parts of a version's text behind the release. -/
def preW (c : Int) : List UInt8 := if c = 114 then [114, 99] else if c = 98 then [98] else [97]
def preT (x : PepL) : List UInt8 := if x.c = 0 then [] else preW x.c ++ x.n
def postT (x : PepL) : List UInt8 := if x.b then [46, 112, 111, 115, 116] ++ x.m else []
def devT (x : PepL) : List UInt8 := if x.d then [46, 100, 101, 118] ++ x.k else []
def locT (x : PepL) : List UInt8 := if x.loc = [] then [] else 43 :: joinL x.loc
def tailT (x : PepL) : List UInt8 := preT x ++ (postT x ++ (devT x ++ locT x))
/-- A version's text. -/
def textP (x : PepL) : List UInt8 := baseL x.ep x.rel ++ tailT x

/-- What may stand behind a dev release, a post-release, a pre-release. -/
def RL (R : List UInt8) : Prop := R = [] ∨ ∃ r, R = 43 :: r
def RD (R : List UInt8) : Prop := RL R ∨ ∃ r, R = 46 :: 100 :: 101 :: 118 :: r
def RP (R : List UInt8) : Prop := RD R ∨ ∃ r, R = 46 :: 112 :: 111 :: 115 :: 116 :: r
theorem rp_run {R : List UInt8} (h : RP R) : runL 1 R = 0 := by
  rcases h with ((rfl | ⟨r, rfl⟩) | ⟨r, rfl⟩) | ⟨r, rfl⟩ <;> rfl
theorem miss_pre {R : List UInt8} (h : RP R) : wordL R 0 preWs = none := by
  rcases h with ((rfl | ⟨r, rfl⟩) | ⟨r, rfl⟩) | ⟨r, rfl⟩ <;> rfl
theorem miss_post {R : List UInt8} (h : RD R) : wordL R 0 postWs = none ∧ dashB R 0 = false := by
  rcases h with (rfl | ⟨r, rfl⟩) | ⟨r, rfl⟩ <;> exact ⟨rfl, rfl⟩
theorem miss_dev {R : List UInt8} (h : RL R) : wordL R 0 devWs = none := by
  rcases h with rfl | ⟨r, rfl⟩ <;> rfl
theorem st_miss {R : List UInt8} {ws : List (List UInt8)} (h : wordL R 0 ws = none) : stN R 0 ws = [] ∧ stP R 0 ws = 0 := by
  unfold stN stP
  rw [h]
  exact ⟨rfl, rfl⟩

theorem dig_mark {c : UInt8} (h : isC (c.toNat : Int) 1 = true) : isMark c = false := by
  unfold isMark
  have h1 : c ≠ 45 := by rintro rfl; cases h
  have h2 : c ≠ 95 := by rintro rfl; cases h
  have h3 : c ≠ 46 := by rintro rfl; cases h
  simp [h1, h2, h3]
theorem hit_num (X n R : List UInt8) (hn : trimB n = true) (hR : runL 1 R = 0) : digT (X ++ (n ++ R)) X.length = n ∧ digP (X ++ (n ++ R)) X.length = X.length + n.length := by
  obtain ⟨n1, n2, _, _⟩ := trim_of hn
  have hm : markL (n ++ R) 0 = 0 := by
    obtain ⟨c, r, rfl⟩ : ∃ c r, n = c :: r := List.exists_cons_of_ne_nil n1
    have := dig_mark (run_mem _ n2 c List.mem_cons_self)
    unfold markL
    simp [this]
  have hE : digE (n ++ R) 0 = n.length := by
    unfold digE
    rw [hm, List.drop_zero, run_all_app n R n2 hR]
    omega
  have hT : digT (n ++ R) 0 = n := by
    unfold digT
    rw [hm, hE]
    unfold seg
    simp
  have hP : digP (n ++ R) 0 = n.length := by
    unfold digP
    rw [hm, hE, if_pos (List.length_pos_iff.2 n1)]
  have a1 := digT_sh X (n ++ R) 0
  have a2 := digP_sh X (n ++ R) 0
  rw [Nat.add_zero] at a1 a2
  rw [a1, a2, hT, hP]
  exact ⟨rfl, rfl⟩
theorem st_hit (lead w n R : List UInt8) (ws : List (List UInt8)) (hm : markL (lead ++ (w ++ (n ++ R))) 0 = lead.length) (hw : wordL (lead ++ (w ++ (n ++ R))) 0 ws = some w) (hn : trimB n = true) (hR : runL 1 R = 0) :
    stN (lead ++ (w ++ (n ++ R))) 0 ws = n ∧ stP (lead ++ (w ++ (n ++ R))) 0 ws = (lead ++ (w ++ n)).length := by
  unfold stN stP
  rw [hw, hm]
  dsimp only
  have e : lead ++ (w ++ (n ++ R)) = (lead ++ w) ++ (n ++ R) := by simp
  have l : lead.length + w.length = (lead ++ w).length := by simp
  rw [e, l]
  obtain ⟨h1, h2⟩ := hit_num (lead ++ w) n R hn hR
  rw [h1, h2, (trim_of hn).2.2.1]
  exact ⟨rfl, by simp; omega⟩

theorem num_true {n : List UInt8} {b : Bool} (h : numB n b = true) (hb : b = true) : trimB n = true := by
  subst hb
  exact h
theorem num_false {n : List UInt8} {b : Bool} (h : numB n b = true) (hb : b = false) : n = [] := by
  subst hb
  simpa [numB] using h
theorem pre_at (x : PepL) (hf : FitT x) (R : List UInt8) (hR : RP R) : preC (preT x ++ R) 0 = x.c ∧ stN (preT x ++ R) 0 preWs = x.n ∧ stP (preT x ++ R) 0 preWs = (preT x).length := by
  have f5 := hf.f5
  unfold preT preW
  rcases hf.f4 with hc | hc | hc | hc
  · rw [hc] at f5 ⊢
    have hn : x.n = [] := num_false f5 rfl
    rw [if_pos rfl, List.nil_append, hn]
    have hm := miss_pre hR
    obtain ⟨s1, s2⟩ := st_miss hm
    refine ⟨?_, s1, s2⟩
    unfold preC
    rw [hm]
  · rw [hc] at f5 ⊢
    have hn : trimB x.n = true := num_true f5 rfl
    rw [if_neg (by decide), if_neg (by decide), if_neg (by decide)]
    obtain ⟨n1, n2, _, _⟩ := trim_of hn
    obtain ⟨c, r, hcr⟩ : ∃ c r, x.n = c :: r := List.exists_cons_of_ne_nil n1
    have hd := run_mem _ n2 c (by rw [hcr]; exact List.mem_cons_self)
    have h8 : ¬ (108 : UInt8) = c := by rintro rfl; cases hd
    have hw : wordL ([97] ++ x.n ++ R) 0 preWs = some [97] := by
      rw [hcr]
      simp [wordL, markL, isMark, preWs, pfxB, List.isPrefixOf, h8]
    obtain ⟨s1, s2⟩ := st_hit [] [97] x.n R preWs rfl (by simpa using hw) hn (rp_run hR)
    refine ⟨?_, by simpa using s1, by simpa using s2⟩
    unfold preC
    rw [hw]
    rfl
  · rw [hc] at f5 ⊢
    have hn : trimB x.n = true := num_true f5 rfl
    rw [if_neg (by decide), if_neg (by decide), if_pos rfl]
    obtain ⟨n1, n2, _, _⟩ := trim_of hn
    obtain ⟨c, r, hcr⟩ : ∃ c r, x.n = c :: r := List.exists_cons_of_ne_nil n1
    have hd := run_mem _ n2 c (by rw [hcr]; exact List.mem_cons_self)
    have h8 : ¬ (101 : UInt8) = c := by rintro rfl; cases hd
    have hw : wordL ([98] ++ x.n ++ R) 0 preWs = some [98] := by
      rw [hcr]
      simp [wordL, markL, isMark, preWs, pfxB, List.isPrefixOf, h8]
    obtain ⟨s1, s2⟩ := st_hit [] [98] x.n R preWs rfl (by simpa using hw) hn (rp_run hR)
    refine ⟨?_, by simpa using s1, by simpa using s2⟩
    unfold preC
    rw [hw]
    rfl
  · rw [hc] at f5 ⊢
    have hn : trimB x.n = true := num_true f5 rfl
    rw [if_neg (by decide), if_pos rfl]
    have hw : wordL ([114, 99] ++ x.n ++ R) 0 preWs = some [114, 99] := by
      simp [wordL, markL, isMark, preWs, pfxB, List.isPrefixOf]
    obtain ⟨s1, s2⟩ := st_hit [] [114, 99] x.n R preWs rfl (by simpa using hw) hn (rp_run hR)
    refine ⟨?_, by simpa using s1, by simpa using s2⟩
    unfold preC
    rw [hw]
    rfl
theorem post_at (x : PepL) (hf : FitT x) (R : List UInt8) (hR : RD R) : posB (postT x ++ R) 0 = x.b ∧ posN (postT x ++ R) 0 = x.m ∧ posP (postT x ++ R) 0 = (postT x).length := by
  have f6 := hf.f6
  unfold postT posB posN posP
  cases hb : x.b
  · rw [hb] at f6
    have hn : x.m = [] := num_false f6 rfl
    obtain ⟨m1, m2⟩ := miss_post hR
    obtain ⟨s1, s2⟩ := st_miss m1
    rw [show (if false = true then [46, 112, 111, 115, 116] ++ x.m else []) = [] from rfl, List.nil_append, m2, m1, s1, s2, hn]
    exact ⟨rfl, rfl, rfl⟩
  · rw [hb] at f6
    have hn : trimB x.m = true := num_true f6 rfl
    rw [if_pos rfl]
    have hw : wordL ([46] ++ ([112, 111, 115, 116] ++ (x.m ++ R))) 0 postWs = some [112, 111, 115, 116] := by
      simp [wordL, markL, isMark, postWs, pfxB, List.isPrefixOf]
    have hd : dashB ([46] ++ ([112, 111, 115, 116] ++ (x.m ++ R))) 0 = false := by
      unfold dashB pfxB
      rfl
    obtain ⟨s1, s2⟩ := st_hit [46] [112, 111, 115, 116] x.m R postWs rfl hw hn (rp_run (.inl hR))
    have e : [46, 112, 111, 115, 116] ++ x.m ++ R = [46] ++ ([112, 111, 115, 116] ++ (x.m ++ R)) := by simp
    rw [e, hd, hw, s1, s2]
    exact ⟨rfl, rfl, by simp⟩
theorem dev_at (x : PepL) (hf : FitT x) (R : List UInt8) (hR : RL R) : (wordL (devT x ++ R) 0 devWs).isSome = x.d ∧ stN (devT x ++ R) 0 devWs = x.k ∧ stP (devT x ++ R) 0 devWs = (devT x).length := by
  have f7 := hf.f7
  unfold devT
  cases hb : x.d
  · rw [hb] at f7
    have hn : x.k = [] := num_false f7 rfl
    have m1 := miss_dev hR
    obtain ⟨s1, s2⟩ := st_miss m1
    rw [if_neg (by simp), List.nil_append, m1, s1, s2, hn]
    exact ⟨rfl, rfl, rfl⟩
  · rw [hb] at f7
    have hn : trimB x.k = true := num_true f7 rfl
    rw [if_pos rfl]
    have hw : wordL ([46] ++ ([100, 101, 118] ++ (x.k ++ R))) 0 devWs = some [100, 101, 118] := by
      simp [wordL, markL, isMark, devWs, pfxB, List.isPrefixOf]
    obtain ⟨s1, s2⟩ := st_hit [46] [100, 101, 118] x.k R devWs rfl hw hn (rp_run (.inl (.inl hR)))
    have e : [46, 100, 101, 118] ++ x.k ++ R = [46] ++ ([100, 101, 118] ++ (x.k ++ R)) := by simp
    rw [e, hw, s1, s2]
    exact ⟨rfl, rfl, by simp⟩

theorem run5_app : ∀ (t r : List UInt8), runL 5 t = t.length → runL 5 r = 0 → runL 5 (t ++ r) = t.length
  | [], r, _, h => h
  | c :: t, r, h1, h2 => by
    have hc : isC (c.toNat : Int) 5 = true := mem_of_run 5 _ h1 c List.mem_cons_self
    rw [runL, if_pos hc] at h1
    rw [List.cons_append, runL, if_pos hc, run5_app t r (by simpa using h1) h2]; rfl
theorem loc_of {t : List UInt8} (h : locB t = true) : t ≠ [] ∧ runL 5 t = t.length ∧ lowL t = t ∧ plainL t = t := by
  unfold locB at h
  simp only [Bool.and_eq_true, beq_iff_eq, Bool.not_eq_true', List.isEmpty_eq_false_iff] at h
  exact ⟨h.1.1.1, h.1.1.2, h.1.2, h.2⟩
theorem loc_runs : ∀ (ts : List (List UInt8)) (t X : List UInt8), (∀ x ∈ t :: ts, locB x = true) →
    ∃ xs, runsL (X ++ joinL (t :: ts)) 5 [45, 95, 46] X.length = xs ∧ xs ≠ [] ∧ rowL (X ++ joinL (t :: ts)) xs = t :: ts ∧ lastE X.length xs = X.length + (joinL (t :: ts)).length := by
  intro ts
  induction ts with
  | nil =>
    intro t X h
    obtain ⟨h1, h2, h3, h4⟩ := loc_of (h t List.mem_cons_self)
    have ej : joinL [t] = t := by simp [joinL, dotted]
    rw [ej]
    refine ⟨[(X.length, X.length + t.length)], ?_, by simp, ?_, rfl⟩
    · rw [runsL]
      have d0 : (X ++ t).drop X.length = t := drop_sh X t 0
      rw [d0, h2, if_neg (by simpa using h1), dif_neg]
      rintro ⟨c, hc, _⟩
      rw [get_sh, List.getElem?_eq_none (Nat.le_refl _)] at hc
      cases hc
    · show [plainL (seg (X ++ t) X.length (X.length + t.length))] = [t]
      have : seg (X ++ t) (X.length + 0) (X.length + t.length) = seg t 0 t.length := seg_sh _ _ _ _
      rw [Nat.add_zero] at this
      rw [this]
      have : seg t 0 t.length = t := by unfold seg; simp
      rw [this, h4]
  | cons u ts ih =>
    intro t X h
    obtain ⟨h1, h2, h3, h4⟩ := loc_of (h t List.mem_cons_self)
    have eY : X ++ joinL (t :: u :: ts) = (X ++ t ++ [46]) ++ joinL (u :: ts) := by rw [joinL_cons]; simp
    obtain ⟨xs, hx, hne, hr, hl⟩ := ih u (X ++ t ++ [46]) (fun x hx => h x (List.mem_cons_of_mem _ hx))
    have lY : (X ++ t ++ [46]).length = X.length + t.length + 1 := by simp; omega
    refine ⟨(X.length, X.length + t.length) :: xs, ?_, by simp, ?_, ?_⟩
    · have d0 : (X ++ joinL (t :: u :: ts)).drop X.length = joinL (t :: u :: ts) := drop_sh X _ 0
      rw [runsL]
      rw [d0]
      have er : runL 5 (joinL (t :: u :: ts)) = t.length := by
        rw [joinL_cons]
        exact run5_app t _ h2 rfl
      rw [er, if_neg (by simpa using h1)]
      have g : (X ++ joinL (t :: u :: ts))[X.length + t.length]? = some 46 := by
        rw [get_sh, joinL_cons]
        exact get_sh t _ 0
      rw [dif_pos ⟨46, g, rfl⟩, eY, ← lY, hx]
    · rw [eY]
      show plainL (seg ((X ++ t ++ [46]) ++ joinL (u :: ts)) X.length (X.length + t.length)) :: rowL _ xs = _
      rw [hr, ← eY]
      have : seg (X ++ joinL (t :: u :: ts)) (X.length + 0) (X.length + t.length) = seg (joinL (t :: u :: ts)) 0 t.length := seg_sh _ _ _ _
      rw [Nat.add_zero] at this
      rw [this, joinL_cons]
      have : seg (t ++ 46 :: joinL (u :: ts)) 0 t.length = t := by unfold seg; simp
      rw [this, h4]
    · rw [lastE_more _ (X ++ t ++ [46]).length _ _ hne, hl, lY, joinL_cons]
      simp
      omega

theorem rl_loc (x : PepL) : RL (locT x) := by
  unfold locT
  split
  · exact .inl rfl
  · exact .inr ⟨_, rfl⟩
theorem rd_dev (x : PepL) : RD (devT x ++ locT x) := by
  unfold devT
  split
  · exact .inr ⟨x.k ++ locT x, by simp⟩
  · exact .inl (rl_loc x)
theorem rp_post (x : PepL) : RP (postT x ++ (devT x ++ locT x)) := by
  unfold postT
  split
  · exact .inr ⟨x.m ++ (devT x ++ locT x), by simp⟩
  · exact .inl (rd_dev x)

theorem tail_parts (x : PepL) (hf : FitT x) : tailP x.ep x.rel (tailT x) = x ∧ okT (tailT x) = true := by
  obtain ⟨p1, p2, p3⟩ := pre_at x hf _ (rp_post x)
  obtain ⟨o1, o2, o3⟩ := post_at x hf _ (rd_dev x)
  obtain ⟨d1, d2, d3⟩ := dev_at x hf _ (rl_loc x)
  have e0 : tailT x = preT x ++ (postT x ++ (devT x ++ locT x)) := rfl
  have e1 : tailT x = (preT x ++ postT x) ++ (devT x ++ locT x) := by rw [e0]; simp
  have e2 : tailT x = (preT x ++ postT x ++ devT x) ++ locT x := by rw [e0]; simp
  have h4 : q4 (tailT x) = (preT x).length + 0 := p3
  have h5 : q5 (tailT x) = (preT x ++ postT x).length + 0 := by
    unfold q5
    rw [h4, e0, posP_sh, o3]
    simp
  have h6 : q6 (tailT x) = (preT x ++ postT x ++ devT x).length + 0 := by
    unfold q6
    rw [h5, e1, stP_sh, d3]
    simp
    omega
  have h7 : q7 (tailT x) = (preT x ++ postT x ++ devT x).length + skipP (locT x) 0 [43] := by
    unfold q7
    rw [h6, e2, skip_sh]
  have hl : ql (tailT x) = pfxB (locT x) [43] := by
    unfold ql
    rw [h6, e2, drop_sh]
    rfl
  have b1 : posB (tailT x) (q4 (tailT x)) = x.b := by rw [h4, e0, posB_sh, o1]
  have b2 : posN (tailT x) (q4 (tailT x)) = x.m := by rw [h4, e0, posN_sh, o2]
  have b3 : (wordL (tailT x) (q5 (tailT x)) devWs).isSome = x.d := by rw [h5, e1, word_sh, d1]
  have b4 : stN (tailT x) (q5 (tailT x)) devWs = x.k := by rw [h5, e1, stN_sh, d2]
  have key : rowL (tailT x) (qlocs (tailT x)) = x.loc ∧ okT (tailT x) = true := by
    by_cases h0 : x.loc = []
    · have hL : locT x = [] := by unfold locT; rw [if_pos h0]
      rw [hL] at h7 hl
      have hl' : ql (tailT x) = false := hl
      have h7' : q7 (tailT x) = (preT x ++ postT x ++ devT x).length := h7
      constructor
      · unfold qlocs
        rw [hl', h0]
        rfl
      · unfold okT
        rw [hl', if_neg (by simp), h7', e2, hL]
        simp
    · obtain ⟨t, ts, hts⟩ : ∃ t ts, x.loc = t :: ts := List.exists_cons_of_ne_nil h0
      have hL : locT x = 43 :: joinL x.loc := by unfold locT; rw [if_neg h0]
      rw [hL] at h7 hl
      have hl' : ql (tailT x) = true := hl
      have e3 : tailT x = (preT x ++ postT x ++ devT x ++ [43]) ++ joinL (t :: ts) := by rw [e2, hL, hts]; simp
      have h7' : q7 (tailT x) = (preT x ++ postT x ++ devT x ++ [43]).length := by rw [h7]; simp [skipP, pfxB, List.isPrefixOf]; omega
      obtain ⟨xs, hx, hne, hr, hla⟩ := loc_runs ts t (preT x ++ postT x ++ devT x ++ [43]) (by rw [← hts]; exact List.all_eq_true.1 hf.f8)
      have hq : qloc (tailT x) = xs := by unfold qloc; rw [h7', e3]; exact hx
      have h8 : q8 (tailT x) = (tailT x).length := by
        unfold q8
        rw [hq, h7', hla, e3]
        simp only [List.length_append]
      constructor
      · unfold qlocs
        rw [if_pos hl', hq, e3, hr, hts]
      · unfold okT
        rw [if_pos hl', hq, h8]
        simp [hne]
  refine ⟨?_, key.2⟩
  unfold tailP
  rw [b1, b2, b3, b4, key.1, show preC (tailT x) 0 = x.c from p1, show stN (tailT x) 0 preWs = x.n from p2]

/-- A byte that stays, and is no "!". -/
def calm (c : UInt8) : Prop := lowC c = c ∧ c ≠ 33
theorem calm_num {n : List UInt8} (h : trimB n = true) : ∀ c ∈ n, calm c := fun c hc => by
  have := run_mem _ (trim_of h).2.1 c hc
  exact ⟨dig_low this, dig_not33 this⟩
theorem calm_tail (x : PepL) (hf : FitT x) : ∀ c ∈ tailT x, calm c := by
  intro c hc
  unfold tailT at hc
  rcases List.mem_append.1 hc with hc | hc
  · unfold preT at hc
    split at hc
    · cases hc
    · rename_i h0
      rcases List.mem_append.1 hc with hc | hc
      · unfold preW at hc
        split at hc
        · have : c = 114 ∨ c = 99 := by simpa using hc
          rcases this with rfl | rfl <;> exact ⟨rfl, by decide⟩
        · split at hc
          · obtain rfl : c = 98 := by simpa using hc
            exact ⟨rfl, by decide⟩
          · obtain rfl : c = 97 := by simpa using hc
            exact ⟨rfl, by decide⟩
      · exact calm_num (num_true hf.f5 (by simpa using h0)) c hc
  · rcases List.mem_append.1 hc with hc | hc
    · unfold postT at hc
      split at hc
      · rename_i h0
        rcases List.mem_append.1 hc with hc | hc
        · have : c = 46 ∨ c = 112 ∨ c = 111 ∨ c = 115 ∨ c = 116 := by simpa using hc
          rcases this with rfl | rfl | rfl | rfl | rfl <;> exact ⟨rfl, by decide⟩
        · exact calm_num (num_true hf.f6 h0) c hc
      · cases hc
    · rcases List.mem_append.1 hc with hc | hc
      · unfold devT at hc
        split at hc
        · rename_i h0
          rcases List.mem_append.1 hc with hc | hc
          · have : c = 46 ∨ c = 100 ∨ c = 101 ∨ c = 118 := by simpa using hc
            rcases this with rfl | rfl | rfl | rfl <;> exact ⟨rfl, by decide⟩
          · exact calm_num (num_true hf.f7 h0) c hc
        · cases hc
      · unfold locT at hc
        split at hc
        · cases hc
        · rcases List.mem_cons.1 hc with rfl | hc
          · exact ⟨rfl, by decide⟩
          · rcases join_mem hc with rfl | ⟨t, ht, hc⟩
            · exact ⟨rfl, by decide⟩
            · obtain ⟨_, l2, l3, _⟩ := loc_of (List.all_eq_true.1 hf.f8 t ht)
              have h5 := mem_of_run 5 t l2 c hc
              refine ⟨?_, by rintro rfl; cases h5⟩
              unfold lowL at l3
              obtain ⟨i, hi, rfl⟩ := List.getElem_of_mem hc
              have := congrArg (fun l : List UInt8 => l[i]?) l3
              simpa [hi] using this
theorem tail_tail (x : PepL) (hf : FitT x) : tailB (tailT x) = true := by
  have hc := calm_tail x hf
  have hlow : lowL (tailT x) = tailT x := by
    unfold lowL
    rw [List.map_congr_left (g := id), List.map_id]
    exact fun c h => (hc c h).1
  have hrp := rp_post x
  have hhead : runL 1 (tailT x) = 0 ∧ ((tailT x).head? ≠ some 46 ∨ runL 1 (tailT x).tail = 0) := by
    unfold tailT preT preW
    split
    · rw [List.nil_append]
      refine ⟨rp_run hrp, ?_⟩
      rcases hrp with ((h | ⟨r, h⟩) | ⟨r, h⟩) | ⟨r, h⟩ <;> rw [h]
      · exact .inr rfl
      · exact .inl (by simp)
      · exact .inr rfl
      · exact .inr rfl
    · split
      · exact ⟨rfl, .inl (by simp)⟩
      · split
        · exact ⟨rfl, .inl (by simp)⟩
        · exact ⟨rfl, .inl (by simp)⟩
  unfold tailB
  simp only [Bool.and_eq_true, beq_iff_eq, Bool.or_eq_true, bne_iff_ne, List.all_eq_true]
  exact ⟨⟨⟨⟨hhead.1, hhead.2⟩, hlow⟩, fun c h => (hc c h).2⟩, (tail_parts x hf).2⟩

/-- The text of a fit version is read back. -/
theorem text_back (x : PepL) (hf : FitT x) (hl : (textP x).length ≤ 64) : okP (textP x) = true ∧ pepOf (lowL (textP x)) = x := by
  obtain ⟨h1, h2⟩ := base_pep ⟨hf.f1, hf.f2, List.all_eq_true.1 hf.f3⟩ (tailT x) (tail_tail x hf) hl
  exact ⟨h1, h2.trans (tail_parts x hf).1⟩

end Go.Proofs.YtagnikhkmaplpaaGreat
