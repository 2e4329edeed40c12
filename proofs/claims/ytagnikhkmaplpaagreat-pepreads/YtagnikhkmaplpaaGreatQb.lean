/-
  Plain laws: behind a version of releases alone dev releases stand ahead of alphas, these of betas, candidates, the release, and that of post-releases; no program is named here.
-/
import Derived.Test.YtagnikhkmaplpaaGreatQa
import Derived.KernelRfl
namespace Go.Proofs.YtagnikhkmaplpaaGreat
set_option linter.unusedVariables false

/-- The text of a version of releases alone. -/
def baseL (ep : List UInt8) (rel : List (List UInt8)) : List UInt8 := (if ep = [48] then [] else ep ++ [33]) ++ joinL rel
/-- Behind the release: places, and what is read. -/
def q4 (e : List UInt8) : Nat := stP e 0 preWs
def q5 (e : List UInt8) : Nat := posP e (q4 e)
def q6 (e : List UInt8) : Nat := stP e (q5 e) devWs
def q7 (e : List UInt8) : Nat := skipP e (q6 e) [43]
def ql (e : List UInt8) : Bool := pfxB (e.drop (q6 e)) [43]
def qloc (e : List UInt8) : List (Nat × Nat) := runsL e 5 [45, 95, 46] (q7 e)
def q8 (e : List UInt8) : Nat := lastE (q7 e) (qloc e)
def qlocs (e : List UInt8) : List (Nat × Nat) := if ql e then qloc e else []
def tailP (ep : List UInt8) (rel : List (List UInt8)) (e : List UInt8) : PepL := ⟨ep, rel, preC e 0, stN e 0 preWs, posB e (q4 e), posN e (q4 e), (wordL e (q5 e) devWs).isSome, stN e (q5 e) devWs, rowL e (qlocs e)⟩
def okT (e : List UInt8) : Bool := if ql e then decide ((qloc e).length ≠ 0) && decide (¬ q8 e < e.length) else decide (¬ q7 e < e.length)
/-- What may stand behind a release, and is read. -/
def tailB (e : List UInt8) : Bool := (runL 1 e == 0) && ((e.head? != some 46) || (runL 1 e.tail == 0)) && (lowL e == e) && e.all (fun c => c != 33) && okT e
theorem tail_of {e : List UInt8} (h : tailB e = true) : Tail e ∧ lowL e = e ∧ (∀ c ∈ e, c ≠ 33) ∧ okT e = true := by
  unfold tailB at h
  simp only [Bool.and_eq_true, beq_iff_eq, Bool.or_eq_true, bne_iff_ne, List.all_eq_true] at h
  obtain ⟨⟨⟨⟨h1, h2⟩, h3⟩, h4⟩, h5⟩ := h
  refine ⟨⟨h1, ?_⟩, h3, h4, h5⟩
  rintro r rfl
  rcases h2 with h2 | h2
  · exact absurd rfl h2
  · exact h2

theorem run_mem : ∀ t : List UInt8, runL 1 t = t.length → ∀ c ∈ t, isC (c.toNat : Int) 1 = true
  | [], _, c, h => by cases h
  | d :: t, h, c, hc => by
    have hd : isC (d.toNat : Int) 1 = true := by
      cases hh : isC (d.toNat : Int) 1
      · rw [runL, hh] at h; simp at h
      · rfl
    rw [runL, if_pos hd] at h
    rcases List.mem_cons.1 hc with rfl | hc
    · exact hd
    · exact run_mem t (by simpa using h) c hc
theorem dig_not33 {c : UInt8} (h : isC (c.toNat : Int) 1 = true) : c ≠ 33 := by rintro rfl; cases h
theorem dig_not118 {c : UInt8} (h : isC (c.toNat : Int) 1 = true) : c ≠ 118 := by rintro rfl; cases h
theorem dig_low {c : UInt8} (h : isC (c.toNat : Int) 1 = true) : lowC c = c := by
  unfold lowC
  rw [if_neg]
  intro h3
  simp only [isC] at h h3
  simp at h h3
  omega
theorem join_mem {c : UInt8} {rel : List (List UInt8)} (h : c ∈ joinL rel) : c = 46 ∨ ∃ t ∈ rel, c ∈ t := by
  cases rel with
  | nil => cases h
  | cons t r =>
    rcases List.mem_append.1 h with h | h
    · exact .inr ⟨t, List.mem_cons_self, h⟩
    · obtain ⟨u, hu, hc⟩ := List.mem_flatMap.1 h
      rcases List.mem_cons.1 hc with rfl | hc
      · exact .inl rfl
      · exact .inr ⟨u, List.mem_cons_of_mem _ hu, hc⟩
theorem index_none : ∀ l : List UInt8, (∀ c ∈ l, c ≠ 33) → Lib.indexByte l 33 = -1
  | [], _ => rfl
  | c :: r, h => by
    unfold Lib.indexByte
    rw [if_neg (by simpa using h c List.mem_cons_self), index_none r (fun c hc => h c (List.mem_cons_of_mem _ hc))]
    rfl
theorem cut_at : ∀ (t r : List UInt8), (∀ c ∈ t, c ≠ 33) → cutB (t ++ 33 :: r) = t
  | [], r, _ => rfl
  | c :: t, r, h => by
    have := cut_at t r (fun c hc => h c (List.mem_cons_of_mem _ hc))
    unfold cutB at *
    rw [List.cons_append, List.takeWhile_cons, if_pos (by simpa using h c List.mem_cons_self), this]
theorem has_at (t r : List UInt8) : hasB (t ++ 33 :: r) = true := by
  unfold hasB
  rw [decide_eq_true_eq]
  intro h
  have h1 := cutB_none _ h
  have h2 : (33 : UInt8) ∈ cutB (t ++ 33 :: r) := by rw [h1]; simp
  unfold cutB at h2
  have := List.all_eq_true.1 List.all_takeWhile 33 h2
  simp at this

/-- A version of releases alone. -/
structure RelL (ep : List UInt8) (rel : List (List UInt8)) : Prop where
  ep : trimB ep = true
  ne : rel ≠ []
  rel : ∀ t ∈ rel, trimB t = true

theorem base_digit {ep : List UInt8} {rel : List (List UInt8)} (h : RelL ep rel) : ∃ c r, baseL ep rel = c :: r ∧ isC (c.toNat : Int) 1 = true := by
  unfold baseL
  by_cases he : ep = [48]
  · rw [if_pos he]
    obtain ⟨t, ts, rfl⟩ : ∃ t ts, rel = t :: ts := List.exists_cons_of_ne_nil h.ne
    obtain ⟨h1, h2, _, _⟩ := trim_of (h.rel t List.mem_cons_self)
    obtain ⟨c, r, rfl⟩ : ∃ c r, t = c :: r := List.exists_cons_of_ne_nil h1
    exact ⟨c, _, rfl, run_mem _ h2 c List.mem_cons_self⟩
  · rw [if_neg he]
    obtain ⟨h1, h2, _, _⟩ := trim_of h.ep
    obtain ⟨c, r, rfl⟩ : ∃ c r, ep = c :: r := List.exists_cons_of_ne_nil h1
    exact ⟨c, _, rfl, run_mem _ h2 c List.mem_cons_self⟩
theorem base_mem {ep : List UInt8} {rel : List (List UInt8)} (h : RelL ep rel) : ∀ c ∈ baseL ep rel, c = 46 ∨ c = 33 ∨ isC (c.toNat : Int) 1 = true := by
  intro c hc
  unfold baseL at hc
  rcases List.mem_append.1 hc with hc | hc
  · split at hc
    · cases hc
    · rcases List.mem_append.1 hc with hc | hc
      · exact .inr (.inr (run_mem _ (trim_of h.ep).2.1 c hc))
      · exact .inr (.inl (by simpa using hc))
  · rcases join_mem hc with rfl | ⟨t, ht, hc⟩
    · exact .inl rfl
    · exact .inr (.inr (run_mem _ (trim_of (h.rel t ht)).2.1 c hc))
theorem base_low {ep : List UInt8} {rel : List (List UInt8)} (h : RelL ep rel) (e : List UInt8) (he : lowL e = e) : lowL (baseL ep rel ++ e) = baseL ep rel ++ e := by
  unfold lowL at *
  rw [List.map_append, he]
  congr 1
  rw [List.map_congr_left (g := id), List.map_id]
  intro c hc
  rcases base_mem h c hc with rfl | rfl | hc
  · rfl
  · rfl
  · exact dig_low hc

theorem base_at {ep : List UInt8} {rel : List (List UInt8)} (h : RelL ep rel) (e : List UInt8) (he : Tail e) (hn : ∀ c ∈ e, c ≠ 33) :
    vp1 (baseL ep rel ++ e) = 0 ∧ epoT (baseL ep rel ++ e) 0 = ep ∧ rowL (baseL ep rel ++ e) (vrel (baseL ep rel ++ e)) = rel ∧ vrel (baseL ep rel ++ e) ≠ [] ∧ vp3 (baseL ep rel ++ e) = (baseL ep rel).length := by
  have h1 : vp1 (baseL ep rel ++ e) = 0 := by
    obtain ⟨c, r, hb, hd⟩ := base_digit h
    unfold vp1 skipP pfxB
    rw [hb, if_neg]
    have := dig_not118 hd
    simp [List.isPrefixOf]
    exact fun h => this h.symm
  obtain ⟨t, ts, rfl⟩ : ∃ t ts, rel = t :: ts := List.exists_cons_of_ne_nil h.ne
  refine ⟨h1, ?_⟩
  unfold vp3 vrel vp2
  rw [h1]
  by_cases hz : ep = [48]
  · subst hz
    have hb : baseL [48] (t :: ts) = joinL (t :: ts) := by unfold baseL; rw [if_pos rfl]; rfl
    have no : ∀ c ∈ joinL (t :: ts) ++ e, c ≠ 33 := by
      intro c hc
      rcases List.mem_append.1 hc with hc | hc
      · rcases join_mem hc with rfl | ⟨t', ht, hc⟩
        · decide
        · exact dig_not33 (run_mem _ (trim_of (h.rel t' ht)).2.1 c hc)
      · exact hn c hc
    rw [hb]
    have eB : epoB (joinL (t :: ts) ++ e) 0 = false := by
      unfold epoB hasB
      rw [List.drop_zero, index_none _ no]
      rfl
    have eP : epoP (joinL (t :: ts) ++ e) 0 = 0 := by unfold epoP; rw [eB]; rfl
    have eT : epoT (joinL (t :: ts) ++ e) 0 = [48] := by unfold epoT; rw [eB]; rfl
    rw [eP, eT]
    obtain ⟨xs, hx, hne, hr, hl⟩ := rel_runs e he ts t [] h.rel
    simp only [List.nil_append, List.length_nil, Nat.zero_add] at hx hr hl
    rw [hx]
    exact ⟨rfl, hr, hne, hl⟩
  · have hb : baseL ep (t :: ts) = (ep ++ [33]) ++ joinL (t :: ts) := by unfold baseL; rw [if_neg hz]
    obtain ⟨p1, p2, p3, _⟩ := trim_of h.ep
    have hu : baseL ep (t :: ts) ++ e = (ep ++ [33]) ++ (joinL (t :: ts) ++ e) := by rw [hb, List.append_assoc]
    have hu' : baseL ep (t :: ts) ++ e = ep ++ 33 :: (joinL (t :: ts) ++ e) := by rw [hu]; simp
    have no : ∀ c ∈ ep, c ≠ 33 := fun c hc => dig_not33 (run_mem _ p2 c hc)
    have eB : epoB (baseL ep (t :: ts) ++ e) 0 = true := by
      unfold epoB
      rw [List.drop_zero, hu', has_at, cut_at _ _ no]
      have := h.ep
      unfold trimB at this
      simp only [Bool.and_eq_true] at this
      rw [this.1]
      rfl
    have eP : epoP (baseL ep (t :: ts) ++ e) 0 = (ep ++ [33]).length := by
      unfold epoP
      rw [if_pos eB, List.drop_zero, hu', cut_at _ _ no]
      simp
    have eT : epoT (baseL ep (t :: ts) ++ e) 0 = ep := by
      unfold epoT
      rw [if_pos eB, List.drop_zero, hu', cut_at _ _ no]
      exact p3
    rw [eP, eT, hu]
    obtain ⟨xs, hx, hne, hr, hl⟩ := rel_runs e he ts t (ep ++ [33]) h.rel
    rw [hx]
    refine ⟨rfl, hr, hne, ?_⟩
    rw [hl, hb]
    simp
    try omega

theorem base_pep {ep : List UInt8} {rel : List (List UInt8)} (h : RelL ep rel) (e : List UInt8) (he : tailB e = true) (hl : (baseL ep rel ++ e).length ≤ 64) :
    okP (baseL ep rel ++ e) = true ∧ pepOf (lowL (baseL ep rel ++ e)) = tailP ep rel e := by
  obtain ⟨t0, t1, t2, t3⟩ := tail_of he
  obtain ⟨a1, a2, a3, a4, a5⟩ := base_at h e t0 t2
  have b4 : vp4 (baseL ep rel ++ e) = (baseL ep rel).length + q4 e := by unfold vp4 q4; rw [a5]; exact stP_sh _ _ 0 _
  have b5 : vp5 (baseL ep rel ++ e) = (baseL ep rel).length + q5 e := by unfold vp5 q5; rw [b4, posP_sh]
  have b6 : vp6 (baseL ep rel ++ e) = (baseL ep rel).length + q6 e := by unfold vp6 q6; rw [b5, stP_sh]
  have b7 : vp7 (baseL ep rel ++ e) = (baseL ep rel).length + q7 e := by unfold vp7 q7; rw [b6, skip_sh]
  have bl : vpl (baseL ep rel ++ e) = ql e := by unfold vpl ql; rw [b6, drop_sh]
  have bo : vloc (baseL ep rel ++ e) = (qloc e).map (sh (baseL ep rel).length) := by unfold vloc qloc; rw [b7, runs_sh _ _ _ _ _ _ rfl]
  have b8 : vp8 (baseL ep rel ++ e) = (baseL ep rel).length + q8 e := by unfold vp8 q8; rw [b7, bo, lastE_sh]
  have bs : vlocs (baseL ep rel ++ e) = (qlocs e).map (sh (baseL ep rel).length) := by unfold vlocs qlocs; rw [bl, bo]; split <;> rfl
  rw [base_low h e t1]
  constructor
  · unfold okP
    rw [base_low h e t1, decide_eq_true hl, Bool.true_and, decide_eq_true_eq]
    unfold verX
    rw [if_neg (by simpa using a4), bl, bo, b7, b8, List.length_map, List.length_append]
    unfold okT at t3
    cases hq : ql e
    · rw [hq] at t3
      have t3 : ¬ q7 e < e.length := by simpa using t3
      rw [if_neg (by simp), if_neg (by omega)]
    · rw [hq] at t3
      have t3 : (qloc e).length ≠ 0 ∧ ¬ q8 e < e.length := by simpa using t3
      rw [if_pos rfl, if_neg t3.1, if_neg (by omega)]
  · unfold pepOf tailP
    rw [a1, a2, a3, a5, b4, b5, bs, posB_sh, posN_sh, word_sh, stN_sh, rowL_sh]
    rw [show preC (baseL ep rel ++ e) (baseL ep rel).length = preC e 0 from preC_sh _ _ 0, show stN (baseL ep rel ++ e) (baseL ep rel).length preWs = stN e 0 preWs from stN_sh _ _ 0 _]

theorem row_cmp {ep : List UInt8} {rel : List (List UInt8)} (h : RelL ep rel) (e f : List UInt8) (he : tailB e = true) (hf : tailB f = true) (hl : (baseL ep rel ++ e).length ≤ 64) (hm : (baseL ep rel ++ f).length ≤ 64)
    (hc : orI [stL (tailP [] [] e) (tailP [] [] f), padO locO [] (rowL e (qlocs e)) (rowL f (qlocs f)) 0] = -1) : cmpT (baseL ep rel ++ e) (baseL ep rel ++ f) = -1 := by
  obtain ⟨o1, p1⟩ := base_pep h e he hl
  obtain ⟨o2, p2⟩ := base_pep h f hf hm
  unfold cmpT
  rw [o1, o2, p1, p2, if_pos rfl, if_pos rfl]
  show orI [cmpD ep ep, padO cmpD [48] rel rel 0, stL (tailP [] [] e) (tailP [] [] f), padO locO [] (rowL e (qlocs e)) (rowL f (qlocs f)) 0] = -1
  rw [cmpD_cmp3.self ep, (padO_cmp3 cmpD_cmp3 [48]).self rel, orI, if_pos rfl, orI, if_pos rfl]
  exact hc

/-- What the row has behind the release. -/
def ends : List (List UInt8) := [[46, 100, 101, 118, 48],
  [97, 48, 46, 100, 101, 118, 49],
  [97, 48],
  [97, 49],
  [98, 48],
  [114, 99, 48],
  [],
  [43, 120],
  [43, 49],
  [46, 112, 111, 115, 116, 48, 46, 100, 101, 118, 48],
  [46, 112, 111, 115, 116, 48],
  [46, 112, 111, 115, 116, 49]]
theorem tl0 : tailB [46, 100, 101, 118, 48] = true := by kernel_rfl
theorem tl1 : tailB [97, 48, 46, 100, 101, 118, 49] = true := by kernel_rfl
theorem tl2 : tailB [97, 48] = true := by kernel_rfl
theorem tl3 : tailB [97, 49] = true := by kernel_rfl
theorem tl4 : tailB [98, 48] = true := by kernel_rfl
theorem tl5 : tailB [114, 99, 48] = true := by kernel_rfl
theorem tl6 : tailB [] = true := by kernel_rfl
theorem tl7 : tailB [43, 120] = true := by kernel_rfl
theorem tl8 : tailB [43, 49] = true := by kernel_rfl
theorem tl9 : tailB [46, 112, 111, 115, 116, 48, 46, 100, 101, 118, 48] = true := by kernel_rfl
theorem tl10 : tailB [46, 112, 111, 115, 116, 48] = true := by kernel_rfl
theorem tl11 : tailB [46, 112, 111, 115, 116, 49] = true := by kernel_rfl
theorem ahead0 : orI [stL (tailP [] [] [46, 100, 101, 118, 48]) (tailP [] [] [97, 48, 46, 100, 101, 118, 49]), padO locO [] (rowL [46, 100, 101, 118, 48] (qlocs [46, 100, 101, 118, 48])) (rowL [97, 48, 46, 100, 101, 118, 49] (qlocs [97, 48, 46, 100, 101, 118, 49])) 0] = -1 := by kernel_rfl
theorem ahead1 : orI [stL (tailP [] [] [97, 48, 46, 100, 101, 118, 49]) (tailP [] [] [97, 48]), padO locO [] (rowL [97, 48, 46, 100, 101, 118, 49] (qlocs [97, 48, 46, 100, 101, 118, 49])) (rowL [97, 48] (qlocs [97, 48])) 0] = -1 := by kernel_rfl
theorem ahead2 : orI [stL (tailP [] [] [97, 48]) (tailP [] [] [97, 49]), padO locO [] (rowL [97, 48] (qlocs [97, 48])) (rowL [97, 49] (qlocs [97, 49])) 0] = -1 := by kernel_rfl
theorem ahead3 : orI [stL (tailP [] [] [97, 49]) (tailP [] [] [98, 48]), padO locO [] (rowL [97, 49] (qlocs [97, 49])) (rowL [98, 48] (qlocs [98, 48])) 0] = -1 := by kernel_rfl
theorem ahead4 : orI [stL (tailP [] [] [98, 48]) (tailP [] [] [114, 99, 48]), padO locO [] (rowL [98, 48] (qlocs [98, 48])) (rowL [114, 99, 48] (qlocs [114, 99, 48])) 0] = -1 := by kernel_rfl
theorem ahead5 : orI [stL (tailP [] [] [114, 99, 48]) (tailP [] [] []), padO locO [] (rowL [114, 99, 48] (qlocs [114, 99, 48])) (rowL [] (qlocs [])) 0] = -1 := by kernel_rfl
theorem ahead6 : orI [stL (tailP [] [] []) (tailP [] [] [43, 120]), padO locO [] (rowL [] (qlocs [])) (rowL [43, 120] (qlocs [43, 120])) 0] = -1 := by kernel_rfl
theorem ahead7 : orI [stL (tailP [] [] [43, 120]) (tailP [] [] [43, 49]), padO locO [] (rowL [43, 120] (qlocs [43, 120])) (rowL [43, 49] (qlocs [43, 49])) 0] = -1 := by kernel_rfl
theorem ahead8 : orI [stL (tailP [] [] [43, 49]) (tailP [] [] [46, 112, 111, 115, 116, 48, 46, 100, 101, 118, 48]), padO locO [] (rowL [43, 49] (qlocs [43, 49])) (rowL [46, 112, 111, 115, 116, 48, 46, 100, 101, 118, 48] (qlocs [46, 112, 111, 115, 116, 48, 46, 100, 101, 118, 48])) 0] = -1 := by kernel_rfl
theorem ahead9 : orI [stL (tailP [] [] [46, 112, 111, 115, 116, 48, 46, 100, 101, 118, 48]) (tailP [] [] [46, 112, 111, 115, 116, 48]), padO locO [] (rowL [46, 112, 111, 115, 116, 48, 46, 100, 101, 118, 48] (qlocs [46, 112, 111, 115, 116, 48, 46, 100, 101, 118, 48])) (rowL [46, 112, 111, 115, 116, 48] (qlocs [46, 112, 111, 115, 116, 48])) 0] = -1 := by kernel_rfl
theorem ahead10 : orI [stL (tailP [] [] [46, 112, 111, 115, 116, 48]) (tailP [] [] [46, 112, 111, 115, 116, 49]), padO locO [] (rowL [46, 112, 111, 115, 116, 48] (qlocs [46, 112, 111, 115, 116, 48])) (rowL [46, 112, 111, 115, 116, 49] (qlocs [46, 112, 111, 115, 116, 49])) 0] = -1 := by kernel_rfl
theorem ends_row {ep : List UInt8} {rel : List (List UInt8)} (h : RelL ep rel) : ∀ (k : Nat) (hk : k + 1 < ends.length), (baseL ep rel ++ ends[k]).length ≤ 64 → (baseL ep rel ++ ends[k + 1]).length ≤ 64 → cmpT (baseL ep rel ++ ends[k]) (baseL ep rel ++ ends[k + 1]) = -1
  | 0, _, hl, hm => row_cmp h _ _ tl0 tl1 hl hm ahead0
  | 1, _, hl, hm => row_cmp h _ _ tl1 tl2 hl hm ahead1
  | 2, _, hl, hm => row_cmp h _ _ tl2 tl3 hl hm ahead2
  | 3, _, hl, hm => row_cmp h _ _ tl3 tl4 hl hm ahead3
  | 4, _, hl, hm => row_cmp h _ _ tl4 tl5 hl hm ahead4
  | 5, _, hl, hm => row_cmp h _ _ tl5 tl6 hl hm ahead5
  | 6, _, hl, hm => row_cmp h _ _ tl6 tl7 hl hm ahead6
  | 7, _, hl, hm => row_cmp h _ _ tl7 tl8 hl hm ahead7
  | 8, _, hl, hm => row_cmp h _ _ tl8 tl9 hl hm ahead8
  | 9, _, hl, hm => row_cmp h _ _ tl9 tl10 hl hm ahead9
  | 10, _, hl, hm => row_cmp h _ _ tl10 tl11 hl hm ahead10
  | n + 11, hk, _, _ => absurd hk (by show ¬ n + 11 + 1 < 12; omega)

end Go.Proofs.YtagnikhkmaplpaaGreat
