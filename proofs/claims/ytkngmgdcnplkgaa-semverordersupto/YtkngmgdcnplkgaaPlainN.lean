/-
  Plain laws of next versions: a version is ahead of each of its next ones, and of itself without its prerelease.
-/
import Derived.Test.YtkngmgdcnplkgaaGa
import Derived.Test.YtkngmgdcnplkgaaPlainT
namespace Go.Proofs.Ytkngmgdcnplkgaa
open Go.RowKit
set_option linter.unusedVariables false

theorem numB_allD {l : List UInt8} (h : numB l = true) : AllD l ∧ l ≠ [] := by
  unfold numB digB at h
  simp only [Bool.and_eq_true, beq_iff_eq] at h
  refine ⟨allD_of_run l h.1.2, fun e => ?_⟩
  have := h.1.1
  rw [e] at this
  simp at this
theorem fit_parts {x : SemL} (h : fitW x = true) : wrap64 (lenS x : Int) ≤ 64 ∧ numB x.maj = true ∧ numB x.min = true ∧ numB x.pat = true ∧ x.pre.all preB = true ∧ x.bld.all idB = true := by
  unfold fitW at h
  simp only [Bool.and_eq_true, decide_eq_true_eq] at h
  exact ⟨h.1.1.1.1.1, h.1.1.1.1.2, h.1.1.1.2, h.1.1.2, h.1.2, h.2⟩
theorem fit_mk {x : SemL} (h0 : wrap64 (lenS x : Int) ≤ 64) (h1 : numB x.maj = true) (h2 : numB x.min = true) (h3 : numB x.pat = true) (h4 : x.pre.all preB = true) (h5 : x.bld.all idB = true) : fitW x = true := by
  unfold fitW
  simp only [Bool.and_eq_true, decide_eq_true_eq]
  exact ⟨⟨⟨⟨⟨h0, h1⟩, h2⟩, h3⟩, h4⟩, h5⟩

/-- A number without noughts ahead is its own trimmed one. -/
theorem numB_trim {l : List UInt8} (h : numB l = true) : trimL l = l := by
  have hd := numB_allD h
  unfold numB zeroB at h
  simp only [Bool.and_eq_true] at h
  cases l with
  | nil => exact absurd rfl hd.2
  | cons c r =>
    by_cases hc : c = 48
    · subst hc
      cases r with
      | nil => decide
      | cons d r' =>
        exfalso
        have h2 := h.2
        simp only [List.head?_cons, List.length_cons, BEq.rfl, Bool.and_true, Bool.not_eq_true'] at h2
        rw [h.1] at h2
        simp at h2
    · rw [trimL, if_neg hc]
theorem inc_head (l : List UInt8) (hd : AllD l) (hn : l ≠ []) (ht : trimL l = l) : ∃ c r, incL l = c :: r ∧ c ≠ 48 := by
  cases l with
  | nil => exact absurd rfl hn
  | cons c r =>
    by_cases h9 : ∀ x ∈ c :: r, x = 57
    · refine ⟨49, List.replicate (c :: r).length 48, ?_, by decide⟩
      unfold incL
      have := incR_app (c :: r).reverse [] (fun x hx => h9 x (List.mem_reverse.1 hx))
      rw [List.append_nil] at this
      rw [this]
      simp [incR]
    · by_cases hc : c = 48
      · subst hc
        rw [trimL, if_pos rfl] at ht
        have hr : r = [] := by
          cases r with
          | nil => rfl
          | cons d r' =>
            exfalso
            have h1 := trim_parts (d :: r')
            have h2 : (trimL (d :: r')).length = (d :: r').length + 1 := by rw [ht]; rfl
            have := trimL_le (d :: r')
            rcases h1 with ⟨n, c', r'', h, hc', ht'⟩ | ⟨h, ht'⟩
            · rw [ht'] at h2
              have : (d :: r').length = n + (c' :: r'').length := by rw [h]; simp
              omega
            · rw [ht'] at h2
              simp at h2
        subst hr
        exact ⟨49, [], by decide, by decide⟩
      · exact incL_head c r hd hc h9
theorem next_num {l : List UInt8} (h : numB l = true) : numB (nextL l) = true ∧ nextL l ≠ [] := by
  have hd := numB_allD h
  have ht := numB_trim h
  have hv := nextL_val l hd.1
  have e : nextL l = incL l := by unfold nextL; rw [if_pos (run_of_allD l hd.1), ht]
  obtain ⟨c, r, hc, hne⟩ := inc_head l hd.1 hd.2 ht
  have hall := hv.2
  rw [e, hc] at hall ⊢
  refine ⟨?_, by simp⟩
  have hrun := run_of_allD (c :: r) hall
  unfold numB zeroB digB
  rw [hrun]
  have : (some c == some (48 : UInt8)) = false := by simpa using hne
  simp [this]
theorem numB_0 : numB [48] = true := by decide

theorem len_rais (x : SemL) (k : Int) (hk : k = 0 ∨ k = 1 ∨ k = 2) (h : lenS x ≤ 1048576) (hw : x.maj.length + x.min.length + x.pat.length ≤ 50) : wrap64 (lenS (rais x k) : Int) ≤ 64 := by
  have n1 := nextL_len x.maj
  have n2 := nextL_len x.min
  have n3 := nextL_len x.pat
  have : lenS (rais x k) ≤ 64 := by
    rcases hk with rfl | rfl | rfl
    · have e : rais x 0 = ⟨nextL x.maj, [48], [48], [], []⟩ := by unfold rais; simp
      rw [e]; simp only [lenS, lenI, List.length_cons, List.length_nil]; omega
    · have e : rais x 1 = ⟨x.maj, nextL x.min, [48], [], []⟩ := by unfold rais; simp
      rw [e]; simp only [lenS, lenI, List.length_cons, List.length_nil]; omega
    · have e : rais x 2 = ⟨x.maj, x.min, nextL x.pat, [], []⟩ := by unfold rais; simp
      rw [e]; simp only [lenS, lenI]; omega
  rw [wrap_id _ (by omega)]
  omega

/-- If no next version is fit the numbers are long. -/
theorem next_none (x : SemL) (k : Int) (hk : k = 0 ∨ k = 1 ∨ k = 2) (h : lenS x ≤ 1048576) (hf : fitW x = true) (hn : fitW (rais x k) = false) : 50 < x.maj.length + x.min.length + x.pat.length := by
  rcases Nat.lt_or_ge 50 (x.maj.length + x.min.length + x.pat.length) with h1 | h1
  · exact h1
  · exfalso
    obtain ⟨_, m1, m2, m3, _, _⟩ := fit_parts hf
    have hl := len_rais x k hk h h1
    have : fitW (rais x k) = true := by
      rcases hk with rfl | rfl | rfl
      · have e : rais x 0 = ⟨nextL x.maj, [48], [48], [], []⟩ := by unfold rais; simp
        rw [e] at hl ⊢
        exact fit_mk hl (next_num m1).1 numB_0 numB_0 rfl rfl
      · have e : rais x 1 = ⟨x.maj, nextL x.min, [48], [], []⟩ := by unfold rais; simp
        rw [e] at hl ⊢
        exact fit_mk hl m1 (next_num m2).1 numB_0 rfl rfl
      · have e : rais x 2 = ⟨x.maj, x.min, nextL x.pat, [], []⟩ := by unfold rais; simp
        rw [e] at hl ⊢
        exact fit_mk hl m1 m2 (next_num m3).1 rfl rfl
    rw [this] at hn
    cases hn

theorem cmp_next {l : List UInt8} (h : numB l = true) : cmpD l (nextL l) = -1 := by
  have hd := numB_allD h
  have hv := nextL_val l hd.1
  rw [cmpD_val l (nextL l) hd.1 hv.2, hv.1]
  unfold cmpN
  rw [if_pos (by omega)]
theorem cmp_next' {l : List UInt8} (h : numB l = true) : cmpD (nextL l) l = 1 := by
  have := cmpD_cmp3.anti l (nextL l)
  rw [cmp_next h] at this
  simpa using this

/-- A version is ahead of its next ones. -/
theorem next_ahead (x : SemL) (k : Int) (hk : k = 0 ∨ k = 1 ∨ k = 2) (hf : fitW x = true) (hn : fitW (rais x k) = true) : ordW x (rais x k) = -1 ∧ (rais x k).maj ≠ [] ∧ 0 ≤ cmpD (rais x k).maj x.maj := by
  obtain ⟨_, m1, m2, m3, _, _⟩ := fit_parts hf
  have hs := fun l => cmpD_cmp3.self l
  unfold ordW
  rw [hf, hn, if_pos (by rfl)]
  rcases hk with rfl | rfl | rfl
  · have e : rais x 0 = ⟨nextL x.maj, [48], [48], [], []⟩ := by unfold rais; simp
    rw [e]
    refine ⟨?_, (next_num m1).2, by simp only; rw [cmp_next' m1]; decide⟩
    unfold ordO or4
    simp only
    rw [cmp_next m1]
    rfl
  · have e : rais x 1 = ⟨x.maj, nextL x.min, [48], [], []⟩ := by unfold rais; simp
    rw [e]
    refine ⟨?_, (numB_allD m1).2, by simp only; rw [hs]; decide⟩
    unfold ordO or4
    simp only
    rw [hs, cmp_next m2]
    rfl
  · have e : rais x 2 = ⟨x.maj, x.min, nextL x.pat, [], []⟩ := by unfold rais; simp
    rw [e]
    refine ⟨?_, (numB_allD m1).2, by simp only; rw [hs]; decide⟩
    unfold ordO or4
    simp only
    rw [hs, hs, cmp_next m3]
    rfl

/-- A version with a prerelease is ahead of itself without. -/
theorem pre_ahead (x : SemL) (h : lenS x ≤ 1048576) (hf : fitW x = true) (hp : x.pre ≠ []) : ordW x ⟨x.maj, x.min, x.pat, [], []⟩ = -1 := by
  obtain ⟨h0, m1, m2, m3, _, _⟩ := fit_parts hf
  have hs := fun l => cmpD_cmp3.self l
  have hl : lenS ⟨x.maj, x.min, x.pat, [], []⟩ ≤ lenS x := by simp only [lenS, lenI]; omega
  have hf2 : fitW ⟨x.maj, x.min, x.pat, [], []⟩ = true := by
    refine fit_mk ?_ m1 m2 m3 rfl rfl
    rw [wrap_id _ (by omega)] at h0 ⊢
    omega
  unfold ordW
  rw [hf, hf2, if_pos (by rfl)]
  have hpre : preO x.pre [] = -1 := by
    unfold preO
    rw [if_pos (Or.inr rfl), if_pos]
    cases hx : x.pre with
    | nil => exact absurd hx hp
    | cons _ _ => simp
  unfold ordO or4
  simp only
  rw [hs, hs, hs, hpre]
  rfl

end Go.Proofs.Ytkngmgdcnplkgaa
