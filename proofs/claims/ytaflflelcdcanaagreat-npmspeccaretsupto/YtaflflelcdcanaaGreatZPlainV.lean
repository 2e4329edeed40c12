/-
  Plain laws of next versions: a version is ahead of each of its next ones, and of itself without its prerelease. · Plain laws of texts: what is written is read as it was.
-/
import Derived.Test.YtaflflelcdcanaaGreatZGa
import Derived.Test.YtaflflelcdcanaaGreatZPlainT
import Derived.Test.YtaflflelcdcanaaGreatZPlainR
namespace Go.Proofs.YtaflflelcdcanaaGreat
open Go.RowKit
set_option linter.unusedVariables false

theorem numB_allD {l : List UInt8} (h : numB l = true) : AllD l ∧ l ≠ [] := by
  unfold numB digB at h
  simp only [Bool.and_eq_true, beq_iff_eq] at h
  refine ⟨allD_of_run l h.1.2, fun e => ?_⟩
  have := h.1.1
  rw [e] at this
  simp at this
theorem fit_parts {x : SemL} (h : fitW x = true) : wrap64 (lenS x : Int) ≤ 64 ∧ numB x.maj = true ∧ numB x.min = true ∧ numB x.pat = true ∧ x.pre.all preB = true ∧ x.bld.all idB = true := by
  unfold fitW at h
  simp only [Bool.and_eq_true, decide_eq_true_eq] at h
  exact ⟨h.1.1.1.1.1, h.1.1.1.1.2, h.1.1.1.2, h.1.1.2, h.1.2, h.2⟩
theorem fit_mk {x : SemL} (h0 : wrap64 (lenS x : Int) ≤ 64) (h1 : numB x.maj = true) (h2 : numB x.min = true) (h3 : numB x.pat = true) (h4 : x.pre.all preB = true) (h5 : x.bld.all idB = true) : fitW x = true := by
  unfold fitW
  simp only [Bool.and_eq_true, decide_eq_true_eq]
  exact ⟨⟨⟨⟨⟨h0, h1⟩, h2⟩, h3⟩, h4⟩, h5⟩

/-- A number without noughts ahead is its own trimmed one. -/
theorem numB_trim {l : List UInt8} (h : numB l = true) : trimL l = l := by
  have hd := numB_allD h
  unfold numB zeroB at h
  simp only [Bool.and_eq_true] at h
  cases l with
  | nil => exact absurd rfl hd.2
  | cons c r =>
    by_cases hc : c = 48
    · subst hc
      cases r with
      | nil => decide
      | cons d r' =>
        exfalso
        have h2 := h.2
        simp only [List.head?_cons, List.length_cons, BEq.rfl, Bool.and_true, Bool.not_eq_true'] at h2
        rw [h.1] at h2
        simp at h2
    · rw [trimL, if_neg hc]
theorem inc_head (l : List UInt8) (hd : AllD l) (hn : l ≠ []) (ht : trimL l = l) : ∃ c r, incL l = c :: r ∧ c ≠ 48 := by
  cases l with
  | nil => exact absurd rfl hn
  | cons c r =>
    by_cases h9 : ∀ x ∈ c :: r, x = 57
    · refine ⟨49, List.replicate (c :: r).length 48, ?_, by decide⟩
      unfold incL
      have := incR_app (c :: r).reverse [] (fun x hx => h9 x (List.mem_reverse.1 hx))
      rw [List.append_nil] at this
      rw [this]
      simp [incR]
    · by_cases hc : c = 48
      · subst hc
        rw [trimL, if_pos rfl] at ht
        have hr : r = [] := by
          cases r with
          | nil => rfl
          | cons d r' =>
            exfalso
            have h1 := trim_parts (d :: r')
            have h2 : (trimL (d :: r')).length = (d :: r').length + 1 := by rw [ht]; rfl
            have := trimL_le (d :: r')
            rcases h1 with ⟨n, c', r'', h, hc', ht'⟩ | ⟨h, ht'⟩
            · rw [ht'] at h2
              have : (d :: r').length = n + (c' :: r'').length := by rw [h]; simp
              omega
            · rw [ht'] at h2
              simp at h2
        subst hr
        exact ⟨49, [], by decide, by decide⟩
      · exact incL_head c r hd hc h9
theorem next_num {l : List UInt8} (h : numB l = true) : numB (nextL l) = true ∧ nextL l ≠ [] := by
  have hd := numB_allD h
  have ht := numB_trim h
  have hv := nextL_val l hd.1
  have e : nextL l = incL l := by unfold nextL; rw [if_pos (run_of_allD l hd.1), ht]
  obtain ⟨c, r, hc, hne⟩ := inc_head l hd.1 hd.2 ht
  have hall := hv.2
  rw [e, hc] at hall ⊢
  refine ⟨?_, by simp⟩
  have hrun := run_of_allD (c :: r) hall
  unfold numB zeroB digB
  rw [hrun]
  have : (some c == some (48 : UInt8)) = false := by simpa using hne
  simp [this]
theorem numB_0 : numB [48] = true := by decide

theorem len_rais (x : SemL) (k : Int) (hk : k = 0 ∨ k = 1 ∨ k = 2) (h : lenS x ≤ 1048576) (hw : x.maj.length + x.min.length + x.pat.length ≤ 50) : wrap64 (lenS (rais x k) : Int) ≤ 64 := by
  have n1 := nextL_len x.maj
  have n2 := nextL_len x.min
  have n3 := nextL_len x.pat
  have : lenS (rais x k) ≤ 64 := by
    rcases hk with rfl | rfl | rfl
    · have e : rais x 0 = ⟨nextL x.maj, [48], [48], [], []⟩ := by unfold rais; simp
      rw [e]; simp only [lenS, lenI, List.length_cons, List.length_nil]; omega
    · have e : rais x 1 = ⟨x.maj, nextL x.min, [48], [], []⟩ := by unfold rais; simp
      rw [e]; simp only [lenS, lenI, List.length_cons, List.length_nil]; omega
    · have e : rais x 2 = ⟨x.maj, x.min, nextL x.pat, [], []⟩ := by unfold rais; simp
      rw [e]; simp only [lenS, lenI]; omega
  rw [wrap_id _ (by omega)]
  omega

/-- If no next version is fit the numbers are long. -/
theorem next_none (x : SemL) (k : Int) (hk : k = 0 ∨ k = 1 ∨ k = 2) (h : lenS x ≤ 1048576) (hf : fitW x = true) (hn : fitW (rais x k) = false) : 50 < x.maj.length + x.min.length + x.pat.length := by
  rcases Nat.lt_or_ge 50 (x.maj.length + x.min.length + x.pat.length) with h1 | h1
  · exact h1
  · exfalso
    obtain ⟨_, m1, m2, m3, _, _⟩ := fit_parts hf
    have hl := len_rais x k hk h h1
    have : fitW (rais x k) = true := by
      rcases hk with rfl | rfl | rfl
      · have e : rais x 0 = ⟨nextL x.maj, [48], [48], [], []⟩ := by unfold rais; simp
        rw [e] at hl ⊢
        exact fit_mk hl (next_num m1).1 numB_0 numB_0 rfl rfl
      · have e : rais x 1 = ⟨x.maj, nextL x.min, [48], [], []⟩ := by unfold rais; simp
        rw [e] at hl ⊢
        exact fit_mk hl m1 (next_num m2).1 numB_0 rfl rfl
      · have e : rais x 2 = ⟨x.maj, x.min, nextL x.pat, [], []⟩ := by unfold rais; simp
        rw [e] at hl ⊢
        exact fit_mk hl m1 m2 (next_num m3).1 rfl rfl
    rw [this] at hn
    cases hn

theorem cmp_next {l : List UInt8} (h : numB l = true) : cmpD l (nextL l) = -1 := by
  have hd := numB_allD h
  have hv := nextL_val l hd.1
  rw [cmpD_val l (nextL l) hd.1 hv.2, hv.1]
  unfold cmpN
  rw [if_pos (by omega)]
theorem cmp_next' {l : List UInt8} (h : numB l = true) : cmpD (nextL l) l = 1 := by
  have := cmpD_cmp3.anti l (nextL l)
  rw [cmp_next h] at this
  simpa using this

/-- A version is ahead of its next ones. -/
theorem next_ahead (x : SemL) (k : Int) (hk : k = 0 ∨ k = 1 ∨ k = 2) (hf : fitW x = true) (hn : fitW (rais x k) = true) : ordW x (rais x k) = -1 ∧ (rais x k).maj ≠ [] ∧ 0 ≤ cmpD (rais x k).maj x.maj := by
  obtain ⟨_, m1, m2, m3, _, _⟩ := fit_parts hf
  have hs := fun l => cmpD_cmp3.self l
  unfold ordW
  rw [hf, hn, if_pos (by rfl)]
  rcases hk with rfl | rfl | rfl
  · have e : rais x 0 = ⟨nextL x.maj, [48], [48], [], []⟩ := by unfold rais; simp
    rw [e]
    refine ⟨?_, (next_num m1).2, by simp only; rw [cmp_next' m1]; decide⟩
    unfold ordO or4
    simp only
    rw [cmp_next m1]
    rfl
  · have e : rais x 1 = ⟨x.maj, nextL x.min, [48], [], []⟩ := by unfold rais; simp
    rw [e]
    refine ⟨?_, (numB_allD m1).2, by simp only; rw [hs]; decide⟩
    unfold ordO or4
    simp only
    rw [hs, cmp_next m2]
    rfl
  · have e : rais x 2 = ⟨x.maj, x.min, nextL x.pat, [], []⟩ := by unfold rais; simp
    rw [e]
    refine ⟨?_, (numB_allD m1).2, by simp only; rw [hs]; decide⟩
    unfold ordO or4
    simp only
    rw [hs, hs, cmp_next m3]
    rfl

/-- A version with a prerelease is ahead of itself without. -/
theorem pre_ahead (x : SemL) (h : lenS x ≤ 1048576) (hf : fitW x = true) (hp : x.pre ≠ []) : ordW x ⟨x.maj, x.min, x.pat, [], []⟩ = -1 := by
  obtain ⟨h0, m1, m2, m3, _, _⟩ := fit_parts hf
  have hs := fun l => cmpD_cmp3.self l
  have hl : lenS ⟨x.maj, x.min, x.pat, [], []⟩ ≤ lenS x := by simp only [lenS, lenI]; omega
  have hf2 : fitW ⟨x.maj, x.min, x.pat, [], []⟩ = true := by
    refine fit_mk ?_ m1 m2 m3 rfl rfl
    rw [wrap_id _ (by omega)] at h0 ⊢
    omega
  unfold ordW
  rw [hf, hf2, if_pos (by rfl)]
  have hpre : preO x.pre [] = -1 := by
    unfold preO
    rw [if_pos (Or.inr rfl), if_pos]
    cases hx : x.pre with
    | nil => exact absurd hx hp
    | cons _ _ => simp
  unfold ordO or4
  simp only
  rw [hs, hs, hs, hpre]
  rfl

end Go.Proofs.YtaflflelcdcanaaGreat

namespace Go.Proofs.YtaflflelcdcanaaGreat
open Go.RowKit

theorem run_stop : ∀ (B C : List UInt8), runL 1 B = B.length → (∀ c, C.head? = some c → isC (c.toNat : Int) 1 = false) → runL 1 (B ++ C) = B.length
  | [], C, _, hC => by
    cases C with
    | nil => rfl
    | cons c r => rw [List.nil_append, runL, if_neg (by rw [hC c rfl]; simp)]; rfl
  | b :: B, C, hB, hC => by
    rw [runL] at hB
    split at hB
    · rename_i hb
      rw [List.cons_append, runL, if_pos hb, run_stop B C (by simpa using hB) hC]; rfl
    · simp at hB
theorem id_stop : ∀ (B C : List UInt8), idL B = B.length → (∀ c, C.head? = some c → isId c = false) → idL (B ++ C) = B.length
  | [], C, _, hC => by
    cases C with
    | nil => rfl
    | cons c r => rw [List.nil_append, idL, if_neg (by rw [hC c rfl]; simp)]; rfl
  | b :: B, C, hB, hC => by
    rw [idL] at hB
    split at hB
    · rename_i hb
      rw [List.cons_append, idL, if_pos hb, id_stop B C (by simpa using hB) hC]; rfl
    · simp at hB
theorem drop_app (A B : List UInt8) : (A ++ B).drop A.length = B := by simp
theorem seg_at (A B C : List UInt8) : seg (A ++ B ++ C) A.length (A.length + B.length) = B := by
  unfold seg
  rw [show A.length + B.length = (A ++ B).length by simp, List.take_left, drop_app]
theorem get_at (A C : List UInt8) : (A ++ C)[A.length]? = C.head? := by
  rw [List.getElem?_append_right (Nat.le_refl _), Nat.sub_self]
  cases C <;> rfl
theorem num_at (A B C : List UInt8) (hB : numB B = true) (hC : ∀ c, C.head? = some c → isC (c.toNat : Int) 1 = false) : numR (A ++ B ++ C) A.length = .ok (A.length + B.length) := by
  have hd := numB_allD hB
  have hr : runL 1 ((A ++ B ++ C).drop A.length) = B.length := by
    rw [List.append_assoc, drop_app, run_stop B C (run_of_allD B hd.1) hC]
  have hz : zeroB B = false := by
    unfold numB at hB
    simp only [Bool.and_eq_true, Bool.not_eq_true'] at hB
    exact hB.2
  have hl : B.length ≠ 0 := fun h => hd.2 (List.length_eq_zero_iff.1 h)
  unfold numR
  rw [hr, if_neg hl, seg_at, hz, if_neg (by simp)]
theorem dot_at (A C : List UInt8) : dotR (A ++ 46 :: C) A.length = .ok (A.length + 1) := by
  unfold dotR
  rw [get_at, List.head?_cons, if_pos rfl]

theorem idB_parts {t : List UInt8} (h : idB t = true) : idL t = t.length ∧ t ≠ [] := by
  unfold idB at h
  simp only [Bool.and_eq_true, beq_iff_eq] at h
  refine ⟨h.2, fun e => ?_⟩
  have := h.1
  rw [e] at this
  simp at this

/-- Identifiers laid one behind another are found as they were. -/
theorem segs_at (C : List UInt8) (hC : ∀ c, C.head? = some c → isId c = false ∧ c ≠ 46) : ∀ (ts : List (List UInt8)) (t : List UInt8) (A : List UInt8), (∀ u ∈ t :: ts, idB u = true) →
    ((segs (A ++ joinL (t :: ts) ++ C) A.length).map fun x => seg (A ++ joinL (t :: ts) ++ C) x.1 x.2) = t :: ts ∧ lastE A.length (segs (A ++ joinL (t :: ts) ++ C) A.length) = A.length + (joinL (t :: ts)).length := by
  intro ts
  induction ts with
  | nil =>
    intro t A ht
    have hj : joinL [t] = t := by simp [joinL, dotted]
    rw [hj]
    have hi := idB_parts (ht t List.mem_cons_self)
    have he : A.length + idL ((A ++ t ++ C).drop A.length) = A.length + t.length := by
      rw [List.append_assoc, drop_app, id_stop t C hi.1 (fun c hc => (hC c hc).1)]
    have hg : ¬ (A ++ t ++ C)[A.length + t.length]? = some 46 := by
      rw [show A.length + t.length = (A ++ t).length by simp, get_at]
      intro h
      exact (hC 46 h).2 rfl
    rw [segs_last _ _ _ he hg]
    refine ⟨?_, ?_⟩
    · simp only [List.map_cons, List.map_nil]
      rw [seg_at]
    · rfl
  | cons u r ih =>
    intro t A ht
    have hj : joinL (t :: u :: r) = t ++ 46 :: joinL (u :: r) := by simp [joinL, dotted]
    have hi := idB_parts (ht t List.mem_cons_self)
    have e1 : A ++ joinL (t :: u :: r) ++ C = A ++ t ++ (46 :: (joinL (u :: r) ++ C)) := by rw [hj]; simp
    have e2 : A ++ joinL (t :: u :: r) ++ C = (A ++ t ++ [46]) ++ joinL (u :: r) ++ C := by rw [hj]; simp
    have he : A.length + idL ((A ++ joinL (t :: u :: r) ++ C).drop A.length) = A.length + t.length := by
      rw [e1, List.append_assoc, drop_app, id_stop t _ hi.1]
      intro c hc
      simp only [List.head?_cons, Option.some.injEq] at hc
      subst hc
      decide
    have hg : (A ++ joinL (t :: u :: r) ++ C)[A.length + t.length]? = some 46 := by
      rw [e1, show A.length + t.length = (A ++ t).length by simp, get_at]
      rfl
    obtain ⟨i1, i2⟩ := ih u (A ++ t ++ [46]) (fun v hv => ht v (List.mem_cons_of_mem _ hv))
    have hn : (A ++ t ++ [46]).length = A.length + t.length + 1 := by simp; omega
    rw [← e2, hn] at i1 i2
    have hs := segs_dot (A ++ joinL (t :: u :: r) ++ C) A.length _ he hg
    refine ⟨?_, ?_⟩
    · rw [hs, List.map_cons, i1]
      simp only
      rw [e1, seg_at]
    · have hl : lastE A.length (segs (A ++ joinL (t :: u :: r) ++ C) A.length) = lastE (A.length + t.length + 1) (segs (A ++ joinL (t :: u :: r) ++ C) (A.length + t.length + 1)) := by
        rw [hs]
        unfold lastE
        rw [List.getLast?_cons]
        cases hx : (segs (A ++ joinL (t :: u :: r) ++ C) (A.length + t.length + 1)).getLast? with
        | none => exact absurd (List.getLast?_eq_none_iff.1 hx) (segs_ne _ _)
        | some x => simp
      rw [hl, i2, hj]
      simp
      omega
theorem bad_none (p : Bool) (l : List UInt8) : ∀ xs : List (Nat × Nat), (∀ x ∈ xs, wrongL p l (seg l x.1 x.2) x.2 = 0) → badOf p l xs = none
  | [], _ => rfl
  | x :: r, h => by
    rw [badOf, if_pos (h x List.mem_cons_self)]
    exact bad_none p l r fun y hy => h y (List.mem_cons_of_mem _ hy)
theorem ids_at (p : Bool) (A C : List UInt8) (ts : List (List UInt8)) (hn : ts ≠ []) (hC : ∀ c, C.head? = some c → isId c = false ∧ c ≠ 46) (ht : ∀ u ∈ ts, idB u = true ∧ (p && zeroB u) = false) :
    ∃ xs, idsR p (A ++ joinL ts ++ C) A.length = .ok (xs, A.length + (joinL ts).length) ∧ (xs.map fun x => seg (A ++ joinL ts ++ C) x.1 x.2) = ts := by
  cases ts with
  | nil => exact absurd rfl hn
  | cons t r =>
    obtain ⟨h1, h2⟩ := segs_at C hC r t A (fun u hu => (ht u hu).1)
    refine ⟨segs (A ++ joinL (t :: r) ++ C) A.length, ?_, h1⟩
    rw [idsR_ok, h2]
    refine bad_none p _ _ fun x hx => ?_
    have hm : seg (A ++ joinL (t :: r) ++ C) x.1 x.2 ∈ (segs (A ++ joinL (t :: r) ++ C) A.length).map (fun x => seg (A ++ joinL (t :: r) ++ C) x.1 x.2) := List.mem_map.2 ⟨x, hx, rfl⟩
    rw [h1] at hm
    have h := ht _ hm
    unfold wrongL
    rw [if_neg (idB_parts h.1).2, if_pos]
    have := h.2
    cases p <;> simp_all
/-- What stands behind the numbers. -/
def tailT (x : SemL) : List UInt8 := (if x.pre = [] then [] else 45 :: joinL x.pre) ++ (if x.bld = [] then [] else 43 :: joinL x.bld)
def bldT (x : SemL) : List UInt8 := if x.bld = [] then [] else 43 :: joinL x.bld
theorem build_at (A : List UInt8) (x : SemL) (pre : List (Nat × Nat)) (hb : ∀ u ∈ x.bld, idB u = true) :
    ∃ bs, buildR (A ++ bldT x) A.length pre = .ok (pre, bs) ∧ (bs.map fun y => seg (A ++ bldT x) y.1 y.2) = x.bld := by
  unfold bldT
  by_cases hn : x.bld = []
  · rw [if_pos hn]
    refine ⟨[], ?_, by rw [hn]; rfl⟩
    unfold buildR
    rw [get_at, if_neg (by simp), if_neg (by simp)]
  · rw [if_neg hn]
    have e : A ++ 43 :: joinL x.bld = (A ++ [43]) ++ joinL x.bld ++ [] := by simp
    obtain ⟨bs, h1, h2⟩ := ids_at false (A ++ [43]) [] x.bld hn (by intro c hc; cases hc) (fun u hu => ⟨hb u hu, rfl⟩)
    rw [← e] at h1 h2
    have hl : (A ++ [43]).length = A.length + 1 := by simp
    rw [hl] at h1
    refine ⟨bs, ?_, h2⟩
    unfold buildR
    rw [get_at, List.head?_cons, if_pos rfl, h1]
    simp only
    rw [if_neg]
    simp
    omega
theorem tail_at (A : List UInt8) (x : SemL) (hp : ∀ u ∈ x.pre, preB u = true) (hb : ∀ u ∈ x.bld, idB u = true) :
    ∃ ps bs, tailR (A ++ tailT x) A.length = .ok (ps, bs) ∧ (ps.map fun y => seg (A ++ tailT x) y.1 y.2) = x.pre ∧ (bs.map fun y => seg (A ++ tailT x) y.1 y.2) = x.bld := by
  have hB : tailT x = (if x.pre = [] then [] else 45 :: joinL x.pre) ++ bldT x := rfl
  have hc : ∀ c, (bldT x).head? = some c → c = 43 := by
    intro c h
    unfold bldT at h
    split at h
    · cases h
    · simpa using h.symm
  by_cases hn : x.pre = []
  · rw [hB, if_pos hn, List.nil_append]
    obtain ⟨bs, h1, h2⟩ := build_at A x [] hb
    refine ⟨[], bs, ?_, by rw [hn]; rfl, h2⟩
    unfold tailR
    rw [get_at, if_neg (fun h => by have := hc 45 h; cases this)]
    exact h1
  · have e1 : A ++ tailT x = (A ++ [45]) ++ joinL x.pre ++ bldT x := by rw [hB, if_neg hn]; simp
    have e2 : A ++ tailT x = (A ++ [45] ++ joinL x.pre) ++ bldT x := e1
    obtain ⟨ps, h1, h2⟩ := ids_at true (A ++ [45]) (bldT x) x.pre hn (fun c h => by rw [hc c h]; decide) (fun u hu => by
      have := hp u hu
      unfold preB at this
      simp only [Bool.and_eq_true, Bool.not_eq_true'] at this
      exact ⟨this.1, by rw [this.2]; rfl⟩)
    obtain ⟨bs, h3, h4⟩ := build_at (A ++ [45] ++ joinL x.pre) x ps hb
    rw [← e1] at h1 h2
    rw [← e2] at h3 h4
    have hl : (A ++ [45]).length = A.length + 1 := by simp
    have hl2 : (A ++ [45] ++ joinL x.pre).length = A.length + 1 + (joinL x.pre).length := by simp; omega
    rw [hl] at h1
    rw [hl2] at h3
    have hg : (A ++ tailT x)[A.length]? = some 45 := by rw [get_at, hB, if_neg hn]; rfl
    refine ⟨ps, bs, ?_, h2, h4⟩
    unfold tailR
    rw [if_pos hg, h1]
    exact h3
theorem textL_tail (x : SemL) : textL x = x.maj ++ [46] ++ x.min ++ [46] ++ x.pat ++ tailT x := by unfold textL tailT; simp

theorem textL_length (x : SemL) : (textL x).length = lenS x := by
  have hj : ∀ ts : List (List UInt8), ts ≠ [] → (joinL ts).length + 1 = lenI ts := by
    intro ts hn
    cases ts with
    | nil => exact absurd rfl hn
    | cons t r =>
      have hd : ∀ us : List (List UInt8), (dotted us).length = lenI us := by
        intro us
        induction us with
        | nil => rfl
        | cons u v ih => simp only [dotted, List.flatMap_cons, List.length_append, List.length_cons, lenI] at ih ⊢; omega
      simp only [joinL, List.length_append, lenI, hd]
      omega
  have h1 : (if x.pre = [] then ([] : List UInt8) else 45 :: joinL x.pre).length = lenI x.pre := by
    split
    · rename_i h; rw [h]; rfl
    · rename_i h; rw [List.length_cons, hj _ h]
  have h2 : (if x.bld = [] then ([] : List UInt8) else 43 :: joinL x.bld).length = lenI x.bld := by
    split
    · rename_i h; rw [h]; rfl
    · rename_i h; rw [List.length_cons, hj _ h]
  unfold textL lenS
  simp only [List.length_append, List.length_cons, List.length_nil, h1, h2]
  omega
/-- What is written is read as it was. -/
theorem text_parse (x : SemL) (hs : lenS x ≤ 1048576) (hf : fitW x = true) : ∃ c, parseR (textL x) = .ok c ∧ semOf (textL x) c = x := by
  obtain ⟨h0, m1, m2, m3, h4, h5⟩ := fit_parts hf
  rw [len_wrap x hs] at h0
  have hp : ∀ u ∈ x.pre, preB u = true := fun u hu => List.all_eq_true.1 h4 u hu
  have hb : ∀ u ∈ x.bld, idB u = true := fun u hu => List.all_eq_true.1 h5 u hu
  have hlen := textL_length x
  have dd : ∀ D : List UInt8, ∀ c, (46 :: D).head? = some c → isC (c.toNat : Int) 1 = false := by
    intro D c hc
    simp only [List.head?_cons, Option.some.injEq] at hc
    subst hc
    decide
  have tt : ∀ c, (tailT x).head? = some c → isC (c.toNat : Int) 1 = false := by
    intro c hc
    unfold tailT at hc
    by_cases hn : x.pre = []
    · rw [if_pos hn, List.nil_append] at hc
      split at hc
      · cases hc
      · simp only [List.head?_cons, Option.some.injEq] at hc
        subst hc
        decide
    · rw [if_neg hn] at hc
      simp only [List.cons_append, List.head?_cons, Option.some.injEq] at hc
      subst hc
      decide
  have e1 : textL x = [] ++ x.maj ++ (46 :: (x.min ++ [46] ++ x.pat ++ tailT x)) := by rw [textL_tail]; simp
  have e2 : textL x = x.maj ++ 46 :: (x.min ++ [46] ++ x.pat ++ tailT x) := by rw [textL_tail]; simp
  have e3 : textL x = (x.maj ++ [46]) ++ x.min ++ (46 :: (x.pat ++ tailT x)) := by rw [textL_tail]; simp
  have e4 : textL x = (x.maj ++ [46] ++ x.min) ++ 46 :: (x.pat ++ tailT x) := by rw [textL_tail]; simp
  have e5 : textL x = (x.maj ++ [46] ++ x.min ++ [46]) ++ x.pat ++ tailT x := by rw [textL_tail]
  have e6 : textL x = (x.maj ++ [46] ++ x.min ++ [46] ++ x.pat) ++ tailT x := by rw [textL_tail]
  have n1 := num_at [] x.maj (46 :: (x.min ++ [46] ++ x.pat ++ tailT x)) m1 (dd _)
  have s1 := seg_at [] x.maj (46 :: (x.min ++ [46] ++ x.pat ++ tailT x))
  rw [← e1] at n1 s1
  have d1 := dot_at x.maj (x.min ++ [46] ++ x.pat ++ tailT x)
  rw [← e2] at d1
  have n2 := num_at (x.maj ++ [46]) x.min (46 :: (x.pat ++ tailT x)) m2 (dd _)
  have s2 := seg_at (x.maj ++ [46]) x.min (46 :: (x.pat ++ tailT x))
  rw [← e3] at n2 s2
  have d2 := dot_at (x.maj ++ [46] ++ x.min) (x.pat ++ tailT x)
  rw [← e4] at d2
  have n3 := num_at (x.maj ++ [46] ++ x.min ++ [46]) x.pat (tailT x) m3 tt
  have s3 := seg_at (x.maj ++ [46] ++ x.min ++ [46]) x.pat (tailT x)
  rw [← e5] at n3 s3
  obtain ⟨ps, bs, t1, t2, t3⟩ := tail_at (x.maj ++ [46] ++ x.min ++ [46] ++ x.pat) x hp hb
  rw [← e6] at t1 t2 t3
  simp only [List.length_nil, Nat.zero_add] at n1 s1
  have k1 : (x.maj ++ [46]).length = x.maj.length + 1 := by simp
  have k2 : (x.maj ++ [46] ++ x.min).length = x.maj.length + 1 + x.min.length := by simp; omega
  have k3 : (x.maj ++ [46] ++ x.min ++ [46]).length = x.maj.length + 1 + x.min.length + 1 := by simp; omega
  have k4 : (x.maj ++ [46] ++ x.min ++ [46] ++ x.pat).length = x.maj.length + 1 + x.min.length + 1 + x.pat.length := by simp; omega
  rw [k1] at n2 s2
  rw [k2] at d2
  rw [k3] at n3 s3
  rw [k4] at t1
  refine ⟨⟨x.maj.length, x.maj.length + 1, x.maj.length + 1 + x.min.length, x.maj.length + 1 + x.min.length + 1, x.maj.length + 1 + x.min.length + 1 + x.pat.length, ps, bs⟩, ?_, ?_⟩
  · unfold parseR
    rw [if_neg (by omega)]
    have hn : numsR (textL x) = .ok (x.maj.length, x.maj.length + 1, x.maj.length + 1 + x.min.length, x.maj.length + 1 + x.min.length + 1, x.maj.length + 1 + x.min.length + 1 + x.pat.length) := by
      unfold numsR
      rw [n1]
      simp only
      rw [d1]
      simp only
      rw [n2]
      simp only
      rw [d2]
      simp only
      rw [n3]
    rw [hn]
    simp only
    rw [t1]
  · unfold semOf
    simp only
    rw [s1, s2, s3, t2, t3]

/-- What is read is fit. -/
theorem parse_fit {l : List UInt8} {c : Cuts} (h : parseR l = .ok c) : fitW (semOf l c) = true ∧ lenS (semOf l c) ≤ 64 := by
  have ht := parse_text h
  have hl := parse_len h
  have hlen := textL_length (semOf l c)
  rw [ht] at hlen
  obtain ⟨p1, p2, p3, p4, p5⟩ := parse_parts h
  refine ⟨fit_mk ?_ p1 p2 p3 (List.all_eq_true.2 p4) (List.all_eq_true.2 p5), by omega⟩
  rw [len_wrap _ (by omega)]
  omega

end Go.Proofs.YtaflflelcdcanaaGreat
