/-
  Plain: a range within another one, ahead of bars or at its end, is read as it is read alone; no program is named here. · Plain: a fit version's text is read back as a partial that tells all of it. · Plain: a comparator's text, a set's text is read back as what it says. · Plain: a range's text is read back as the sets that it was written of. · Plain: the sets that a range is read as can be written, and are read back. · Plain: what a range means can be written, and is read back as the same. · Plain: what a version's text means as a range, and what it means behind a tilde and a caret. · Plain: what a tilde takes a caret takes, a caret keeps the major version, a set takes what lies between two plain versions that it takes.
-/
import Derived.Test.YtaflflelcdcanaaGreatZEzo
import Derived.Test.YtaflflelcdcanaaGreatZEzh
namespace Go.Proofs.YtaflflelcdcanaaGreat
set_option linter.unusedVariables false

/-- From d on L is M, and behind it nothing, or a bar. -/
structure Sim (L M : List UInt8) (d : Nat) (R : List UInt8) : Prop where
  eq : L.drop d = M ++ R
  hd : R = [] ∨ R.head? = some 124
  le : d ≤ L.length
theorem Sim.drop {L M R : List UInt8} {d : Nat} (h : Sim L M d R) (i : Nat) (hi : i ≤ M.length) : L.drop (d + i) = M.drop i ++ R := by
  rw [← List.drop_drop, h.eq, List.drop_append_of_le_length hi]
theorem Sim.len {L M R : List UInt8} {d : Nat} (h : Sim L M d R) : L.length = d + M.length + R.length := by
  have := congrArg List.length h.eq
  rw [List.length_drop, List.length_append] at this
  have := h.le
  omega
theorem Sim.get {L M R : List UInt8} {d : Nat} (h : Sim L M d R) {i : Nat} (hi : i < M.length) : L[d + i]? = M[i]? := by
  have : (L.drop d)[i]? = (M ++ R)[i]? := by rw [h.eq]
  rw [List.getElem?_drop, List.getElem?_append_left hi] at this
  exact this
theorem Sim.end_ {L M R : List UInt8} {d : Nat} (h : Sim L M d R) : L[d + M.length]? = none ∨ L[d + M.length]? = some 124 := by
  have : (L.drop d)[M.length]? = (M ++ R)[M.length]? := by rw [h.eq]
  rw [List.getElem?_drop, List.getElem?_append_right (Nat.le_refl _), Nat.sub_self] at this
  rw [this]
  rcases h.hd with h | h
  · rw [h]; exact .inl rfl
  · rw [← List.head?_eq_getElem?, h]; exact .inr rfl
theorem Sim.is {L M R : List UInt8} {d : Nat} (h : Sim L M d R) {i : Nat} (hi : i ≤ M.length) {c : UInt8} (hc : c ≠ 124) : L[d + i]? = some c ↔ M[i]? = some c := by
  by_cases hl : i < M.length
  · rw [h.get hl]
  · have : i = M.length := by omega
    subst this
    rw [List.getElem?_eq_none (Nat.le_refl _)]
    rcases h.end_ with e | e
    · rw [e]
    · rw [e]; simp; exact fun h => hc h.symm
theorem run_app (k : Int) (hk : isC 124 k = false) {R : List UInt8} (hR : R = [] ∨ R.head? = some 124) : ∀ x : List UInt8, runL k (x ++ R) = runL k x
  | [] => by
    rcases hR with rfl | h
    · rfl
    · cases R with
      | nil => rfl
      | cons c r =>
        have : c = 124 := by simpa using h
        subst this
        show (if isC ((124 : UInt8).toNat : Int) k then _ else _) = 0
        rw [show (((124 : UInt8).toNat : Nat) : Int) = 124 from rfl, hk]
        rfl
  | c :: r => by
    have ih := run_app k hk hR r
    show (if isC (c.toNat : Int) k then runL k (r ++ R) + 1 else 0) = (if isC (c.toNat : Int) k then runL k r + 1 else 0)
    rw [ih]
theorem pr_app {R : List UInt8} (hR : R = [] ∨ R.head? = some 124) : ∀ x : List UInt8, prL (x ++ R) = prL x
  | [] => by
    rcases hR with rfl | h
    · rfl
    · cases R with
      | nil => rfl
      | cons c r =>
        have : c = 124 := by simpa using h
        subst this
        show (if preByte 124 then _ else _) = 0
        rw [show preByte 124 = false by decide]
        rfl
  | c :: r => by
    have ih := pr_app hR r
    show (if preByte c then prL (r ++ R) + 1 else 0) = (if preByte c then prL r + 1 else 0)
    rw [ih]
theorem Sim.run {L M R : List UInt8} {d : Nat} (h : Sim L M d R) (k : Int) (hk : isC 124 k = false) {i : Nat} (hi : i ≤ M.length) : runL k (L.drop (d + i)) = runL k (M.drop i) := by
  rw [h.drop i hi, run_app k hk h.hd]
theorem Sim.blk {L M R : List UInt8} {d : Nat} (h : Sim L M d R) {i : Nat} (hi : i ≤ M.length) : blk L (d + i) = d + blk M i := by
  unfold Go.Proofs.YtaflflelcdcanaaGreat.blk
  rw [h.run 6 (by decide) hi]
  omega
theorem Sim.ends {L M R : List UInt8} {d : Nat} (h : Sim L M d R) {i : Nat} (hi : i ≤ M.length) : endsL L (d + i) = endsL M i := by
  have hl := h.len
  unfold endsL
  by_cases hm : i < M.length
  · rw [h.get hm, decide_eq_false (by omega : ¬ d + i = L.length), decide_eq_false (by omega : ¬ i = M.length)]
  · have : i = M.length := by omega
    subst this
    rw [decide_eq_true (rfl : M.length = M.length), Bool.true_or]
    rcases h.end_ with e | e
    · have := List.getElem?_eq_none_iff.1 e
      rw [decide_eq_true (by omega : d + M.length = L.length), Bool.true_or]
    · rw [e]; simp
theorem Sim.seg {L M R : List UInt8} {d : Nat} (h : Sim L M d R) {x y : Nat} (hxy : y ≤ M.length) : seg L (d + x) (d + y) = seg M x y := by
  unfold Go.Proofs.YtaflflelcdcanaaGreat.seg
  rw [← List.drop_drop, List.drop_take, h.eq, show d + y - d = y by omega, List.take_append_of_le_length hxy]
theorem Sim.np {L M R : List UInt8} {d : Nat} (h : Sim L M d R) {i : Nat} (hi : i ≤ M.length) : ((npL L (d + i)).2.2 = 0 ↔ (npL M i).2.2 = 0) ∧ ((npL M i).2.2 = 0 → npL L (d + i) = (d + (npL M i).1, (npL M i).2.1, 0) ∧ (npL M i).1 ≤ M.length) := by
  have hr := h.run 1 (by decide) hi
  have h48 := h.is hi (c := 48) (by decide)
  have ho : (L[d + i]?.map openB).getD false = (M[i]?.map openB).getD false := by
    by_cases hm : i < M.length
    · rw [h.get hm]
    · have : i = M.length := by omega
      subst this
      rw [List.getElem?_eq_none (Nat.le_refl _)]
      rcases h.end_ with e | e <;> rw [e] <;> rfl
  have hlen := runL_le 1 (M.drop i)
  rw [List.length_drop] at hlen
  have hmis : ∀ a b, misL a b ≠ 0 := by intro a b; unfold misL; split <;> decide
  unfold npL
  rw [hr, ho]
  by_cases h1 : (M[i]?.map openB).getD false = true
  · rw [if_pos h1, if_pos h1]
    refine ⟨Iff.rfl, fun _ => ⟨by rw [Nat.add_assoc], ?_⟩⟩
    cases hg : M[i]? with
    | none => rw [hg] at h1; cases h1
    | some c =>
      have := (List.getElem?_eq_some_iff.1 hg).1
      dsimp only
      omega
  · rw [if_neg h1, if_neg h1]
    by_cases h2 : runL 1 (M.drop i) = 0
    · rw [if_pos h2, if_pos h2]
      exact ⟨⟨fun h => absurd h (hmis _ _), fun h => absurd h (hmis _ _)⟩, fun h => absurd h (hmis _ _)⟩
    · rw [if_neg h2, if_neg h2]
      by_cases h3 : M[i]? = some 48 ∧ 1 < runL 1 (M.drop i)
      · rw [if_pos h3, if_pos ⟨h48.2 h3.1, h3.2⟩]
        exact ⟨Iff.rfl, fun h => absurd (show (14 : Int) = 0 from h) (by decide)⟩
      · rw [if_neg h3, if_neg (fun hh => h3 ⟨h48.1 hh.1, hh.2⟩)]
        exact ⟨Iff.rfl, fun _ => ⟨by rw [Nat.add_assoc], by dsimp only; omega⟩⟩
/-- Pieces moved. -/
def mv (d : Nat) (sg : List (Nat × Nat)) : List (Nat × Nat) := sg.map (fun x => (d + x.1, d + x.2))
theorem mv_add (d : Nat) (sg : List (Nat × Nat)) (i : Nat) (o : Bool) (a e : Nat) : addS (mv d sg) i o (d + a) (d + e) = mv d (addS sg i o a e) := by
  unfold addS mv
  rw [List.length_map]
  split
  · simp
  · rfl
/-- Pieces that lie within. -/
def InS (n : Nat) (sg : List (Nat × Nat)) : Prop := ∀ x ∈ sg, x.2 ≤ n
theorem ins_add {n : Nat} {sg : List (Nat × Nat)} (h : InS n sg) (i : Nat) (o : Bool) (a e : Nat) (he : e ≤ n) : InS n (addS sg i o a e) := by
  unfold addS
  split
  · intro x hx
    rcases List.mem_append.1 hx with hx | hx
    · exact h x hx
    · simp at hx; subst hx; exact he
  · exact h
theorem rn0_ok {l : List UInt8} {i a : Nat} {sg : List (Nat × Nat)} (h : (npL l a).2.2 = 0) : rnGo l 0 i a sg = .ok (addS sg i (npL l a).2.1 a (npL l a).1, (npL l a).1) := by
  unfold rnGo; rw [if_neg (fun hh => hh h)]
theorem rnB {l : List UInt8} {k i a : Nat} {sg : List (Nat × Nat)} (h : (npL l a).2.2 ≠ 0) : rnGo l k i a sg = .error ((npL l a).1, (npL l a).2.2) := by
  cases k <;> (unfold rnGo; rw [if_pos h])
theorem rnS_dot {l : List UInt8} {k i a : Nat} {sg : List (Nat × Nat)} (h : (npL l a).2.2 = 0) (h2 : l[(npL l a).1]? = some 46) : rnGo l (k + 1) i a sg = rnGo l k (i + 1) ((npL l a).1 + 1) (addS sg i (npL l a).2.1 a (npL l a).1) := by
  rw [rnGo, if_neg (fun hh => hh h), if_pos h2]
theorem rnS_end {l : List UInt8} {k i a : Nat} {sg : List (Nat × Nat)} (h : (npL l a).2.2 = 0) (h2 : ¬ l[(npL l a).1]? = some 46) : rnGo l (k + 1) i a sg = .ok (addS sg i (npL l a).2.1 a (npL l a).1, (npL l a).1) := by
  rw [rnGo, if_neg (fun hh => hh h), if_neg h2]
theorem Sim.rn {L M R : List UInt8} {d : Nat} (h : Sim L M d R) : ∀ (k i a : Nat) (sg : List (Nat × Nat)), a ≤ M.length → InS M.length sg →
    (∀ x, rnGo M k i a sg = .ok x → rnGo L k i (d + a) (mv d sg) = .ok (mv d x.1, d + x.2) ∧ InS M.length x.1 ∧ x.2 ≤ M.length) ∧ ((∃ x, rnGo M k i a sg = .error x) → ∃ y, rnGo L k i (d + a) (mv d sg) = .error y ∧ y.2 ≠ 0)
  | 0, i, a, sg, ha, hs => by
    obtain ⟨h1, h2⟩ := h.np ha
    by_cases h0 : (npL M a).2.2 = 0
    · obtain ⟨h3, h4⟩ := h2 h0
      rw [rn0_ok h0, rn0_ok (h1.2 h0), h3]
      refine ⟨?_, fun hx => by obtain ⟨x, hx⟩ := hx; cases hx⟩
      intro x hx
      cases hx
      exact ⟨by rw [mv_add], ins_add hs _ _ _ _ h4, h4⟩
    · rw [rnB h0, rnB (fun hh => h0 (h1.1 hh))]
      exact ⟨(fun x hx => by cases hx), fun _ => ⟨_, rfl, fun hh => h0 (h1.1 hh)⟩⟩
  | k + 1, i, a, sg, ha, hs => by
    obtain ⟨h1, h2⟩ := h.np ha
    by_cases h0 : (npL M a).2.2 = 0
    · obtain ⟨h3, h4⟩ := h2 h0
      by_cases h46 : M[(npL M a).1]? = some 46
      · have hlt := (List.getElem?_eq_some_iff.1 h46).1
        rw [rnS_dot h0 h46, rnS_dot (h1.2 h0) (by rw [h3]; exact (h.is h4 (by decide)).2 h46), h3]
        dsimp only
        rw [mv_add, Nat.add_assoc]
        exact h.rn k (i + 1) ((npL M a).1 + 1) _ (by omega) (ins_add hs _ _ _ _ h4)
      · rw [rnS_end h0 h46, rnS_end (h1.2 h0) (by rw [h3]; exact fun hh => h46 ((h.is h4 (by decide)).1 hh)), h3]
        refine ⟨?_, fun hx => by obtain ⟨x, hx⟩ := hx; cases hx⟩
        intro x hx
        cases hx
        exact ⟨by rw [mv_add], ins_add hs _ _ _ _ h4, h4⟩
    · rw [rnB h0, rnB (fun hh => h0 (h1.1 hh))]
      exact ⟨(fun x hx => by cases hx), fun _ => ⟨_, rfl, fun hh => h0 (h1.1 hh)⟩⟩
theorem Sim.segT {L M R : List UInt8} {d : Nat} (h : Sim L M d R) {sg : List (Nat × Nat)} (hs : InS M.length sg) (i : Nat) : segT L (mv d sg) i = segT M sg i := by
  unfold Go.Proofs.YtaflflelcdcanaaGreat.segT mv
  rw [List.getElem?_map]
  cases hg : sg[i]? with
  | none => rfl
  | some x =>
    show Go.Proofs.YtaflflelcdcanaaGreat.seg L (d + x.1) (d + x.2) = _
    exact h.seg (hs x (List.mem_of_getElem? hg))
theorem Sim.pre {L M R : List UInt8} {d : Nat} (h : Sim L M d R) {i : Nat} (hi : i ≤ M.length) : ((preR M i).2.2 = 0 → preR L (d + i) = ((preR M i).1, (d : Int) + (preR M i).2.1, 0) ∧ ∃ e : Nat, (preR M i).2.1 = (e : Int) ∧ e ≤ M.length) ∧ ((preR M i).2.2 ≠ 0 → (preR L (d + i)).2.2 ≠ 0) := by
  have hp : prL (L.drop (d + i)) = prL (M.drop i) := by rw [h.drop i hi, pr_app h.hd]
  have hle := prL_le (M.drop i)
  rw [List.length_drop] at hle
  have he : min (d + i + prL (M.drop i)) (d + i + 48) = d + min (i + prL (M.drop i)) (i + 48) := by omega
  have hm : min (i + prL (M.drop i)) (i + 48) ≤ M.length := by omega
  have ht : preT L (d + i) (d + min (i + prL (M.drop i)) (i + 48)) = preT M i (min (i + prL (M.drop i)) (i + 48)) := by unfold preT; rw [h.seg hm]
  have hc : (L[d + i]? = some 45 ∨ L[d + i]? = some 43) ↔ (M[i]? = some 45 ∨ M[i]? = some 43) := or_congr (h.is hi (by decide)) (h.is hi (by decide))
  have hmis : ∀ a b, misL a b ≠ 0 := by intro a b; unfold misL; split <;> decide
  unfold preR
  rw [hp, he, ht]
  by_cases h1 : M[i]? = some 45 ∨ M[i]? = some 43
  · rw [if_pos h1, if_pos (hc.2 h1)]
    by_cases h2 : (fauP (preT M i (min (i + prL (M.drop i)) (i + 48)))).1 = 0
    · rw [if_pos h2, if_pos h2]
      exact ⟨fun _ => ⟨by simp, _, rfl, hm⟩, fun hh => absurd rfl hh⟩
    · rw [if_neg h2, if_neg h2]
      by_cases h3 : (fauP (preT M i (min (i + prL (M.drop i)) (i + 48)))).1 ≠ 11
      · rw [if_pos h3, if_pos h3]
        exact ⟨fun hh => absurd hh h2, fun _ => h2⟩
      · rw [if_neg h3, if_neg h3]
        refine ⟨fun hh => ?_, fun _ => ?_⟩
        · exfalso
          revert hh
          split
          · intro hh; exact absurd hh (by simp)
          · intro hh; exact absurd hh (hmis _ _)
        · split
          · simp
          · exact hmis _ _
  · rw [if_neg h1, if_neg (fun hh => h1 (hc.1 hh))]
    exact ⟨fun _ => ⟨by simp, i, rfl, hi⟩, fun hh => absurd rfl hh⟩
theorem endP_err {l : List UInt8} {a : Nat} {p : PartL} {z r : Int} (h : r ≠ 0) : (endP l a p z r).2.2 ≠ 0 := by
  unfold endP
  split
  · simp
  · split
    · simp
    · exact h
theorem Sim.endP {L M R : List UInt8} {d : Nat} (h : Sim L M d R) {a e : Nat} (he : e ≤ M.length) (p : PartL) : ((endP M a p (e : Int) 0).2.2 = 0 → endP M a p (e : Int) 0 = (p, (e : Int), 0) ∧ endP L (d + a) p ((d : Int) + (e : Int)) 0 = (p, (d : Int) + (e : Int), 0)) ∧ ((endP M a p (e : Int) 0).2.2 ≠ 0 → (endP L (d + a) p ((d : Int) + (e : Int)) 0).2.2 ≠ 0) := by
  have hz : ((d : Int) + (e : Int)).toNat = d + e := by omega
  have hb : (L[d + e]?.map fun c => isC (c.toNat : Int) 6) = some false ∨ endsL L (d + e) = true ∨ (L[d + e]?.map fun c => isC (c.toNat : Int) 6) = (M[e]?.map fun c => isC (c.toNat : Int) 6) := by
    by_cases hm : e < M.length
    · rw [h.get hm]; exact .inr (.inr rfl)
    · have : e = M.length := by omega
      subst this
      rw [h.ends (Nat.le_refl _)]
      exact .inr (.inl (by unfold endsL; simp))
  have hen := h.ends he
  have hi : (48 < (d : Int) + (e : Int) - ((d + a : Nat) : Int)) ↔ (48 < (e : Int) - (a : Int)) := by omega
  have hcond : (endsL M e = false ∧ (M[e]?.map fun c => isC (c.toNat : Int) 6) = some false) ↔ (endsL L (d + e) = false ∧ (L[d + e]?.map fun c => isC (c.toNat : Int) 6) = some false) := by
    by_cases hm : e < M.length
    · rw [h.get hm, hen]
    · have : e = M.length := by omega
      subst this
      rw [hen]
      have : endsL M M.length = true := by unfold endsL; simp
      rw [this]
      simp
  unfold Go.Proofs.YtaflflelcdcanaaGreat.endP
  rw [hz, Int.toNat_natCast]
  by_cases h1 : 48 < (e : Int) - (a : Int)
  · rw [if_pos h1, if_pos (hi.2 h1)]
    exact ⟨fun hh => absurd hh (by simp), fun _ => by simp⟩
  · rw [if_neg h1, if_neg (fun hh => h1 (hi.1 hh))]
    by_cases h2 : endsL M e = false ∧ (M[e]?.map fun c => isC (c.toNat : Int) 6) = some false
    · rw [if_pos ⟨rfl, h2⟩, if_pos ⟨rfl, hcond.1 h2⟩]
      exact ⟨fun hh => absurd hh (by simp), fun _ => by simp⟩
    · rw [if_neg (fun hh => h2 hh.2), if_neg (fun hh => h2 (hcond.2 hh.2))]
      exact ⟨fun _ => ⟨rfl, rfl⟩, fun hh => absurd rfl hh⟩
theorem Sim.v {L M R : List UInt8} {d : Nat} (h : Sim L M d R) {i : Nat} (hi : i ≤ M.length) : vL L (d + i) = d + vL M i := by
  unfold vL
  by_cases h1 : M[i]? = some 118
  · rw [if_pos h1, if_pos ((h.is hi (by decide)).2 h1)]; omega
  · rw [if_neg h1, if_neg (fun hh => h1 ((h.is hi (by decide)).1 hh))]
theorem rn_err {l : List UInt8} : ∀ {k i a : Nat} {sg : List (Nat × Nat)} {x : Nat × Int}, rnGo l k i a sg = .error x → x.2 ≠ 0
  | 0, i, a, sg, x, h => by
    unfold rnGo at h
    split at h
    · rename_i h1; cases h; exact h1
    · cases h
  | k + 1, i, a, sg, x, h => by
    unfold rnGo at h
    split at h
    · rename_i h1; cases h; exact h1
    · split at h
      · exact rn_err h
      · cases h
theorem Sim.rp {L M R : List UInt8} {d : Nat} (h : Sim L M d R) {i : Nat} (hi : i ≤ M.length) : ((rpL M i).2.2 = 0 → rpL L (d + i) = ((rpL M i).1, (d : Int) + (rpL M i).2.1, 0)) ∧ ((rpL M i).2.2 ≠ 0 → (rpL L (d + i)).2.2 ≠ 0) := by
  have hv := h.v hi
  have hvl := (vL_le hi).1
  obtain ⟨h1, h2⟩ := h.rn 2 0 (vL M i) [] hvl (fun x hx => by cases hx)
  unfold rpL
  rw [hv]
  cases hg : rnGo M 2 0 (vL M i) [] with
  | error x =>
    obtain ⟨y, hy, hy2⟩ := h2 ⟨x, hg⟩
    rw [show rnGo L 2 0 (d + vL M i) [] = .error y from hy]
    dsimp only
    refine ⟨fun hh => ?_, fun _ => endP_err hy2⟩
    exfalso
    have hx : x.2 ≠ 0 := by
      intro hx
      obtain ⟨z, hz, _⟩ := h2 ⟨x, hg⟩
      have := rn_err hg
      exact this hx
    exact endP_err hx hh
  | ok x =>
    obtain ⟨h3, h4, h5⟩ := h1 x hg
    rw [show rnGo L 2 0 (d + vL M i) [] = .ok (mv d x.1, d + x.2) from h3]
    dsimp only
    rw [show (mv d x.1).length = x.1.length by simp [mv], h.segT h4, h.segT h4, h.segT h4]
    by_cases hl : x.1.length = 3
    · rw [if_pos hl, if_pos hl]
      obtain ⟨h6, h7⟩ := h.pre h5
      by_cases hz : (preR M x.2).2.2 = 0
      · obtain ⟨h8, e, h9, h10⟩ := h6 hz
        rw [h8, hz, h9]
        dsimp only
        obtain ⟨q1, q2⟩ := h.endP (a := i) h10 ⟨Go.Proofs.YtaflflelcdcanaaGreat.segT M x.1 0, Go.Proofs.YtaflflelcdcanaaGreat.segT M x.1 1, Go.Proofs.YtaflflelcdcanaaGreat.segT M x.1 2, (preR M x.2).1, 3⟩
        refine ⟨fun hh => ?_, q2⟩
        obtain ⟨q3, q4⟩ := q1 hh
        rw [q3, q4]
      · exact ⟨fun hh => absurd hh (endP_err hz), fun _ => endP_err (h7 hz)⟩
    · rw [if_neg hl, if_neg hl]
      obtain ⟨q1, q2⟩ := h.endP (a := i) h5 ⟨Go.Proofs.YtaflflelcdcanaaGreat.segT M x.1 0, Go.Proofs.YtaflflelcdcanaaGreat.segT M x.1 1, Go.Proofs.YtaflflelcdcanaaGreat.segT M x.1 2, [], x.1.length⟩
      rw [show (((d + x.2 : Nat) : Int)) = (d : Int) + (x.2 : Int) by omega]
      refine ⟨fun hh => ?_, q2⟩
      obtain ⟨q3, q4⟩ := q1 hh
      rw [q3, q4]

theorem hasP_app {R : List UInt8} (hR : R = [] ∨ R.head? = some 124) : ∀ (s x : List UInt8), (∀ c ∈ s, c ≠ 124) → hasP (x ++ R) s = hasP x s := by
  intro s x hs
  have key : ∀ (s x : List UInt8), (∀ c ∈ s, c ≠ 124) → ((x ++ R).take s.length = s ↔ x.take s.length = s) := by
    intro s
    induction s with
    | nil => intro x _; simp
    | cons c r ih =>
      intro x hs
      cases x with
      | nil =>
        rcases hR with rfl | h
        · simp
        · cases R with
          | nil => simp
          | cons e q =>
            have he : e = 124 := by simpa using h
            subst he
            have hc := hs c List.mem_cons_self
            simp
            intro h
            exact absurd h.symm hc
      | cons e q =>
        have := ih q (fun c hc => hs c (List.mem_cons_of_mem _ hc))
        simp only [List.cons_append, List.length_cons, List.take_succ_cons, List.cons.injEq, this]
  have := key s x hs
  unfold hasP
  rw [Bool.eq_iff_iff]
  simpa using this
theorem go_app {R : List UInt8} (hR : R = [] ∨ R.head? = some 124) (x : List UInt8) : opGo (x ++ R) 9 = opGo x 9 := by
  have hst : ∀ y ∈ ops9, ∀ z, opStep (x ++ R) z y = opStep x z y := by
    intro y hy z
    unfold opStep
    rw [hasP_app hR y.1 x (by
      have : ∀ y ∈ ops9, ∀ c ∈ y.1, c ≠ 124 := by decide
      exact this y hy)]
  unfold opGo
  have hf : ∀ (l : List (List UInt8 × Nat)), (∀ y ∈ l, y ∈ ops9) → ∀ z, l.foldl (opStep (x ++ R)) z = l.foldl (opStep x) z := by
    intro l
    induction l with
    | nil => intro _ z; rfl
    | cons y r ih =>
      intro h z
      rw [List.foldl_cons, List.foldl_cons, hst y (h y List.mem_cons_self), ih (fun w hw => h w (List.mem_cons_of_mem _ hw))]
  exact hf _ (fun y hy => List.mem_of_mem_take hy) _
theorem Sim.op {L M R : List UInt8} {d : Nat} (h : Sim L M d R) {i : Nat} (hi : i ≤ M.length) : opL L (d + i) = opL M i ∧ opE L (d + i) = d + opE M i := by
  have h1 : opL L (d + i) = opL M i := by unfold opL; rw [h.drop i hi, go_app h.hd]
  refine ⟨h1, ?_⟩
  unfold opE
  rw [h1, Nat.add_assoc, h.blk (op_in hi)]
/-- A part moved. -/
def mvI (d : Nat) (x : Item) : Item := ⟨x.p, x.f, x.err, (d : Int) + x.pos⟩
theorem Sim.item {L M R : List UInt8} {d : Nat} (h : Sim L M d R) {i : Nat} (hi : i ≤ M.length) (he : (itemL M i).err = 0) : itemL L (d + i) = mvI d (itemL M i) := by
  obtain ⟨h1, h2⟩ := h.op hi
  have h3 := (h.rp (blk_le (op_in hi))).1 he
  unfold itemL mvI
  rw [h2, h1]
  rw [show rpL L (d + opE M i) = _ from h3]
  dsimp only
  rw [show (rpL M (opE M i)).2.2 = 0 from he]
  rfl
theorem Sim.row {L M R : List UInt8} {d : Nat} (h : Sim L M d R) : ∀ (n k a : Nat), a ≤ M.length → (∀ x ∈ rowG M n k a, x.err = 0) → rowG L n k (d + a) = (rowG M n k a).map (mvI d)
  | 0, k, a, _, _ => rfl
  | n + 1, k, a, ha, hx => by
    by_cases h1 : endsL M a = true
    · rw [rowG_end h1, rowG_end (by rw [h.ends ha]; exact h1)]
      rfl
    · have h1 : endsL M a = false := by simpa using h1
      by_cases h2 : k = 32
      · subst h2
        rw [rowG_many h1] at hx
        exact absurd (hx _ List.mem_cons_self) (by simp)
      · by_cases h3 : (itemL M a).err = 0
        · rw [rowG_go h1 h2 h3] at hx ⊢
          have h4 := h.item ha h3
          have hE : opE M a ≤ M.length := blk_le (op_in ha)
          obtain ⟨e, h5, _, h6⟩ := rp_ok hE h3
          have h5' : (itemL M a).pos = (e : Int) := h5
          rw [rowG_go (by rw [h.ends ha]; exact h1) h2 (by rw [h4]; exact h3), h4, List.map_cons]
          have h7 : (mvI d (itemL M a)).pos.toNat = d + e := by show ((d : Int) + (itemL M a).pos).toNat = d + e; rw [h5']; omega
          rw [h7, h5', Int.toNat_natCast, h.blk h6, h.row n (k + 1) (Go.Proofs.YtaflflelcdcanaaGreat.blk M e) (blk_le h6) (fun x hm => hx x (List.mem_cons_of_mem _ (by rw [h5', Int.toNat_natCast]; exact hm)))]
        · rw [rowG_bad h1 h2 h3] at hx
          exact absurd (hx _ List.mem_cons_self) h3
theorem Sim.dash {L M R : List UInt8} {d : Nat} (h : Sim L M d R) {i : Nat} (hi : i ≤ M.length) (he : (dashL M i).2.2 = 0) : dashL L (d + i) = ((dashL M i).1, (d : Int) + (dashL M i).2.1, 0) := by
  have hmis : ∀ a b, misL a b ≠ 0 := by intro a b; unfold misL; split <;> decide
  unfold dashL at he ⊢
  by_cases h1 : Go.Proofs.YtaflflelcdcanaaGreat.blk M i = i
  · rw [if_pos h1] at he
    exact absurd he (hmis _ _)
  · rw [if_neg h1] at he ⊢
    rw [if_neg (by rw [h.blk hi]; omega), h.blk hi]
    exact (h.rp (blk_le hi)).1 he
theorem Sim.parts {L M R : List UInt8} {d : Nat} (h : Sim L M d R) {a : Nat} (ha : a ≤ M.length) (hx : ∀ x ∈ partsL M a, x.err = 0) : partsL L (d + a) = (partsL M a).map (mvI d) := by
  have hb := blk_le ha
  obtain ⟨h1, h2⟩ := h.rp hb
  have hbl := h.blk ha
  have hhd : headL L (d + a) = rpL L (d + Go.Proofs.YtaflflelcdcanaaGreat.blk M a) := by unfold headL; rw [hbl]
  have hfr : isFrom L (headL L (d + a)) = isFrom M (headL M a) := by
    rw [hhd]
    unfold isFrom
    by_cases he : (headL M a).2.2 = 0
    · obtain ⟨e, h5, _, h6⟩ := rp_ok hb he
      have h5' : (headL M a).2.1 = (e : Int) := h5
      have h7 := h1 he
      rw [h7, he, h5']
      dsimp only
      rw [show ((d : Int) + (rpL M (Go.Proofs.YtaflflelcdcanaaGreat.blk M a)).2.1).toNat = d + e by rw [show (rpL M (Go.Proofs.YtaflflelcdcanaaGreat.blk M a)).2.1 = (e : Int) from h5]; omega, Int.toNat_natCast, h.blk h6]
      rw [Bool.eq_iff_iff]
      simp [h.is (blk_le h6) (c := 45) (by decide)]
    · have h7 := h2 he
      rw [decide_eq_false he, decide_eq_false h7, Bool.false_and, Bool.false_and]
  unfold partsL at hx ⊢
  rw [hfr]
  by_cases hf : isFrom M (headL M a) = true
  · rw [if_pos hf] at hx ⊢
    rw [if_pos hf]
    have hf' := hf
    unfold isFrom at hf'
    rw [Bool.and_eq_true] at hf'
    have he : (headL M a).2.2 = 0 := by simpa using hf'.1
    obtain ⟨e, h5, _, h6⟩ := rp_ok hb he
    have h5' : (headL M a).2.1 = (e : Int) := h5
    have h45 := hf'.2
    rw [h5', Int.toNat_natCast] at h45
    have h45 : M[Go.Proofs.YtaflflelcdcanaaGreat.blk M e]? = some 45 := by simpa using h45
    have hlt := (List.getElem?_eq_some_iff.1 h45).1
    have h7 : headL L (d + a) = ((headL M a).1, (d : Int) + (e : Int), 0) := by rw [hhd, h1 he, show (rpL M (Go.Proofs.YtaflflelcdcanaaGreat.blk M a)).2.1 = (e : Int) from h5]; rfl
    rw [h7, h5']
    dsimp only
    rw [show ((d : Int) + (e : Int)).toNat = d + e by omega, Int.toNat_natCast]
    have ht : (toI M e).err = 0 := hx _ (by rw [h5', Int.toNat_natCast]; unfold ftL; exact List.mem_cons_of_mem _ List.mem_cons_self)
    have hd := h.dash (i := Go.Proofs.YtaflflelcdcanaaGreat.blk M e + 1) (by omega) ht
    have htI : toI L (d + e) = mvI d (toI M e) := by
      unfold toI mvI
      rw [h.blk h6, Nat.add_assoc, hd]
      dsimp only
      rw [show (dashL M (Go.Proofs.YtaflflelcdcanaaGreat.blk M e + 1)).2.2 = 0 from ht]
    obtain ⟨e2, h8, h9⟩ := dash_ok (l := M) (a := Go.Proofs.YtaflflelcdcanaaGreat.blk M e + 1) (by omega) ht
    have h8' : (toI M e).pos = (e2 : Int) := h8
    have hen : endsL M (Go.Proofs.YtaflflelcdcanaaGreat.blk M e2) = true := by
      cases hc : endsL M (Go.Proofs.YtaflflelcdcanaaGreat.blk M e2) with
      | true => rfl
      | false =>
        exfalso
        have := hx ⟨partN, 0, 10, (Go.Proofs.YtaflflelcdcanaaGreat.blk M (toI M e).pos.toNat : Int)⟩ (by
          rw [h5', Int.toNat_natCast]
          unfold ftL
          rw [if_pos ⟨ht, by rw [h8', Int.toNat_natCast]; exact hc⟩]
          simp)
        exact absurd this (by simp)
    unfold ftL
    rw [htI, if_neg (fun hh => by
      have := hh.2
      rw [show (mvI d (toI M e)).pos = (d : Int) + (e2 : Int) by show (d : Int) + (toI M e).pos = _; rw [h8'], show ((d : Int) + (e2 : Int)).toNat = d + e2 by omega, h.blk h9, h.ends (blk_le h9), hen] at this
      cases this), if_neg (fun hh => by have := hh.2; rw [h8', Int.toNat_natCast, hen] at this; cases this)]
    simp [mvI]
  · rw [if_neg hf] at hx ⊢
    rw [if_neg hf]
    unfold rowL at hx ⊢
    rw [hbl]
    exact h.row 33 0 _ hb hx

theorem fold_ok : ∀ (xs : List Item) (a : Int) (cs : List Comp), (foldI a cs xs).1 = 0 → ∀ x ∈ xs, x.err = 0
  | [], a, cs, _, x, hx => by cases hx
  | y :: ys, a, cs, h, x, hx => by
    by_cases he : y.err = 0
    · rw [foldI_cons he] at h
      rcases List.mem_cons.1 hx with rfl | hx
      · exact he
      · exact fold_ok ys _ _ h x hx
    · exfalso
      unfold foldI at h
      rw [if_pos he] at h
      exact he h
theorem fold_mv (d : Nat) : ∀ (xs : List Item) (a : Int) (cs : List Comp), (∀ x ∈ xs, x.err = 0) → foldI ((d : Int) + a) cs (xs.map (mvI d)) = ((foldI a cs xs).1, (d : Int) + (foldI a cs xs).2.1, (foldI a cs xs).2.2)
  | [], a, cs, _ => rfl
  | y :: ys, a, cs, h => by
    have he := h y List.mem_cons_self
    rw [List.map_cons, foldI_cons (show (mvI d y).err = 0 from he), foldI_cons he]
    exact fold_mv d ys y.pos _ (fun x hx => h x (List.mem_cons_of_mem _ hx))
theorem one_place {l : List UInt8} (hl : l.length ≤ 256) {a : Nat} (ha : a ≤ l.length) (h : (oneSet l a).1 = 0) : ∃ e : Nat, (oneSet l a).2.1 = (e : Int) ∧ e ≤ l.length := by
  have hx := fold_ok _ _ _ h
  have hs := fold_split (partsL l a) (a : Int) [] [] hx
  rw [List.append_nil] at hs
  obtain ⟨e, h1, h2⟩ := last_le ha (partsL l a) (fun x hm => (parts_good hl ha x hm (hx x hm)).place)
  refine ⟨e, ?_, h2⟩
  unfold oneSet
  rw [hs, ← h1]
  rfl
theorem Sim.one {L M R : List UInt8} {d : Nat} (h : Sim L M d R) {a : Nat} (ha : a ≤ M.length) (he : (oneSet M a).1 = 0) : oneSet L (d + a) = (0, (d : Int) + (oneSet M a).2.1, (oneSet M a).2.2) := by
  have hx := fold_ok _ _ _ he
  unfold oneSet at he ⊢
  rw [h.parts ha hx, show (((d + a : Nat)) : Int) = (d : Int) + (a : Int) by omega, fold_mv d _ _ _ hx, he]
theorem np_end {l : List UInt8} {n a e : Nat} {S : List (List Comp)} {cs : List Comp} (h : oneSet l a = (0, (e : Int), cs)) (hb : Go.Proofs.YtaflflelcdcanaaGreat.blk l e = l.length) : npGo l (n + 1) a S = (0, 0, S ++ [cs]) := by
  unfold npGo
  rw [h]
  dsimp only
  rw [Int.toNat_natCast, if_neg (by simp), if_pos hb]
theorem np_bars {l : List UInt8} {n a e x : Nat} {r : Int} {S : List (List Comp)} {cs : List Comp} (h : oneSet l a = (0, (e : Int), cs)) (hb : ¬ Go.Proofs.YtaflflelcdcanaaGreat.blk l e = l.length) (hr : barsL l (Go.Proofs.YtaflflelcdcanaaGreat.blk l e) (S.length + 1) = (x, r)) : npGo l (n + 1) a S = if r ≠ 0 then (r, (x : Int), []) else npGo l n x (S ++ [cs]) := by
  conv => lhs; unfold npGo
  rw [h]
  dsimp only
  rw [Int.toNat_natCast, hr, if_neg (by simp), if_neg hb]
theorem np_bad {l : List UInt8} {n a : Nat} {S : List (List Comp)} (h : (oneSet l a).1 ≠ 0) : (npGo l (n + 1) a S).1 ≠ 0 := by
  unfold npGo
  rw [if_pos h]
  exact h
/-- A range within another one: its sets, and where the other one goes on. -/
theorem Sim.go {L M R : List UInt8} {d : Nat} (h : Sim L M d R) (hl : M.length ≤ 256) (hR : R = [] ∨ ∃ R', R = 124 :: 124 :: R') : ∀ (n n' a : Nat) (S T : List (List Comp)), a ≤ M.length → (npGo M n a S).1 = 0 → n + S.length = 33 → S.length ≤ 31 → (npGo L n' (d + a) T).1 = 0 → n' + T.length = 33 → T.length ≤ 31 →
    ∃ X, (npGo M n a S).2.2 = S ++ X ∧ ((R = [] ∧ npGo L n' (d + a) T = (0, 0, T ++ X)) ∨ (R ≠ [] ∧ ∃ m', npGo L n' (d + a) T = npGo L m' (d + M.length + 2) (T ++ X) ∧ m' + (T ++ X).length = 33 ∧ (T ++ X).length ≤ 31))
  | 0, n', a, S, T, _, _, hn, hs, _, _, _ => by omega
  | n + 1, 0, a, S, T, _, _, _, _, _, hn, hs => by omega
  | n + 1, n' + 1, a, S, T, ha, hM, hn, hs, hL, hn', hs' => by
    by_cases h1 : (oneSet M a).1 = 0
    · obtain ⟨e, h2, h3⟩ := one_place hl ha h1
      have hone := h.one ha h1
      have honeM : oneSet M a = (0, (e : Int), (oneSet M a).2.2) := by rw [← h2, ← h1]
      have honeL : oneSet L (d + a) = (0, ((d + e : Nat) : Int), (oneSet M a).2.2) := by rw [hone, h2]; simp
      generalize (oneSet M a).2.2 = cs at *
      have hbl := blk_le h3
      have hlen := h.len
      have hbk := h.blk h3
      by_cases h4 : Go.Proofs.YtaflflelcdcanaaGreat.blk M e = M.length
      · rw [np_end honeM h4]
        refine ⟨[cs], rfl, ?_⟩
        rw [h4] at hbk
        rcases hR with rfl | ⟨R', rfl⟩
        · rw [np_end honeL (by rw [hbk]; simpa using hlen.symm)]
          exact .inl ⟨rfl, rfl⟩
        · refine .inr ⟨by simp, n', ?_⟩
          have hne : ¬ Go.Proofs.YtaflflelcdcanaaGreat.blk L (d + e) = L.length := by rw [hbk, hlen]; simp
          have hb : L[d + M.length + 1]? = some 124 := by
            have : (L.drop d)[M.length + 1]? = (M ++ 124 :: 124 :: R')[M.length + 1]? := by rw [h.eq]
            rw [List.getElem?_drop, List.getElem?_append_right (by omega)] at this
            rw [Nat.add_assoc, this]
            simp
          by_cases h32 : T.length + 1 = 32
          · exfalso
            have hbb : barsL L (Go.Proofs.YtaflflelcdcanaaGreat.blk L (d + e)) (T.length + 1) = (d + M.length + 1, 12) := by rw [hbk]; unfold barsL; rw [if_pos hb, if_pos h32]
            rw [np_bars honeL hne hbb] at hL
            exact absurd hL (by simp)
          · have hbb : barsL L (Go.Proofs.YtaflflelcdcanaaGreat.blk L (d + e)) (T.length + 1) = (d + M.length + 2, 0) := by rw [hbk]; unfold barsL; rw [if_pos hb, if_neg h32]
            rw [np_bars honeL hne hbb, if_neg (by simp)]
            refine ⟨rfl, ?_, ?_⟩
            · simp; omega
            · simp; omega
      · have hne : ¬ Go.Proofs.YtaflflelcdcanaaGreat.blk L (d + e) = L.length := by omega
        obtain ⟨x, hx⟩ : ∃ x, barsL M (Go.Proofs.YtaflflelcdcanaaGreat.blk M e) (S.length + 1) = x := ⟨_, rfl⟩
        obtain ⟨x1, x2⟩ := x
        by_cases h5 : x2 = 0
        · subst h5
          have h5 : (barsL M (Go.Proofs.YtaflflelcdcanaaGreat.blk M e) (S.length + 1)).2 = 0 := by rw [hx]
          have hb : M[Go.Proofs.YtaflflelcdcanaaGreat.blk M e + 1]? = some 124 := by
            unfold barsL at h5
            split at h5
            · assumption
            · exfalso
              revert h5
              show misL _ _ = 0 → False
              unfold misL
              split <;> decide
          have hlt := (List.getElem?_eq_some_iff.1 hb).1
          have h32 : S.length + 1 ≠ 32 := (bars_ok h5).2
          have hbM : barsL M (Go.Proofs.YtaflflelcdcanaaGreat.blk M e) (S.length + 1) = (Go.Proofs.YtaflflelcdcanaaGreat.blk M e + 2, 0) := by unfold barsL; rw [if_pos hb, if_neg h32]
          have hbL : L[d + Go.Proofs.YtaflflelcdcanaaGreat.blk M e + 1]? = some 124 := by rw [Nat.add_assoc, h.get hlt]; exact hb
          by_cases h32' : T.length + 1 = 32
          · exfalso
            have hbb : barsL L (Go.Proofs.YtaflflelcdcanaaGreat.blk L (d + e)) (T.length + 1) = (d + Go.Proofs.YtaflflelcdcanaaGreat.blk M e + 1, 12) := by rw [hbk]; unfold barsL; rw [if_pos hbL, if_pos h32']
            rw [np_bars honeL hne hbb] at hL
            exact absurd hL (by simp)
          · have hbb : barsL L (Go.Proofs.YtaflflelcdcanaaGreat.blk L (d + e)) (T.length + 1) = (d + (Go.Proofs.YtaflflelcdcanaaGreat.blk M e + 2), 0) := by rw [hbk]; unfold barsL; rw [if_pos hbL, if_neg h32', Nat.add_assoc]
            rw [np_bars honeM h4 hbM, if_neg (by simp)] at hM ⊢
            rw [np_bars honeL hne hbb, if_neg (by simp)] at hL ⊢
            obtain ⟨X, q1, q2⟩ := h.go hl hR n n' (Go.Proofs.YtaflflelcdcanaaGreat.blk M e + 2) (S ++ [cs]) (T ++ [cs]) (by omega) hM (by simp; omega) (by simp; omega) hL (by simp; omega) (by simp; omega)
            refine ⟨cs :: X, by rw [q1]; simp, ?_⟩
            rw [show T ++ cs :: X = T ++ [cs] ++ X by simp]
            exact q2
        · rw [np_bars honeM h4 hx, if_pos h5] at hM
          exact absurd hM h5
    · exact absurd hM (np_bad h1)
/-- Two ranges with bars between have the sets of both. -/
theorem either_sets {a b : List UInt8} (ha : (nParse a).1 = 0) (hb : (nParse b).1 = 0) (hab : (nParse (a ++ 124 :: 124 :: b)).1 = 0) : (nParse (a ++ 124 :: 124 :: b)).2.2 = (nParse a).2.2 ++ (nParse b).2.2 := by
  unfold nParse at ha hb hab ⊢
  by_cases la : 256 < a.length
  · rw [if_pos la] at ha; exact absurd ha (by simp)
  by_cases lb : 256 < b.length
  · rw [if_pos lb] at hb; exact absurd hb (by simp)
  by_cases lab : 256 < (a ++ 124 :: 124 :: b).length
  · rw [if_pos lab] at hab; exact absurd hab (by simp)
  rw [if_neg la] at ha ⊢
  rw [if_neg lb] at hb ⊢
  rw [if_neg lab] at hab ⊢
  have s1 : Sim (a ++ 124 :: 124 :: b) a 0 (124 :: 124 :: b) := ⟨rfl, .inr rfl, Nat.zero_le _⟩
  have s2 : Sim (a ++ 124 :: 124 :: b) b (a.length + 2) [] := ⟨by rw [List.append_nil, ← List.drop_drop, List.drop_left]; rfl, .inl rfl, by simp⟩
  obtain ⟨X, q1, q2⟩ := s1.go (by omega) (.inr ⟨b, rfl⟩) 33 33 0 [] [] (Nat.zero_le _) ha rfl (by simp) hab rfl (by simp)
  rcases q2 with ⟨h, _⟩ | ⟨_, m', q3, q4, q5⟩
  · cases h
  · rw [Nat.zero_add, Nat.zero_add] at q3
    rw [q3] at hab ⊢
    obtain ⟨Y, q6, q7⟩ := s2.go (by omega) (.inl rfl) 33 m' 0 [] ([] ++ X) (Nat.zero_le _) hb rfl (by simp) hab q4 q5
    rcases q7 with ⟨_, q8⟩ | ⟨h, _⟩
    · rw [Nat.add_zero] at q8
      rw [q8, q1, q6]
      simp
    · exact absurd rfl h
theorem either_takes {a b t : List UInt8} (ha : (nParse a).1 = 0) (hb : (nParse b).1 = 0) (hab : (nParse (a ++ 124 :: 124 :: b)).1 = 0) : takesL (nParse (a ++ 124 :: 124 :: b)).2.2 t = (takesL (nParse a).2.2 t || takesL (nParse b).2.2 t) := by
  rw [either_sets ha hb hab]
  unfold takesL
  rw [List.any_append]

end Go.Proofs.YtaflflelcdcanaaGreat

namespace Go.Proofs.YtaflflelcdcanaaGreat
open Go.RowKit
set_option linter.unusedVariables false

theorem digit_open : ∀ c : UInt8, isC (c.toNat : Int) 1 = true → openB c = false ∧ c ≠ 118 ∧ isC (c.toNat : Int) 6 = false ∧ c ≠ 60 ∧ c ≠ 61 ∧ c ≠ 62 ∧ c ≠ 126 ∧ c ≠ 94 ∧ c ≠ 124 ∧ c ≠ 45 := by
  intro c h
  have hc : 48 ≤ c.toNat ∧ c.toNat ≤ 57 := by
    unfold isC at h
    simp at h
    omega
  refine ⟨?_, ?_, ?_, ?_, ?_, ?_, ?_, ?_, ?_, ?_⟩
  · unfold openB
    rw [Bool.or_eq_false_iff, Bool.or_eq_false_iff]
    refine ⟨⟨?_, ?_⟩, ?_⟩ <;> (rw [beq_eq_false_iff_ne]; rintro rfl; revert hc; decide)
  · rintro rfl; revert hc; decide
  · unfold isC
    simp
    omega
  all_goals (rintro rfl; revert hc; decide)
theorem num_head {B : List UInt8} (hB : numB B = true) : ∃ d r, B = d :: r ∧ isC (d.toNat : Int) 1 = true := by
  have hd := numB_allD hB
  have hr := run_of_allD B hd.1
  cases B with
  | nil => exact absurd rfl hd.2
  | cons d r =>
    refine ⟨d, r, rfl, ?_⟩
    unfold runL at hr
    split at hr
    · assumption
    · simp at hr
theorem np_at (A B C : List UInt8) (hB : numB B = true) (hC : ∀ c, C.head? = some c → isC (c.toNat : Int) 1 = false) : npL (A ++ B ++ C) A.length = (A.length + B.length, false, 0) := by
  have hd := numB_allD hB
  obtain ⟨d, r, hBe, hdd⟩ := num_head hB
  have hr : runL 1 ((A ++ B ++ C).drop A.length) = B.length := by
    rw [List.append_assoc, drop_app, run_stop B C (run_of_allD B hd.1) hC]
  have hg : (A ++ B ++ C)[A.length]? = some d := by
    rw [List.append_assoc, get_at, hBe]
    rfl
  have hz : zeroB B = false := by
    unfold numB at hB
    simp only [Bool.and_eq_true, Bool.not_eq_true'] at hB
    exact hB.2
  have hdg : digB B = true := by
    unfold numB at hB
    simp only [Bool.and_eq_true, Bool.not_eq_true'] at hB
    exact hB.1
  have hl : B.length ≠ 0 := fun h => hd.2 (List.length_eq_zero_iff.1 h)
  unfold npL
  rw [hg, hr, if_neg (by rw [Option.map_some, Option.getD_some, (digit_open d hdd).1]; simp), if_neg hl, if_neg]
  rintro ⟨h1, h2⟩
  have : zeroB B = true := by
    unfold zeroB
    rw [hdg, decide_eq_true h2, hBe, List.head?_cons, h1]
    rfl
  rw [this] at hz
  cases hz

/-- Bytes of Pre's text can stand in it. -/
theorem pre_id : ∀ t : List UInt8, idL t = t.length → ∀ c ∈ t, preByte c = true
  | [], _, c, hc => by cases hc
  | d :: r, h, c, hc => by
    unfold idL at h
    split at h
    · rename_i hd
      rcases List.mem_cons.1 hc with rfl | hc
      · unfold isId at hd
        unfold preByte
        rw [Bool.or_eq_true] at hd
        rcases hd with hd | hd
        · rw [beq_iff_eq.1 hd]; decide
        · rw [hd]; rfl
      · exact pre_id r (by simpa using h) c hc
    · simp at h
theorem pre_join (ts : List (List UInt8)) (h : ∀ t ∈ ts, idL t = t.length) : ∀ c ∈ joinL ts, preByte c = true := by
  intro c hc
  cases ts with
  | nil => cases hc
  | cons t r =>
    rw [joinL, List.mem_append] at hc
    rcases hc with hc | hc
    · exact pre_id t (h t List.mem_cons_self) c hc
    · unfold dotted at hc
      obtain ⟨u, hu, hc⟩ := List.mem_flatMap.1 hc
      rcases List.mem_cons.1 hc with rfl | hc
      · decide
      · exact pre_id u (h u (List.mem_cons_of_mem _ hu)) c hc
theorem pr_stop : ∀ (B C : List UInt8), (∀ c ∈ B, preByte c = true) → (∀ c, C.head? = some c → preByte c = false) → prL (B ++ C) = B.length
  | [], C, _, hC => by
    cases C with
    | nil => rfl
    | cons c r => rw [List.nil_append, prL, if_neg (by rw [hC c rfl]; simp)]; rfl
  | b :: B, C, hB, hC => by
    rw [List.cons_append, prL, if_pos (hB b List.mem_cons_self), pr_stop B C (fun c hc => hB c (List.mem_cons_of_mem _ hc)) hC]
    rfl

/-- Pre's text, read behind the numbers. -/
theorem pre_at (A C : List UInt8) (ts : List (List UInt8)) (hp : ∀ t ∈ ts, preB t = true) (hl : lenI ts ≤ 48) (hC : C = [] ∨ C.head? = some 32) :
    preR (A ++ (if ts = [] then [] else 45 :: joinL ts) ++ C) A.length = (ts, ((A.length + lenI ts : Nat) : Int), 0) := by
  by_cases hn : ts = []
  · subst hn
    have hg : (A ++ [] ++ C)[A.length]? = C.head? := by rw [List.append_nil, get_at]
    rw [if_pos rfl]
    unfold preR
    rw [hg, if_neg]
    · rfl
    · rcases hC with rfl | h
      · simp
      · rw [h]; decide
  · rw [if_neg hn]
    have hx : fitW ⟨[48], [48], [48], ts, []⟩ = true := by
      unfold fitW lenS
      rw [List.all_eq_true.2 hp]
      have : wrap64 (([48] : List UInt8).length + ([48] : List UInt8).length + ([48] : List UInt8).length + 2 + lenI ts + lenI ([] : List (List UInt8)) : Nat) ≤ 64 := by
        have h0 : lenI ([] : List (List UInt8)) = 0 := rfl
        rw [h0]
        show wrap64 ((1 + 1 + 1 + 2 + lenI ts + 0 : Nat) : Int) ≤ 64
        unfold wrap64
        omega
      rw [decide_eq_true this]
      rfl
    have hlen := textL_length ⟨[48], [48], [48], ts, []⟩
    have htx : textL ⟨[48], [48], [48], ts, []⟩ = [48, 46, 48, 46, 48] ++ 45 :: joinL ts := by
      unfold textL
      rw [if_neg hn, if_pos rfl]
      simp
    have hjl : (45 :: joinL ts).length = lenI ts := by
      rw [htx] at hlen
      have h0 : lenI ([] : List (List UInt8)) = 0 := rfl
      unfold lenS at hlen
      rw [h0] at hlen
      simp at hlen ⊢
      omega
    obtain ⟨c, hc1, hc2⟩ := text_parse ⟨[48], [48], [48], ts, []⟩ (by rw [← hlen, htx]; simp only [List.length_append, hjl]; show 5 + _ ≤ _; omega) hx
    have hpr : prL ((A ++ (45 :: joinL ts) ++ C).drop A.length) = lenI ts := by
      rw [List.append_assoc, drop_app, pr_stop, hjl]
      · intro d hd
        rcases List.mem_cons.1 hd with rfl | hd
        · decide
        · exact pre_join ts (fun t ht => (idB_parts (by have := hp t ht; unfold preB at this; rw [Bool.and_eq_true] at this; exact this.1)).1) d hd
      · intro d hd
        rcases hC with rfl | h
        · cases hd
        · rw [h] at hd
          injection hd with hd
          subst hd
          decide
    have hg : (A ++ (45 :: joinL ts) ++ C)[A.length]? = some 45 := by rw [List.append_assoc, get_at]; rfl
    have hmin : min (A.length + prL ((A ++ (45 :: joinL ts) ++ C).drop A.length)) (A.length + 48) = A.length + lenI ts := by rw [hpr]; omega
    have hT : preT (A ++ (45 :: joinL ts) ++ C) A.length (A.length + lenI ts) = textL ⟨[48], [48], [48], ts, []⟩ := by
      unfold preT
      rw [← hjl, seg_at, htx]
    have hfau : fauP (textL ⟨[48], [48], [48], ts, []⟩) = (0, 0) := by unfold fauP; rw [hc1]
    have hsem : semP (textL ⟨[48], [48], [48], ts, []⟩) = ⟨[48], [48], [48], ts, []⟩ := by unfold semP; rw [hc1]; exact hc2
    unfold preR
    rw [hmin, hT, hfau, hsem, if_pos (.inl hg), if_pos rfl]

/-- The partial of a version. -/
def partOf (x : SemL) : PartL := ⟨x.maj, x.min, x.pat, x.pre, 3⟩
theorem rp_text (A C : List UInt8) (x : SemL) (hf : fitW x = true) (hb : x.bld = []) (hl : lenS x ≤ 48) (hC : C = [] ∨ C.head? = some 32) :
    rpL (A ++ textL x ++ C) A.length = (partOf x, ((A.length + lenS x : Nat) : Int), 0) := by
  obtain ⟨h0, m1, m2, m3, h4, h5⟩ := fit_parts hf
  have hp : ∀ u ∈ x.pre, preB u = true := fun u hu => List.all_eq_true.1 h4 u hu
  have dd : ∀ D : List UInt8, ∀ c, (46 :: D).head? = some c → isC (c.toNat : Int) 1 = false := by
    intro D c hc
    simp only [List.head?_cons, Option.some.injEq] at hc
    subst hc
    decide
  obtain ⟨P, hP⟩ : ∃ P : List UInt8, P = (if x.pre = [] then [] else 45 :: joinL x.pre) := ⟨_, rfl⟩
  have tt : ∀ c, (P ++ C).head? = some c → isC (c.toNat : Int) 1 = false ∧ c ≠ 46 := by
    intro c hc
    rw [hP] at hc
    by_cases hn : x.pre = []
    · rw [if_pos hn, List.nil_append] at hc
      rcases hC with rfl | h
      · cases hc
      · rw [h] at hc
        injection hc with hc
        subst hc
        decide
    · rw [if_neg hn] at hc
      simp only [List.cons_append, List.head?_cons, Option.some.injEq] at hc
      subst hc
      decide
  have htx : textL x = x.maj ++ [46] ++ x.min ++ [46] ++ x.pat ++ P := by
    unfold textL
    rw [hb, if_pos rfl, List.append_nil, hP]
  obtain ⟨L, hL⟩ : ∃ L, L = A ++ textL x ++ C := ⟨_, rfl⟩
  have e1 : L = A ++ x.maj ++ (46 :: (x.min ++ [46] ++ x.pat ++ P ++ C)) := by rw [hL, htx]; simp
  have e2 : L = (A ++ x.maj) ++ 46 :: (x.min ++ [46] ++ x.pat ++ P ++ C) := by rw [hL, htx]; simp
  have e3 : L = (A ++ x.maj ++ [46]) ++ x.min ++ (46 :: (x.pat ++ P ++ C)) := by rw [hL, htx]; simp
  have e4 : L = (A ++ x.maj ++ [46] ++ x.min) ++ 46 :: (x.pat ++ P ++ C) := by rw [hL, htx]; simp
  have e5 : L = (A ++ x.maj ++ [46] ++ x.min ++ [46]) ++ x.pat ++ (P ++ C) := by rw [hL, htx]; simp
  have e6 : L = (A ++ x.maj ++ [46] ++ x.min ++ [46] ++ x.pat) ++ P ++ C := by rw [hL, htx]; simp
  have n1 := np_at A x.maj (46 :: (x.min ++ [46] ++ x.pat ++ P ++ C)) m1 (dd _)
  have s1 := seg_at A x.maj (46 :: (x.min ++ [46] ++ x.pat ++ P ++ C))
  rw [← e1] at n1 s1
  have d1 := get_at (A ++ x.maj) (46 :: (x.min ++ [46] ++ x.pat ++ P ++ C))
  rw [← e2] at d1
  have n2 := np_at (A ++ x.maj ++ [46]) x.min (46 :: (x.pat ++ P ++ C)) m2 (dd _)
  have s2 := seg_at (A ++ x.maj ++ [46]) x.min (46 :: (x.pat ++ P ++ C))
  rw [← e3] at n2 s2
  have d2 := get_at (A ++ x.maj ++ [46] ++ x.min) (46 :: (x.pat ++ P ++ C))
  rw [← e4] at d2
  have n3 := np_at (A ++ x.maj ++ [46] ++ x.min ++ [46]) x.pat (P ++ C) m3 (fun c hc => (tt c hc).1)
  have s3 := seg_at (A ++ x.maj ++ [46] ++ x.min ++ [46]) x.pat (P ++ C)
  rw [← e5] at n3 s3
  have hlp : lenI x.pre ≤ 48 := by unfold lenS at hl; omega
  have p1 := pre_at (A ++ x.maj ++ [46] ++ x.min ++ [46] ++ x.pat) C x.pre hp hlp hC
  rw [← hP, ← e6] at p1
  have k1 : (A ++ x.maj).length = A.length + x.maj.length := by simp
  have k2 : (A ++ x.maj ++ [46]).length = A.length + x.maj.length + 1 := by simp; omega
  have k3 : (A ++ x.maj ++ [46] ++ x.min).length = A.length + x.maj.length + 1 + x.min.length := by simp; omega
  have k4 : (A ++ x.maj ++ [46] ++ x.min ++ [46]).length = A.length + x.maj.length + 1 + x.min.length + 1 := by simp; omega
  have k5 : (A ++ x.maj ++ [46] ++ x.min ++ [46] ++ x.pat).length = A.length + x.maj.length + 1 + x.min.length + 1 + x.pat.length := by simp; omega
  rw [k1] at d1
  rw [k2] at n2 s2
  rw [k3] at d2
  rw [k4] at n3 s3
  rw [k5] at p1
  have hlb : lenI x.bld = 0 := by rw [hb]; rfl
  have hend : A.length + x.maj.length + 1 + x.min.length + 1 + x.pat.length + lenI x.pre = A.length + lenS x := by unfold lenS; omega
  rw [hend] at p1
  have hv : vL L A.length = A.length := by
    unfold vL
    obtain ⟨d, r, hm, hd⟩ := num_head m1
    have : L[A.length]? = some d := by rw [e1, List.append_assoc, get_at, hm]; rfl
    rw [this, if_neg]
    intro h
    injection h with h
    exact (digit_open d hd).2.1 h
  have hrn : rnGo L 2 0 A.length [] = .ok ([(A.length, A.length + x.maj.length), (A.length + x.maj.length + 1, A.length + x.maj.length + 1 + x.min.length), (A.length + x.maj.length + 1 + x.min.length + 1, A.length + x.maj.length + 1 + x.min.length + 1 + x.pat.length)], A.length + x.maj.length + 1 + x.min.length + 1 + x.pat.length) := by
    rw [rn_go n1 d1, rn_go n2 d2, rn_last n3]
    rfl
  have hz : L.length = A.length + lenS x + C.length := by rw [hL, List.length_append, List.length_append, textL_length]
  have hge : L[A.length + lenS x]? = C.head? := by
    have h1 : (A ++ textL x).length = A.length + lenS x := by rw [List.length_append, textL_length]
    have := get_at (A ++ textL x) C
    rw [h1] at this
    rw [hL]
    exact this
  rw [← hL]
  unfold rpL
  rw [hv, hrn]
  simp only
  rw [if_pos (by rfl), p1]
  unfold endP
  simp only
  rw [if_neg (by omega), if_neg]
  · unfold segT partOf
    simp only [List.getElem?_cons_zero, List.getElem?_cons_succ]
    rw [s1, s2, s3]
  · rintro ⟨_, h2, h3⟩
    have ht : (((A.length + lenS x : Nat) : Int)).toNat = A.length + lenS x := by omega
    rw [ht, hge] at h3
    rcases hC with rfl | h
    · simp at h3
    · rw [h] at h3
      revert h3
      decide

end Go.Proofs.YtaflflelcdcanaaGreat

namespace Go.Proofs.YtaflflelcdcanaaGreat
open Go.RowKit
set_option linter.unusedVariables false

/-- The function that says what a comparator's sign means. -/
def fnOf (op : Int) : Nat := if op = 1 then 161 else if op = 2 then 87 else if op = 3 then 162 else if op = 4 then 85 else 160
/-- The sign of a comparator. -/
def sgn (op : Int) : List UInt8 := (signL op).1.data.toList
theorem sign_cases {op : Int} (h : (signL op).2 = true) : (op = 1 ∧ sgn op = [60]) ∨ (op = 2 ∧ sgn op = [60, 61]) ∨ (op = 3 ∧ sgn op = [62]) ∨ (op = 4 ∧ sgn op = [62, 61]) ∨ (op = 5 ∧ sgn op = []) := by
  unfold signL at h
  split at h
  · rename_i h1; subst h1; exact .inl ⟨rfl, rfl⟩
  · split at h
    · rename_i h1; subst h1; exact .inr (.inl ⟨rfl, rfl⟩)
    · split at h
      · rename_i h1; subst h1; exact .inr (.inr (.inl ⟨rfl, rfl⟩))
      · split at h
        · rename_i h1; subst h1; exact .inr (.inr (.inr (.inl ⟨rfl, rfl⟩)))
        · split at h
          · rename_i h1; subst h1; exact .inr (.inr (.inr (.inr ⟨rfl, rfl⟩)))
          · cases h
theorem hasP_nil (l : List UInt8) : hasP l [] = true := by unfold hasP; simp
theorem hasP_cons (a b : UInt8) (l x : List UInt8) : hasP (a :: l) (b :: x) = ((a == b) && hasP l x) := by
  unfold hasP
  rw [List.length_cons, List.take_succ_cons]
  rfl
theorem op_sign {op : Int} (h : (signL op).2 = true) (d : UInt8) (r : List UInt8) (hd : isC (d.toNat : Int) 1 = true) : opGo (sgn op ++ d :: r) 9 = (sgn op, fnOf op) := by
  obtain ⟨_, _, _, d1, d2, d3, d4, d5, _, _⟩ := digit_open d hd
  have e1 : (d == 60) = false := beq_eq_false_iff_ne.2 d1
  have e2 : (d == 61) = false := beq_eq_false_iff_ne.2 d2
  have e3 : (d == 62) = false := beq_eq_false_iff_ne.2 d3
  have e4 : (d == 126) = false := beq_eq_false_iff_ne.2 d4
  have e5 : (d == 94) = false := beq_eq_false_iff_ne.2 d5
  rcases sign_cases h with ⟨rfl, hs⟩ | ⟨rfl, hs⟩ | ⟨rfl, hs⟩ | ⟨rfl, hs⟩ | ⟨rfl, hs⟩ <;> rw [hs] <;>
    simp [opGo, ops9, opStep, hasP_nil, hasP_cons, fnOf, e1, e2, e3, e4, e5]
theorem text_head (x : SemL) (hf : fitW x = true) : ∃ d r, textL x = d :: r ∧ isC (d.toNat : Int) 1 = true := by
  obtain ⟨_, m1, _⟩ := fit_parts hf
  obtain ⟨d, r, hm, hd⟩ := num_head m1
  exact ⟨d, _, by rw [textL_tail, hm]; rfl, hd⟩
theorem blk_none (A C : List UInt8) (h : ∀ c, C.head? = some c → isC (c.toNat : Int) 6 = false) : blk (A ++ C) A.length = A.length := by
  unfold blk
  rw [drop_app]
  cases C with
  | nil => rfl
  | cons c r => rw [runL, if_neg (by rw [h c rfl]; simp)]; rfl
theorem blk_one (A C : List UInt8) (h : ∀ c, C.head? = some c → isC (c.toNat : Int) 6 = false) : blk (A ++ 32 :: C) A.length = A.length + 1 := by
  unfold blk
  rw [drop_app, runL, if_pos (by decide)]
  cases C with
  | nil => rfl
  | cons c r => rw [runL, if_neg (by rw [h c rfl]; simp)]
theorem ok_parts {c : Comp} (h : okT1 c = true) : (signL c.1).2 = true ∧ fitW c.2 = true ∧ c.2.bld = [] := by
  unfold okT1 at h
  simp only [Bool.and_eq_true, decide_eq_true_eq] at h
  exact ⟨h.1.1, h.1.2, List.length_eq_zero_iff.1 h.2⟩
theorem compT_eq {c : Comp} (h : okT1 c = true) : compT c = sgn c.1 ++ textL c.2 := by
  unfold compT fmtL
  rw [if_pos (ok_parts h).2.1]
  rfl
/-- A comparator's text begins with a sign or a digit. -/
theorem comp_head {c : Comp} (h : okT1 c = true) : ∃ d r, compT c = d :: r ∧ isC (d.toNat : Int) 6 = false ∧ d ≠ 45 ∧ d ≠ 124 := by
  rw [compT_eq h]
  obtain ⟨d, r, hx, hd⟩ := text_head c.2 (ok_parts h).2.1
  rcases sign_cases (ok_parts h).1 with ⟨_, hs⟩ | ⟨_, hs⟩ | ⟨_, hs⟩ | ⟨_, hs⟩ | ⟨_, hs⟩
  · exact ⟨60, _, by rw [hs]; rfl, by decide, by decide, by decide⟩
  · exact ⟨60, _, by rw [hs]; rfl, by decide, by decide, by decide⟩
  · exact ⟨62, _, by rw [hs]; rfl, by decide, by decide, by decide⟩
  · exact ⟨62, _, by rw [hs]; rfl, by decide, by decide, by decide⟩
  · obtain ⟨_, _, h6, _, _, _, _, _, h124, h45⟩ := digit_open d hd
    exact ⟨d, r, by rw [hs, hx]; rfl, h6, h45, h124⟩
theorem mean_text {c : Comp} (h : okT1 c = true) : meanL (fnOf c.1) (partOf c.2) = [c] := by
  obtain ⟨h1, _, h3⟩ := ok_parts h
  obtain ⟨op, x⟩ := c
  have hx : begL (partOf x) = x := by
    obtain ⟨a, b, c, d, e⟩ := x
    dsimp only at h3
    subst h3
    rfl
  rcases sign_cases h1 with ⟨ho, _⟩ | ⟨ho, _⟩ | ⟨ho, _⟩ | ⟨ho, _⟩ | ⟨ho, _⟩ <;> (dsimp only at ho; subst ho)
  · show [((1 : Int), begL (partOf x))] = _
    rw [hx]
  · show [((2 : Int), begL (partOf x))] = _
    rw [hx]
  · show [((3 : Int), begL (partOf x))] = _
    rw [hx]
  · show [((4 : Int), begL (partOf x))] = _
    rw [hx]
  · show [((5 : Int), begL (partOf x))] = _
    rw [hx]
theorem item_text (A C : List UInt8) {c : Comp} (h : okT1 c = true) (hl : lenS c.2 ≤ 48) (hC : C = [] ∨ C.head? = some 32) :
    itemL (A ++ compT c ++ C) A.length = ⟨partOf c.2, fnOf c.1, 0, ((A.length + (compT c).length : Nat) : Int)⟩ := by
  obtain ⟨h1, h2, h3⟩ := ok_parts h
  obtain ⟨d, r, hx, hd⟩ := text_head c.2 h2
  have hop : opL (A ++ compT c ++ C) A.length = (sgn c.1, fnOf c.1) := by
    unfold opL
    rw [List.append_assoc, drop_app, compT_eq h, hx, List.append_assoc, List.cons_append]
    exact op_sign h1 d _ hd
  have hE : opE (A ++ compT c ++ C) A.length = A.length + (sgn c.1).length := by
    unfold opE
    rw [hop]
    have := blk_none (A ++ sgn c.1) (textL c.2 ++ C) (by
      intro e he
      rw [hx, List.cons_append, List.head?_cons] at he
      injection he with he
      subst he
      exact (digit_open d hd).2.2.1)
    rw [List.length_append] at this
    rw [compT_eq h, show A ++ (sgn c.1 ++ textL c.2) ++ C = A ++ sgn c.1 ++ (textL c.2 ++ C) by simp]
    exact this
  have hr := rp_text (A ++ sgn c.1) C c.2 h2 h3 hl hC
  have hq : A ++ sgn c.1 ++ textL c.2 ++ C = A ++ compT c ++ C := by rw [compT_eq h]; simp
  rw [hq, List.length_append] at hr
  unfold itemL
  rw [hE, hop, hr]
  have : A.length + (sgn c.1).length + lenS c.2 = A.length + (compT c).length := by
    rw [compT_eq h, List.length_append, textL_length]
    omega
  rw [this]

end Go.Proofs.YtaflflelcdcanaaGreat

namespace Go.Proofs.YtaflflelcdcanaaGreat
open Go.RowKit
set_option linter.unusedVariables false

/-- What stands behind a set's text: nothing, or a blank and bars. -/
def Beh (C : List UInt8) : Prop := C = [] ∨ ∃ r, C = 32 :: 124 :: r
theorem Beh.head {C : List UInt8} (h : Beh C) : C = [] ∨ C.head? = some 32 := by
  rcases h with rfl | ⟨r, rfl⟩
  · exact .inl rfl
  · exact .inr rfl
/-- Behind it the set ends. -/
theorem Beh.ends {C : List UInt8} (h : Beh C) (A : List UInt8) : endsL (A ++ C) (blk (A ++ C) A.length) = true ∧ (A ++ C)[blk (A ++ C) A.length]? ≠ some 45 := by
  rcases h with rfl | ⟨r, rfl⟩
  · rw [blk_none A [] (by intro c hc; cases hc)]
    refine ⟨?_, ?_⟩
    · unfold endsL
      rw [decide_eq_true (by simp)]
      rfl
    · rw [get_at]
      simp
  · rw [blk_one A (124 :: r) (by intro c hc; injection hc with hc; subst hc; decide)]
    have : (A ++ 32 :: 124 :: r)[A.length + 1]? = some 124 := by
      rw [List.getElem?_append_right (by omega), show A.length + 1 - A.length = 1 by omega]
      rfl
    refine ⟨?_, ?_⟩
    · unfold endsL
      rw [this]
      simp
    · rw [this]
      decide
theorem not_ends (A B : List UInt8) (d : UInt8) (hd : d ≠ 124) : endsL (A ++ d :: B) A.length = false := by
  unfold endsL
  rw [get_at]
  simp [hd]
/-- The texts of a set, one after another. -/
theorem row_text (C : List UInt8) (hC : Beh C) : ∀ (cs : List Comp) (c : Comp) (A : List UInt8) (n k : Nat) (a : Int) (D : List Comp), (∀ x ∈ c :: cs, okT1 x = true ∧ lenS x.2 ≤ 48) → cs.length + 2 ≤ n → k + cs.length + 1 ≤ 32 →
    foldI a D (rowG (A ++ Lib.join ((c :: cs).map compT) [32] ++ C) n k A.length) = (0, ((A.length + (Lib.join ((c :: cs).map compT) [32]).length : Nat) : Int), D ++ (c :: cs))
  | [], c, A, n, k, a, D, h, hn, hk => by
    obtain ⟨hok, hl⟩ := h c List.mem_cons_self
    obtain ⟨m, rfl⟩ : ∃ m, n = m + 2 := ⟨n - 2, by simp at hn; omega⟩
    rw [List.map_cons, List.map_nil, Lib.join_one]
    obtain ⟨d, r, hc, h6, h45, h124⟩ := comp_head hok
    have hi := item_text A C hok hl hC.head
    have he : endsL (A ++ compT c ++ C) A.length = false := by
      rw [hc, List.append_assoc, List.cons_append]
      exact not_ends A _ d h124
    have hb := (hC.ends (A ++ compT c)).1
    rw [List.length_append] at hb
    rw [rowG_go he (by simp at hk; omega) (by rw [hi]), hi]
    dsimp only
    rw [Int.toNat_natCast, rowG_end hb]
    unfold foldI foldI
    dsimp only
    rw [if_neg (by simp), mean_text hok]
  | c2 :: cs, c, A, n, k, a, D, h, hn, hk => by
    obtain ⟨hok, hl⟩ := h c List.mem_cons_self
    obtain ⟨hok2, hl2⟩ := h c2 (List.mem_cons_of_mem _ List.mem_cons_self)
    obtain ⟨m, rfl⟩ : ∃ m, n = m + 1 := ⟨n - 1, by simp at hn; omega⟩
    have hj : Lib.join ((c :: c2 :: cs).map compT) [32] = compT c ++ 32 :: Lib.join ((c2 :: cs).map compT) [32] := by
      rw [List.map_cons, List.map_cons]
      unfold Lib.join
      simp only [List.intercalate]
      rw [List.intersperse_cons_cons, List.flatten_cons, List.flatten_cons]
      rfl
    obtain ⟨T, hT⟩ : ∃ T, T = Lib.join ((c2 :: cs).map compT) [32] := ⟨_, rfl⟩
    obtain ⟨d, r, hc, h6, h45, h124⟩ := comp_head hok
    obtain ⟨d2, r2, hc2, h62, _, _⟩ := comp_head hok2
    have hTh : ∃ r3, T = d2 :: r3 := by
      rw [hT, List.map_cons, Lib.join_cons, hc2]
      exact ⟨_, rfl⟩
    obtain ⟨r3, hT3⟩ := hTh
    have hi := item_text A (32 :: (T ++ C)) hok hl (.inr rfl)
    have e1 : A ++ Lib.join ((c :: c2 :: cs).map compT) [32] ++ C = A ++ compT c ++ 32 :: (T ++ C) := by rw [hj, ← hT]; simp
    have e2 : A ++ compT c ++ 32 :: (T ++ C) = (A ++ compT c ++ [32]) ++ Lib.join ((c2 :: cs).map compT) [32] ++ C := by rw [hT]; simp
    have he : endsL (A ++ compT c ++ 32 :: (T ++ C)) A.length = false := by
      rw [hc, List.append_assoc, List.cons_append]
      exact not_ends A _ d h124
    have hb := blk_one (A ++ compT c) (T ++ C) (by
      intro x hx
      rw [hT3, List.cons_append, List.head?_cons] at hx
      injection hx with hx
      subst hx
      exact h62)
    rw [List.length_append] at hb
    have hA' : A.length + (compT c).length + 1 = (A ++ compT c ++ [32]).length := by simp; omega
    rw [e1, rowG_go he (by simp at hk; omega) (by rw [hi]), hi]
    dsimp only
    rw [Int.toNat_natCast, hb, foldI]
    dsimp only
    rw [if_neg (by simp), mean_text hok, hA', e2, row_text C hC cs c2 (A ++ compT c ++ [32]) m (k + 1) _ _ (fun x hx => h x (List.mem_cons_of_mem _ hx)) (by simp at hn ⊢; omega) (by simp at hk; omega)]
    rw [hj, ← hT, List.append_assoc D]
    congr 2
    have : (A ++ compT c ++ [32]).length + T.length = A.length + (compT c ++ 32 :: T).length := by simp; omega
    rw [this]

/-- No from-to begins with a comparator's text. -/
theorem no_from (C : List UInt8) (hC : Beh C) (cs : List Comp) (c : Comp) (A : List UInt8) (h : ∀ x ∈ c :: cs, okT1 x = true ∧ lenS x.2 ≤ 48) :
    isFrom (A ++ Lib.join ((c :: cs).map compT) [32] ++ C) (rpL (A ++ Lib.join ((c :: cs).map compT) [32] ++ C) A.length) = false := by
  obtain ⟨hok, hl⟩ := h c List.mem_cons_self
  obtain ⟨E, hE, hEh, hEn⟩ : ∃ E, A ++ Lib.join ((c :: cs).map compT) [32] ++ C = A ++ compT c ++ E ∧ (E = [] ∨ E.head? = some 32) ∧ (A ++ compT c ++ E)[blk (A ++ compT c ++ E) (A ++ compT c).length]? ≠ some 45 := by
    cases cs with
    | nil =>
      refine ⟨C, by rw [List.map_cons, List.map_nil, Lib.join_one], hC.head, (hC.ends (A ++ compT c)).2⟩
    | cons c2 cs =>
      obtain ⟨hok2, hl2⟩ := h c2 (List.mem_cons_of_mem _ List.mem_cons_self)
      obtain ⟨d2, r2, hc2, h62, h45, _⟩ := comp_head hok2
      have hj : Lib.join ((c :: c2 :: cs).map compT) [32] = compT c ++ 32 :: Lib.join ((c2 :: cs).map compT) [32] := by
        rw [List.map_cons, List.map_cons]
        unfold Lib.join
        simp only [List.intercalate]
        rw [List.intersperse_cons_cons, List.flatten_cons, List.flatten_cons]
        rfl
      obtain ⟨r3, hT3⟩ : ∃ r3, Lib.join ((c2 :: cs).map compT) [32] = d2 :: r3 := by
        rw [List.map_cons, Lib.join_cons, hc2]
        exact ⟨_, rfl⟩
      refine ⟨32 :: (d2 :: r3 ++ C), by rw [hj, hT3]; simp, .inr rfl, ?_⟩
      rw [blk_one (A ++ compT c) (d2 :: r3 ++ C) (by intro x hx; injection hx with hx; subst hx; exact h62)]
      rw [List.getElem?_append_right (by omega), show (A ++ compT c).length + 1 - (A ++ compT c).length = 1 by omega]
      show some d2 ≠ some 45
      intro h
      injection h with h
      exact h45 h
  rw [hE]
  obtain ⟨h1, h2, h3⟩ := ok_parts hok
  unfold isFrom
  rw [Bool.and_eq_false_iff]
  by_cases h5 : sgn c.1 = []
  · right
    have hr := rp_text A E c.2 h2 h3 hl hEh
    have hq : textL c.2 = compT c := by rw [compT_eq hok, h5]; rfl
    rw [hq] at hr
    rw [hr]
    dsimp only
    have hz : A.length + lenS c.2 = (A ++ compT c).length := by rw [List.length_append, ← hq, textL_length]
    rw [Int.toNat_natCast, hz, decide_eq_false hEn]
  · left
    obtain ⟨d, r, hs, hd⟩ : ∃ d r, sgn c.1 = d :: r ∧ (d = 60 ∨ d = 62) := by
      rcases sign_cases h1 with ⟨_, hs⟩ | ⟨_, hs⟩ | ⟨_, hs⟩ | ⟨_, hs⟩ | ⟨_, hs⟩
      · exact ⟨_, _, hs, .inl rfl⟩
      · exact ⟨_, _, hs, .inl rfl⟩
      · exact ⟨_, _, hs, .inr rfl⟩
      · exact ⟨_, _, hs, .inr rfl⟩
      · exact absurd hs h5
    obtain ⟨r4, hL⟩ : ∃ r4, A ++ compT c ++ E = A ++ d :: r4 := by
      rw [compT_eq hok, hs]
      exact ⟨r ++ textL c.2 ++ E, by simp⟩
    rw [hL]
    have hg := get_at A (d :: r4)
    rw [List.head?_cons] at hg
    have hv : vL (A ++ d :: r4) A.length = A.length := by
      unfold vL
      rw [hg, if_neg]
      intro h
      injection h with h
      rcases hd with rfl | rfl <;> revert h <;> decide
    have hn : npL (A ++ d :: r4) A.length = (A.length, false, misL (A ++ d :: r4).length A.length) := by
      unfold npL
      rw [hg, drop_app, if_neg (by rcases hd with rfl | rfl <;> decide), if_pos]
      rw [runL, if_neg (by rcases hd with rfl | rfl <;> decide)]
    have hm : misL (A ++ d :: r4).length A.length ≠ 0 := by unfold misL; split <;> decide
    unfold rpL
    rw [hv, rn_bad hn hm]
    exact decide_eq_false (endP_err hm)

/-- A set's text, behind a blank or none, is read as the set. -/
theorem set_text (C : List UInt8) (hC : Beh C) (cs : List Comp) (A B : List UInt8) (hB : B = [] ∨ B = [32]) (h : ∀ x ∈ cs, okT1 x = true ∧ lenS x.2 ≤ 48) (hn : cs.length ≤ 32) :
    oneSet (A ++ B ++ (setT cs).1 ++ C) A.length = (0, ((A ++ B ++ (setT cs).1).length : Int), cs) := by
  cases cs with
  | nil =>
    have hs : (setT []).1 = [42] := rfl
    rw [hs]
    have hb : blk (A ++ B ++ [42] ++ C) A.length = (A ++ B).length := by
      rcases hB with rfl | rfl
      · have := blk_none A ([42] ++ C) (by intro x hx; injection hx with hx; subst hx; decide)
        rw [show A ++ [] ++ [42] ++ C = A ++ ([42] ++ C) by simp, this]
        simp
      · have := blk_one A ([42] ++ C) (by intro x hx; injection hx with hx; subst hx; decide)
        rw [show A ++ [32] ++ [42] ++ C = A ++ 32 :: ([42] ++ C) by simp, this]
        simp
    obtain ⟨M, hM⟩ : ∃ M, M = A ++ B := ⟨_, rfl⟩
    rw [← hM] at hb ⊢
    have hg : (M ++ [42] ++ C)[M.length]? = some 42 := by rw [List.append_assoc, get_at]; rfl
    have hg1 : (M ++ [42] ++ C)[M.length + 1]? = C.head? := by
      have := get_at (M ++ [42]) C
      rw [List.length_append] at this
      exact this
    have hh := hC.head
    have hv : vL (M ++ [42] ++ C) M.length = M.length := by
      unfold vL
      rw [hg, if_neg (by decide)]
    have hnp : npL (M ++ [42] ++ C) M.length = (M.length + 1, true, 0) := by
      unfold npL
      rw [hg, if_pos (by decide)]
    have hd : ¬ (M ++ [42] ++ C)[M.length + 1]? = some 46 := by
      rw [hg1]
      rcases hh with rfl | hh
      · simp
      · rw [hh]; decide
    have hrn := rn_stop hnp hd 1 0 []
    have hrp : rpL (M ++ [42] ++ C) M.length = (⟨[48], [48], [48], [], 0⟩, ((M.length + 1 : Nat) : Int), 0) := by
      unfold rpL
      rw [hv, hrn]
      have ha : addS [] 0 true M.length (M.length + 1) = [] := rfl
      rw [ha]
      dsimp only
      rw [if_neg (by simp)]
      unfold endP
      rw [if_neg (by omega), if_neg]
      · rfl
      · rintro ⟨_, _, h3⟩
        rw [Int.toNat_natCast, hg1] at h3
        rcases hh with rfl | hh
        · simp at h3
        · rw [hh] at h3
          revert h3
          decide
    have hen := hC.ends (M ++ [42])
    rw [List.length_append, show ([42] : List UInt8).length = 1 from rfl] at hen
    have hfr : isFrom (M ++ [42] ++ C) (rpL (M ++ [42] ++ C) M.length) = false := by
      rw [hrp]
      unfold isFrom
      dsimp only
      rw [Int.toNat_natCast, decide_eq_false hen.2, Bool.and_false]
    have hop : opL (M ++ [42] ++ C) M.length = ([], 160) := by
      unfold opL
      rw [List.append_assoc, drop_app, List.cons_append]
      simp [opGo, ops9, opStep, hasP_nil, hasP_cons]
    have hE : opE (M ++ [42] ++ C) M.length = M.length := by
      unfold opE
      rw [hop]
      have := blk_none M ([42] ++ C) (by intro x hx; injection hx with hx; subst hx; decide)
      rw [← List.append_assoc] at this
      exact this
    have hi : itemL (M ++ [42] ++ C) M.length = ⟨⟨[48], [48], [48], [], 0⟩, 160, 0, ((M.length + 1 : Nat) : Int)⟩ := by
      unfold itemL
      rw [hE, hop, hrp]
    have he : endsL (M ++ [42] ++ C) M.length = false := by
      rw [List.append_assoc, List.cons_append]
      exact not_ends M _ 42 (by decide)
    unfold oneSet partsL headL
    rw [hb, hfr, if_neg (by simp)]
    unfold rowL
    rw [rowG_go he (by decide) (by rw [hi]), hi]
    dsimp only
    rw [Int.toNat_natCast, rowG_end hen.1]
    unfold foldI foldI
    dsimp only
    rw [if_neg (by simp), List.length_append]
    rfl
  | cons c cs =>
    have hall : (c :: cs).all okT1 = true := List.all_eq_true.2 (fun x hx => (h x hx).1)
    have hs : (setT (c :: cs)).1 = Lib.join ((c :: cs).map compT) [32] := by
      unfold setT
      rw [if_neg (by simp), if_pos hall]
    rw [hs]
    obtain ⟨hok, hl⟩ := h c List.mem_cons_self
    obtain ⟨d, r, hc, h6, _, _⟩ := comp_head hok
    obtain ⟨r3, hT3⟩ : ∃ r3, Lib.join ((c :: cs).map compT) [32] = d :: r3 := by
      rw [List.map_cons, Lib.join_cons, hc]
      exact ⟨_, rfl⟩
    have hb : blk (A ++ B ++ Lib.join ((c :: cs).map compT) [32] ++ C) A.length = (A ++ B).length := by
      rw [hT3]
      rcases hB with rfl | rfl
      · have := blk_none A (d :: r3 ++ C) (by intro x hx; injection hx with hx; subst hx; exact h6)
        rw [show A ++ [] ++ (d :: r3) ++ C = A ++ (d :: r3 ++ C) by simp, this]
        simp
      · have := blk_one A (d :: r3 ++ C) (by intro x hx; injection hx with hx; subst hx; exact h6)
        rw [show A ++ [32] ++ (d :: r3) ++ C = A ++ 32 :: (d :: r3 ++ C) by simp, this]
        simp
    unfold oneSet partsL headL
    rw [hb, no_from C hC cs c (A ++ B) h, if_neg (by simp)]
    unfold rowL
    rw [row_text C hC cs c (A ++ B) 33 0 _ [] h (by simp at hn; omega) (by simp at hn; omega)]
    have hz : (A ++ B ++ Lib.join ((c :: cs).map compT) [32]).length = (A ++ B).length + (Lib.join ((c :: cs).map compT) [32]).length := List.length_append
    rw [hz]
    rfl

end Go.Proofs.YtaflflelcdcanaaGreat

namespace Go.Proofs.YtaflflelcdcanaaGreat
open Go.RowKit
set_option linter.unusedVariables false

/-- Sets with bars between, read. -/
theorem sets_text : ∀ (l : List (List Comp)) (cs : List Comp) (A B : List UInt8) (n : Nat) (S : List (List Comp)), (B = [] ∨ B = [32]) → (∀ ds ∈ cs :: l, ds.length ≤ 32 ∧ ∀ x ∈ ds, okT1 x = true ∧ lenS x.2 ≤ 48) → l.length + 1 ≤ n → S.length + l.length + 1 ≤ 32 →
    npGo (A ++ B ++ Lib.join ((cs :: l).map (fun ds => (setT ds).1)) [32, 124, 124, 32]) n A.length S = (0, 0, S ++ cs :: l)
  | [], cs, A, B, n, S, hB, h, hn, hk => by
    obtain ⟨m, rfl⟩ : ∃ m, n = m + 1 := ⟨n - 1, by simp at hn; omega⟩
    rw [List.map_cons, List.map_nil, Lib.join_one]
    obtain ⟨h1, h2⟩ := h cs List.mem_cons_self
    have ho := set_text [] (.inl rfl) cs A B hB h2 h1
    rw [List.append_nil] at ho
    refine np_end ho ?_
    have := blk_none (A ++ B ++ (setT cs).1) [] (by intro c hc; cases hc)
    rw [List.append_nil] at this
    exact this
  | c2 :: l, cs, A, B, n, S, hB, h, hn, hk => by
    obtain ⟨m, rfl⟩ : ∃ m, n = m + 1 := ⟨n - 1, by simp at hn; omega⟩
    obtain ⟨h1, h2⟩ := h cs List.mem_cons_self
    have hj : Lib.join ((cs :: c2 :: l).map (fun ds => (setT ds).1)) [32, 124, 124, 32] = (setT cs).1 ++ 32 :: 124 :: 124 :: 32 :: Lib.join ((c2 :: l).map (fun ds => (setT ds).1)) [32, 124, 124, 32] := by
      rw [List.map_cons, List.map_cons]
      unfold Lib.join
      simp only [List.intercalate]
      rw [List.intersperse_cons_cons, List.flatten_cons, List.flatten_cons]
      rfl
    obtain ⟨T, hT⟩ : ∃ T, T = Lib.join ((c2 :: l).map (fun ds => (setT ds).1)) [32, 124, 124, 32] := ⟨_, rfl⟩
    obtain ⟨M, hM⟩ : ∃ M, M = A ++ B ++ (setT cs).1 := ⟨_, rfl⟩
    have ho := set_text (32 :: 124 :: 124 :: 32 :: T) (.inr ⟨_, rfl⟩) cs A B hB h2 h1
    have e1 : A ++ B ++ Lib.join ((cs :: c2 :: l).map (fun ds => (setT ds).1)) [32, 124, 124, 32] = M ++ 32 :: 124 :: 124 :: 32 :: T := by rw [hj, ← hT, hM]; simp
    have e2 : M ++ 32 :: 124 :: 124 :: 32 :: T = (M ++ [32, 124, 124]) ++ [32] ++ Lib.join ((c2 :: l).map (fun ds => (setT ds).1)) [32, 124, 124, 32] := by rw [hT]; simp
    rw [← hM] at ho
    have hb := blk_one M (124 :: 124 :: 32 :: T) (by intro c hc; injection hc with hc; subst hc; decide)
    have hg : (M ++ 32 :: 124 :: 124 :: 32 :: T)[M.length + 1 + 1]? = some 124 := by
      rw [List.getElem?_append_right (by omega), show M.length + 1 + 1 - M.length = 2 by omega]
      rfl
    have hbar : barsL (M ++ 32 :: 124 :: 124 :: 32 :: T) (M.length + 1) (S.length + 1) = (M.length + 1 + 2, 0) := by
      unfold barsL
      rw [if_pos hg, if_neg (by simp at hk; omega)]
    have hA' : M.length + 1 + 2 = (M ++ [32, 124, 124]).length := by simp
    have hnp := np_bars (n := m) (x := M.length + 1 + 2) (r := 0) ho (by rw [hb]; simp) (by rw [hb]; exact hbar)
    rw [if_neg (by simp)] at hnp
    rw [e1, hnp, hA', e2,
      sets_text l c2 (M ++ [32, 124, 124]) [32] m (S ++ [cs]) (.inr rfl) (fun x hx => h x (List.mem_cons_of_mem _ hx)) (by simp at hn; omega) (by simp at hk ⊢; omega), List.append_assoc]
    rfl
/-- A range's text, read back. -/
theorem parse_back (l : List (List Comp)) (hn : l ≠ []) (hl : l.length ≤ 32) (h : ∀ ds ∈ l, ds.length ≤ 32 ∧ ∀ x ∈ ds, okT1 x = true ∧ lenS x.2 ≤ 48) (ht : (fmtSets l).length ≤ 256) : nParse (fmtSets l) = (0, 0, l) := by
  have hall : l.all (fun cs => (setT cs).2) = true := by
    rw [List.all_eq_true]
    intro cs hc
    unfold setT
    split
    · rfl
    · rw [if_pos (List.all_eq_true.2 (fun x hx => ((h cs hc).2 x hx).1))]
  unfold nParse
  rw [if_neg (by omega)]
  unfold fmtSets
  rw [if_pos hall]
  cases l with
  | nil => exact absurd rfl hn
  | cons cs l =>
    have := sets_text l cs [] [] 33 [] (.inl rfl) h (by simp at hl ⊢; omega) (by simp at hl ⊢; omega)
    simpa using this

/-- The widths of the numbers that are told. -/
def Wt (sg : List (Nat × Nat)) : Nat := (sg.map (fun x => x.2 - x.1)).sum
theorem np_num {l : List UInt8} {a : Nat} (h : (npL l a).2.2 = 0) : a < (npL l a).1 ∧ ((npL l a).2.1 = false → numB (seg l a (npL l a).1) = true) := by
  unfold npL at h ⊢
  split
  · exact ⟨by simp, by simp⟩
  · rename_i h1
    rw [if_neg h1] at h
    split
    · rename_i h2
      rw [if_pos h2] at h
      exact absurd h (by show misL l.length a ≠ 0; unfold misL; split <;> decide)
    · rename_i h2
      rw [if_neg h2] at h
      split
      · rename_i h3
        rw [if_pos h3] at h
        cases h
      · rename_i h3
        dsimp only
        refine ⟨by omega, fun _ => ?_⟩
        have hz : zeroB (seg l a (a + runL 1 (l.drop a))) = false := by
          rw [Bool.eq_false_iff]
          intro hz
          unfold zeroB at hz
          simp only [Bool.and_eq_true, decide_eq_true_eq, beq_iff_eq] at hz
          apply h3
          have hh : (seg l a (a + runL 1 (l.drop a))).head? = l[a]? := by
            unfold seg
            rw [List.head?_drop, List.getElem?_take, if_pos (by omega)]
          have hlen : (seg l a (a + runL 1 (l.drop a))).length ≤ runL 1 (l.drop a) := by
            unfold seg
            rw [List.length_drop, List.length_take]
            omega
          rw [hh] at hz
          exact ⟨hz.1.2, by omega⟩
        have : numR l a = .ok (a + runL 1 (l.drop a)) := by
          unfold numR
          rw [if_neg h2, hz, if_neg (by simp)]
        exact (numR_okle this).2.2
theorem add_inv {l : List UInt8} {a i : Nat} {segs : List (Nat × Nat)} (h : (npL l a).2.2 = 0) (hs : ∀ x ∈ segs, numB (seg l x.1 x.2) = true) (hi : segs.length ≤ i) :
    segs.length ≤ (addS segs i (npL l a).2.1 a (npL l a).1).length ∧ (addS segs i (npL l a).2.1 a (npL l a).1).length ≤ i + 1 ∧ (∀ x ∈ addS segs i (npL l a).2.1 a (npL l a).1, numB (seg l x.1 x.2) = true) ∧
      Wt (addS segs i (npL l a).2.1 a (npL l a).1) + (addS segs i (npL l a).2.1 a (npL l a).1).length + a ≤ Wt segs + segs.length + (npL l a).1 + 1 := by
  obtain ⟨h1, h2⟩ := np_num h
  unfold addS
  split
  · rename_i h3
    simp only [Bool.and_eq_true, Bool.not_eq_true', beq_iff_eq] at h3
    refine ⟨by simp, by simp; omega, ?_, ?_⟩
    · intro x hx
      rcases List.mem_append.1 hx with hx | hx
      · exact hs x hx
      · simp at hx
        subst hx
        exact h2 h3.1
    · unfold Wt
      simp
      omega
  · exact ⟨Nat.le_refl _, by omega, hs, by omega⟩
theorem rn_inv {l : List UInt8} : ∀ (k i a : Nat) (segs sg : List (Nat × Nat)) (e : Nat), rnGo l k i a segs = .ok (sg, e) → (∀ x ∈ segs, numB (seg l x.1 x.2) = true) → segs.length ≤ i →
    a ≤ e ∧ sg.length ≤ i + k + 1 ∧ (∀ x ∈ sg, numB (seg l x.1 x.2) = true) ∧ Wt sg + sg.length + a ≤ Wt segs + segs.length + e + 1
  | 0, i, a, segs, sg, e, h, hs, hi => by
    unfold rnGo at h
    split at h
    · cases h
    · rename_i h0
      have h0 : (npL l a).2.2 = 0 := by simpa using h0
      obtain ⟨q1, q2, q3, q4⟩ := add_inv (i := i) h0 hs hi
      have hlt := (np_num h0).1
      injection h with h
      injection h with h1 h2
      subst h1 h2
      exact ⟨by omega, by omega, q3, q4⟩
  | k + 1, i, a, segs, sg, e, h, hs, hi => by
    rw [rnGo] at h
    split at h
    · cases h
    · rename_i h0
      have h0 : (npL l a).2.2 = 0 := by simpa using h0
      obtain ⟨q1, q2, q3, q4⟩ := add_inv (i := i) h0 hs hi
      have hlt := (np_num h0).1
      split at h
      · obtain ⟨r1, r2, r3, r4⟩ := rn_inv k (i + 1) _ _ sg e h q3 q2
        exact ⟨by omega, by omega, r3, by omega⟩
      · injection h with h
        injection h with h1 h2
        subst h1 h2
        exact ⟨by omega, by omega, q3, q4⟩

/-- What is known of a partial that is read. -/
structure GoodP (p : PartL) : Prop where
  a : numB p.maj = true
  b : numB p.min = true
  c : numB p.pat = true
  d : ∀ t ∈ p.pre, preB t = true
  t : p.told ≤ 3
  n : p.told ≠ 3 → p.pre = []
  w : p.told ≠ 0 → p.maj.length + p.min.length + p.pat.length ≤ 50
  s : lenS (begL p) ≤ 54
theorem endP_ok {l : List UInt8} {a : Nat} {p : PartL} {z r : Int} (h : (endP l a p z r).2.2 = 0) : r = 0 ∧ (endP l a p z r).1 = p ∧ z - a ≤ 48 := by
  unfold endP at h ⊢
  split
  · rename_i h1
    rw [if_pos h1] at h
    cases h
  · rename_i h1
    rw [if_neg h1] at h
    split
    · rename_i h2
      rw [if_pos h2] at h
      cases h
    · rename_i h2
      rw [if_neg h2] at h
      exact ⟨h, rfl, by omega⟩
theorem numB_len {t : List UInt8} (h : numB t = true) : 1 ≤ t.length := by
  obtain ⟨d, r, rfl, _⟩ := num_head h
  simp
theorem pre_good {l : List UInt8} {a : Nat} (h : (preR l a).2.2 = 0) : ∃ z : Nat, (preR l a).2.1 = (z : Int) ∧ a ≤ z ∧ a + lenI (preR l a).1 ≤ z ∧ ∀ t ∈ (preR l a).1, preB t = true := by
  unfold preR at h ⊢
  split
  · rename_i h1
    rw [if_pos h1] at h
    generalize hz : min (a + prL (l.drop a)) (a + 48) = z at *
    have haz : a ≤ z := by omega
    by_cases h2 : (fauP (preT l a z)).1 = 0
    · rw [if_pos h2]
      refine ⟨z, rfl, haz, ?_⟩
      dsimp only
      unfold fauP at h2
      unfold semP
      cases hp : parseR (preT l a z) with
      | error y =>
        rw [hp] at h2
        dsimp only at h2
        exact absurd h2 (parse_err hp)
      | ok c =>
        dsimp only
        have hx := parse_text hp
        obtain ⟨q1, q2, q3, q4, q5⟩ := parse_parts hp
        have hlen := textL_length (semOf (preT l a z) c)
        rw [hx] at hlen
        have n1 := numB_len q1
        have n2 := numB_len q2
        have n3 := numB_len q3
        have hT : (preT l a z).length ≤ 5 + (z - a) := by
          unfold preT seg
          simp
          omega
        unfold lenS at hlen
        exact ⟨by omega, q4⟩
    · rw [if_neg h2] at h
      exfalso
      split at h
      · exact h2 h
      · split at h
        · cases h
        · revert h
          show misL l.length z ≠ 0
          unfold misL
          split <;> decide
  · exact ⟨a, rfl, Nat.le_refl _, Nat.le_refl _, fun t ht => by cases ht⟩
theorem seg_w (l : List UInt8) (a e : Nat) : (seg l a e).length ≤ e - a := by
  unfold seg
  simp
  omega
theorem v_le (l : List UInt8) (a : Nat) : a ≤ vL l a := by
  unfold vL
  split <;> omega
theorem rp_good {l : List UInt8} {a : Nat} (h : (rpL l a).2.2 = 0) : GoodP (rpL l a).1 := by
  have hv := v_le l a
  unfold rpL at h ⊢
  cases hrn : rnGo l 2 0 (vL l a) [] with
  | error x =>
    rw [hrn] at h
    exact absurd h (endP_err (rn_err hrn))
  | ok x =>
    obtain ⟨sg, e⟩ := x
    rw [hrn] at h
    dsimp only at h ⊢
    obtain ⟨r1, r2, r3, r4⟩ := rn_inv 2 0 (vL l a) [] sg e hrn (by intro x hx; cases hx) (Nat.le_refl _)
    have hs0 : numB [48] = true := numB_0
    split
    · rename_i h3
      rw [if_pos h3] at h
      obtain ⟨e1, e2, e3⟩ := endP_ok h
      obtain ⟨z, p1, p2, p3, p4⟩ := pre_good e1
      rw [e2]
      rw [p1] at e3
      match sg, h3 with
      | [x, y, u], _ =>
        have w1 := seg_w l x.1 x.2
        have w2 := seg_w l y.1 y.2
        have w3 := seg_w l u.1 u.2
        unfold Wt at r4
        simp at r4
        refine ⟨r3 x (by simp), r3 y (by simp), r3 u (by simp), p4, Nat.le_refl _, fun h => absurd rfl h, fun _ => ?_, ?_⟩
        · show (seg l x.1 x.2).length + (seg l y.1 y.2).length + (seg l u.1 u.2).length ≤ 50
          omega
        · show (seg l x.1 x.2).length + (seg l y.1 y.2).length + (seg l u.1 u.2).length + 2 + lenI (preR l e).1 + 0 ≤ 54
          omega
    · rename_i h3
      rw [if_neg h3] at h
      obtain ⟨e1, e2, e3⟩ := endP_ok h
      rw [e2]
      match sg, h3, r2 with
      | [], _, _ =>
        exact ⟨hs0, hs0, hs0, (fun t ht => by cases ht), Nat.zero_le _, fun _ => rfl, fun h => absurd rfl h, by show 1 + 1 + 1 + 2 + 0 + 0 ≤ 54; omega⟩
      | [x], _, _ =>
        have w1 := seg_w l x.1 x.2
        unfold Wt at r4
        simp at r4
        refine ⟨r3 x (by simp), hs0, hs0, (fun t ht => by cases ht), by show 1 ≤ 3; omega, fun _ => rfl, fun _ => ?_, ?_⟩
        · show (seg l x.1 x.2).length + 1 + 1 ≤ 50
          omega
        · show (seg l x.1 x.2).length + 1 + 1 + 2 + 0 + 0 ≤ 54
          omega
      | [x, y], _, _ =>
        have w1 := seg_w l x.1 x.2
        have w2 := seg_w l y.1 y.2
        unfold Wt at r4
        simp at r4
        refine ⟨r3 x (by simp), r3 y (by simp), hs0, (fun t ht => by cases ht), by show 2 ≤ 3; omega, fun _ => rfl, fun _ => ?_, ?_⟩
        · show (seg l x.1 x.2).length + (seg l y.1 y.2).length + 1 ≤ 50
          omega
        · show (seg l x.1 x.2).length + (seg l y.1 y.2).length + 1 + 2 + 0 + 0 ≤ 54
          omega
      | [x, y, u], h3, _ => exact absurd rfl h3
      | x :: y :: u :: v :: r, _, r2 => simp at r2

end Go.Proofs.YtaflflelcdcanaaGreat

namespace Go.Proofs.YtaflflelcdcanaaGreat
open Go.RowKit
set_option linter.unusedVariables false

/-- A version that is fit, and short. -/
def FitL (x : SemL) : Prop := fitW x = true ∧ lenS x ≤ 64
/-- A comparator that can be written, and is short. -/
def OkS (c : Comp) : Prop := okT1 c = true ∧ lenS c.2 ≤ 64
theorem ok_mk {op : Int} {x : SemL} (h1 : (signL op).2 = true) (h2 : FitL x) (h3 : x.bld = []) : OkS (op, x) := by
  refine ⟨?_, h2.2⟩
  unfold okT1
  rw [h1, h2.1, h3]
  rfl
theorem fit_of {x : SemL} (hl : lenS x ≤ 64) (h1 : numB x.maj = true) (h2 : numB x.min = true) (h3 : numB x.pat = true) (h4 : ∀ t ∈ x.pre, preB t = true) (h5 : x.bld = []) : FitL x := by
  refine ⟨fit_mk ?_ h1 h2 h3 (List.all_eq_true.2 h4) (by rw [h5]; rfl), hl⟩
  rw [wrap_id _ (by omega)]
  omega
/-- The next version is fit, also ahead of all with its numbers. -/
theorem next_fit {p : PartL} (h : GoodP p) (h0 : p.told ≠ 0) {k : Int} (hk : k = 0 ∨ k = 1 ∨ k = 2) :
    FitL (nextW (begL p) k) ∧ (nextW (begL p) k).bld = [] ∧ FitL (behL p k) ∧ (behL p k).bld = [] := by
  have hf : fitW (begL p) = true := (fit_of (by have := h.s; omega) h.a h.b h.c h.d rfl).1
  have hw := h.w h0
  have hr : fitW (rais (begL p) k) = true := by
    by_cases hr : fitW (rais (begL p) k) = true
    · exact hr
    · have := next_none (begL p) k hk (by have := h.s; omega) hf (by simpa using hr)
      have hw' : (begL p).maj.length + (begL p).min.length + (begL p).pat.length ≤ 50 := hw
      omega
  have he : nextW (begL p) k = rais (begL p) k := by
    unfold nextW
    rw [if_pos hf, if_pos hk, if_pos hr]
  have n1 := nextL_len p.maj
  have n2 := nextL_len p.min
  have n3 := nextL_len p.pat
  unfold behL
  rw [he]
  have hp0 : ∀ t ∈ ([[48]] : List (List UInt8)), preB t = true := by decide
  rcases hk with rfl | rfl | rfl
  · have e : rais (begL p) 0 = ⟨nextL p.maj, [48], [48], [], []⟩ := by unfold rais; simp [begL]
    rw [e] at hr ⊢
    exact ⟨⟨hr, by show (nextL p.maj).length + 1 + 1 + 2 + 0 + 0 ≤ 64; omega⟩, rfl, fit_of (by show (nextL p.maj).length + 1 + 1 + 2 + 2 + 0 ≤ 64; omega) (next_num h.a).1 numB_0 numB_0 hp0 rfl, rfl⟩
  · have e : rais (begL p) 1 = ⟨p.maj, nextL p.min, [48], [], []⟩ := by unfold rais; simp [begL]
    rw [e] at hr ⊢
    exact ⟨⟨hr, by show p.maj.length + (nextL p.min).length + 1 + 2 + 0 + 0 ≤ 64; omega⟩, rfl, fit_of (by show p.maj.length + (nextL p.min).length + 1 + 2 + 2 + 0 ≤ 64; omega) h.a (next_num h.b).1 numB_0 hp0 rfl, rfl⟩
  · have e : rais (begL p) 2 = ⟨p.maj, p.min, nextL p.pat, [], []⟩ := by unfold rais; simp [begL]
    rw [e] at hr ⊢
    exact ⟨⟨hr, by show p.maj.length + p.min.length + (nextL p.pat).length + 2 + 0 + 0 ≤ 64; omega⟩, rfl, fit_of (by show p.maj.length + p.min.length + (nextL p.pat).length + 2 + 2 + 0 ≤ 64; omega) h.a h.b (next_num h.c).1 hp0 rfl, rfl⟩
/-- What an operator means of a partial that is read can be written. -/
theorem mean_ok {p : PartL} (h : GoodP p) (f : Nat) : ∀ c ∈ meanL f p, OkS c := by
  have hf : FitL (begL p) := fit_of (by have := h.s; omega) h.a h.b h.c h.d rfl
  have hb : ∀ o : Int, (signL o).2 = true → ∀ c ∈ [((o, begL p) : Comp)], OkS c := by
    intro o ho c hc
    rw [List.mem_singleton] at hc
    subst hc
    exact ok_mk ho hf rfl
  have hn : ∀ c ∈ noneL, OkS c := by
    intro c hc
    unfold noneL at hc
    rw [List.mem_singleton] at hc
    subst hc
    exact ok_mk rfl (fit_of (by show 1 + 1 + 1 + 2 + 2 + 0 ≤ 64; omega) numB_0 numB_0 numB_0 (by show ∀ t ∈ ([[48]] : List (List UInt8)), preB t = true; decide) rfl) rfl
  have ht := h.t
  have hw : p.told ≠ 0 → ∀ k : Int, (k = 0 ∨ k = 1 ∨ k = 2) → ∀ c ∈ withL p k, OkS c := by
    intro h0 k hk c hc
    obtain ⟨_, _, q3, q4⟩ := next_fit h h0 hk
    unfold withL at hc
    rcases List.mem_cons.1 hc with rfl | hc
    · exact ok_mk rfl hf rfl
    · rw [List.mem_singleton] at hc
      subst hc
      exact ok_mk rfl q3 q4
  have h9 : ∀ c ∈ ([] : List Comp), OkS c := fun c hc => by cases hc
  have hfi : p.told ≠ 0 → p.told ≠ 3 → ∀ c ∈ [((1, firstL (begL p)) : Comp)], OkS c := by
    intro h0 h3 c hc
    rw [List.mem_singleton] at hc
    subst hc
    have hw := h.w h0
    exact ok_mk rfl (fit_of (by show p.maj.length + p.min.length + p.pat.length + 2 + 2 + 0 ≤ 64; omega) h.a h.b h.c (by show ∀ t ∈ ([[48]] : List (List UInt8)), preB t = true; decide) rfl) rfl
  have hbe : p.told ≠ 0 → ∀ k : Int, (k = 0 ∨ k = 1 ∨ k = 2) → ∀ c ∈ [((1, behL p k) : Comp)], OkS c := by
    intro h0 k hk c hc
    rw [List.mem_singleton] at hc
    subst hc
    obtain ⟨_, _, q3, q4⟩ := next_fit h h0 hk
    exact ok_mk rfl q3 q4
  have hne : p.told ≠ 0 → ∀ k : Int, (k = 0 ∨ k = 1 ∨ k = 2) → ∀ c ∈ [((4, nextW (begL p) k) : Comp)], OkS c := by
    intro h0 k hk c hc
    rw [List.mem_singleton] at hc
    subst hc
    obtain ⟨q1, q2, _, _⟩ := next_fit h h0 hk
    exact ok_mk rfl q1 q2
  unfold meanL equalL lessL upToL moreL fromL tildeL caretL
  by_cases h0 : p.told = 0
  · simp only [h0, if_pos]
    repeat' split
    all_goals first | exact h9 | exact hn
  · simp only [if_neg h0]
    by_cases h3 : p.told = 3
    · simp only [h3, if_pos]
      repeat' split
      all_goals first | exact hb _ rfl | exact hw h0 _ (by omega)
    · simp only [if_neg h3]
      repeat' split
      all_goals first | exact hb _ rfl | exact hw h0 _ (by omega) | exact hfi h0 h3 | exact hbe h0 _ (by omega) | exact hne h0 _ (by omega)
/-- A part that is not wrong is good. -/
theorem row_goodP {l : List UInt8} : ∀ (n k a : Nat), ∀ x ∈ rowG l n k a, x.err = 0 → GoodP x.p
  | 0, _, _, x, h, _ => by cases h
  | n + 1, k, a, x, h, he => by
    unfold rowG at h
    split at h
    · cases h
    · split at h
      · simp at h; subst h; cases he
      · split at h
        · simp at h; subst h; exact rp_good he
        · rcases List.mem_cons.1 h with rfl | h
          · exact rp_good he
          · exact row_goodP n (k + 1) _ x h he
theorem parts_goodP {l : List UInt8} {a : Nat} : ∀ x ∈ partsL l a, x.err = 0 → GoodP x.p := by
  intro x h h0
  unfold partsL at h
  split at h
  · rename_i hf
    unfold isFrom at hf
    rw [Bool.and_eq_true] at hf
    have hr : (headL l a).2.2 = 0 := by simpa using hf.1
    unfold ftL at h
    rcases List.mem_cons.1 h with rfl | h
    · exact rp_good hr
    rcases List.mem_cons.1 h with rfl | h
    · unfold toI dashL at h0 ⊢
      dsimp only at h0 ⊢
      split
      · rename_i hb
        rw [if_pos hb] at h0
        exact absurd h0 (by show misL _ _ ≠ 0; unfold misL; split <;> decide)
      · rename_i hb
        rw [if_neg hb] at h0
        exact rp_good h0
    · split at h
      · simp at h; subst h; cases h0
      · cases h
  · exact row_goodP _ _ _ x h h0
theorem fold_okT : ∀ (xs : List Item) (a : Int) (D : List Comp), (∀ x ∈ xs, x.err = 0 → GoodP x.p) → (∀ c ∈ D, OkS c) → ∀ c ∈ (foldI a D xs).2.2, OkS c
  | [], a, D, _, hD => hD
  | x :: xs, a, D, h, hD => by
    unfold foldI
    split
    · exact hD
    · rename_i he
      have he : x.err = 0 := by simpa using he
      refine fold_okT xs _ _ (fun y hy => h y (List.mem_cons_of_mem _ hy)) ?_
      intro c hc
      rcases List.mem_append.1 hc with hc | hc
      · exact hD c hc
      · exact mean_ok (h x List.mem_cons_self he) _ c hc
theorem one_okT (l : List UInt8) (a : Nat) : ∀ c ∈ (oneSet l a).2.2, OkS c := fold_okT _ _ [] parts_goodP (fun c hc => by cases hc)
theorem go_okT {l : List UInt8} : ∀ (n a : Nat) (S : List (List Comp)), n + S.length = 33 → S.length ≤ 31 → (∀ cs ∈ S, ∀ c ∈ cs, OkS c) → (npGo l n a S).1 = 0 →
    (npGo l n a S).2.2 ≠ [] ∧ (npGo l n a S).2.2.length ≤ 32 ∧ ∀ cs ∈ (npGo l n a S).2.2, ∀ c ∈ cs, OkS c
  | 0, a, S, hn, hS, _, _ => by omega
  | n + 1, a, S, hn, hS, hg, h => by
    have hs : ∀ cs ∈ S ++ [(oneSet l a).2.2], ∀ c ∈ cs, OkS c := by
      intro cs hc
      rcases List.mem_append.1 hc with hc | hc
      · exact hg cs hc
      · rw [List.mem_singleton] at hc; subst hc; exact one_okT l a
    unfold npGo at h ⊢
    split
    · rename_i h1
      rw [if_pos h1] at h
      exact absurd h h1
    · rename_i h1
      rw [if_neg h1] at h
      split
      · exact ⟨by simp, by simp; omega, hs⟩
      · rename_i h2
        rw [if_neg h2] at h
        split
        · rename_i h3
          rw [if_pos h3] at h
          exact absurd h h3
        · rename_i h3
          rw [if_neg h3] at h
          have h4 : S.length + 1 ≠ 32 := by
            intro h4
            apply h3
            unfold barsL
            rw [h4]
            split
            · rw [if_pos rfl]
              show (12 : Int) ≠ 0
              decide
            · show misL _ _ ≠ 0
              unfold misL
              split <;> decide
          exact go_okT n _ _ (by simp; omega) (by simp; omega) hs h
/-- What is known of a range that is read. -/
theorem parse_okT {s : List UInt8} (h : (nParse s).1 = 0) : (nParse s).2.2 ≠ [] ∧ (nParse s).2.2.length ≤ 32 ∧ ∀ cs ∈ (nParse s).2.2, ∀ c ∈ cs, OkS c := by
  unfold nParse at h ⊢
  split
  · rename_i h1
    rw [if_pos h1] at h
    cases h
  · rename_i h1
    rw [if_neg h1] at h
    exact go_okT 33 0 [] rfl (by simp) (by simp) h
theorem parse_none {s : List UInt8} (h : (nParse s).1 ≠ 0) : (nParse s).2.2 = [] := by
  have hg : ∀ (n a : Nat) (S : List (List Comp)), (npGo s n a S).1 ≠ 0 → (npGo s n a S).2.2 = [] := by
    intro n
    induction n with
    | zero => intro a S _; rfl
    | succ n ih =>
      intro a S h
      unfold npGo at h ⊢
      split
      · rfl
      · rename_i h1
        rw [if_neg h1] at h
        split
        · rename_i h2
          rw [if_pos h2] at h
          exact absurd rfl h
        · rename_i h2
          rw [if_neg h2] at h
          split
          · rfl
          · rename_i h3
            rw [if_neg h3] at h
            exact ih _ _ h
  unfold nParse at h ⊢
  split
  · rfl
  · rename_i h1
    rw [if_neg h1] at h
    exact hg _ _ _ h
/-- There and back. -/
theorem back_parse {s : List UInt8} (h : (nParse s).1 = 0) (h1 : ∀ cs ∈ (nParse s).2.2, cs.length ≤ 32 ∧ ∀ c ∈ cs, (fmtL c.2).length ≤ 48) (ht : (fmtSets (nParse s).2.2).length ≤ 256) : nParse (fmtSets (nParse s).2.2) = (0, 0, (nParse s).2.2) := by
  obtain ⟨q1, q2, q3⟩ := parse_okT h
  refine parse_back _ q1 q2 (fun cs hc => ⟨(h1 cs hc).1, fun c hx => ⟨(q3 cs hc c hx).1, ?_⟩⟩) ht
  have := (h1 cs hc).2 c hx
  unfold fmtL at this
  rw [if_pos (ok_parts (q3 cs hc c hx).1).2.1, textL_length] at this
  exact this

end Go.Proofs.YtaflflelcdcanaaGreat

namespace Go.Proofs.YtaflflelcdcanaaGreat
open Go.RowKit
set_option linter.unusedVariables false

theorem star_parse : nParse [42] = (0, 0, [[]]) := by
  have := parse_back [[]] (by simp) (by simp) (by intro ds hd; rw [List.mem_singleton] at hd; subst hd; exact ⟨by simp, fun x hx => by cases hx⟩) (by decide)
  exact this
/-- A star takes no version with Pre. -/
theorem star_takes (t : List UInt8) (h : (semP t).pre ≠ []) : takesL (nParse [42]).2.2 t = false := by
  rw [star_parse]
  have hp : (semP t).pre.isEmpty = false := by
    cases hx : (semP t).pre with
    | nil => exact absurd hx h
    | cons a r => rfl
  show (setL [] (semP t) || false) = false
  unfold setL
  rw [hp]
  simp
/-- A fit version's text, read. -/
theorem sem_text {x : SemL} (hf : fitW x = true) (hl : lenS x ≤ 48) : semP (textL x) = x := by
  obtain ⟨c, h1, h2⟩ := text_parse x (by omega) hf
  unfold semP
  rw [h1]
  exact h2
theorem text_range {x : SemL} (hf : fitW x = true) (hb : x.bld = []) (hl : lenS x ≤ 48) : nParse (textL x) = (0, 0, [[(5, x)]]) := by
  have hok : okT1 (5, x) = true := (ok_mk rfl ⟨hf, by omega⟩ hb).1
  have hc : compT (5, x) = textL x := by rw [compT_eq hok]; rfl
  have he : fmtSets [[(5, x)]] = textL x := by
    unfold fmtSets setT
    simp [hok, Lib.join_one, hc]
  have := parse_back [[(5, x)]] (by simp) (by simp) (by
    intro ds hd
    rw [List.mem_singleton] at hd
    subst hd
    refine ⟨by simp, fun y hy => ?_⟩
    rw [List.mem_singleton] at hy
    subst hy
    exact ⟨hok, hl⟩) (by rw [he, textL_length]; omega)
  rw [he] at this
  exact this
/-- A version behind a tilde, a caret. -/
theorem sign_range {x : SemL} (hf : fitW x = true) (hb : x.bld = []) (hl : lenS x ≤ 48) {b : UInt8} {f : Nat} (hbf : (b = 126 ∧ f = 163) ∨ (b = 94 ∧ f = 164)) : nParse (b :: textL x) = (0, 0, [meanL f (partOf x)]) := by
  obtain ⟨d, r, hx, hd⟩ := text_head x hf
  obtain ⟨_, _, h6, d1, d2, d3, d4, d5, h124, h45⟩ := digit_open d hd
  have hop : opL (b :: textL x) 0 = ([b], f) := by
    have e2 : (d == 61) = false := beq_eq_false_iff_ne.2 d2
    have e3 : (d == 62) = false := beq_eq_false_iff_ne.2 d3
    unfold opL
    rw [List.drop_zero, hx]
    rcases hbf with ⟨rfl, rfl⟩ | ⟨rfl, rfl⟩ <;> simp [opGo, ops9, opStep, hasP_nil, hasP_cons, e2, e3]
  have hb6 : isC (b.toNat : Int) 6 = false := by rcases hbf with ⟨rfl, _⟩ | ⟨rfl, _⟩ <;> decide
  have hb124 : b ≠ 124 := by rcases hbf with ⟨rfl, _⟩ | ⟨rfl, _⟩ <;> decide
  have hE : opE (b :: textL x) 0 = 1 := by
    unfold opE
    rw [hop]
    have := blk_none [b] (textL x) (by intro e he; rw [hx, List.head?_cons] at he; injection he with he; subst he; exact h6)
    exact this
  have hr := rp_text [b] [] x hf hb hl (.inl rfl)
  rw [List.append_nil] at hr
  have hr' : rpL (b :: textL x) 1 = (partOf x, ((1 + lenS x : Nat) : Int), 0) := hr
  have hi : itemL (b :: textL x) 0 = ⟨partOf x, f, 0, ((1 + lenS x : Nat) : Int)⟩ := by
    unfold itemL
    rw [hE, hop, hr']
  have hlen : (b :: textL x).length = 1 + lenS x := by rw [List.length_cons, textL_length]; omega
  have hb0 : blk (b :: textL x) 0 = 0 := by
    have := blk_none [] (b :: textL x) (by intro e he; injection he with he; subst he; exact hb6)
    exact this
  have hbe : blk (b :: textL x) (1 + lenS x) = 1 + lenS x := by
    have := blk_none (b :: textL x) [] (by intro e he; cases he)
    rw [List.append_nil, hlen] at this
    exact this
  have hend : endsL (b :: textL x) (1 + lenS x) = true := by
    unfold endsL
    rw [hlen]
    simp
  have he0 : endsL (b :: textL x) 0 = false := not_ends [] (textL x) b hb124
  have hfr : isFrom (b :: textL x) (rpL (b :: textL x) 0) = false := by
    unfold isFrom
    rw [Bool.and_eq_false_iff]
    left
    have hv : vL (b :: textL x) 0 = 0 := by
      unfold vL
      rw [if_neg]
      intro h
      injection h with h
      rcases hbf with ⟨rfl, _⟩ | ⟨rfl, _⟩ <;> revert h <;> decide
    have hm : misL (b :: textL x).length 0 ≠ 0 := by unfold misL; split <;> decide
    have hn : npL (b :: textL x) 0 = (0, false, misL (b :: textL x).length 0) := by
      unfold npL
      rw [List.drop_zero, if_neg (by show ¬ (openB b = true); rcases hbf with ⟨rfl, _⟩ | ⟨rfl, _⟩ <;> decide), if_pos]
      rw [runL, if_neg (by rcases hbf with ⟨rfl, _⟩ | ⟨rfl, _⟩ <;> decide)]
    unfold rpL
    rw [hv, rn_bad hn hm]
    exact decide_eq_false (endP_err hm)
  have ho : oneSet (b :: textL x) 0 = (0, ((1 + lenS x : Nat) : Int), meanL f (partOf x)) := by
    unfold oneSet partsL headL
    rw [hb0, hfr, if_neg (by simp)]
    unfold rowL
    rw [rowG_go he0 (by decide) (by rw [hi]), hi]
    dsimp only
    rw [Int.toNat_natCast, hbe, rowG_end hend]
    unfold foldI foldI
    dsimp only
    rw [if_neg (by simp)]
    rfl
  unfold nParse
  rw [if_neg (by rw [hlen]; omega), np_end (n := 32) ho (by rw [hbe, hlen])]
  rfl

end Go.Proofs.YtaflflelcdcanaaGreat

namespace Go.Proofs.YtaflflelcdcanaaGreat
open Go.RowKit
set_option linter.unusedVariables false

theorem cmpD_zero {a b : List UInt8} (ha : numB a = true) (hb : numB b = true) (h : cmpD a b = 0) : a = b := by
  unfold cmpD at h
  rw [numB_trim ha, numB_trim hb] at h
  split at h
  · cases h
  · split at h
    · cases h
    · exact cmpB_eq _ _ h
theorem cmpD_nought {a : List UInt8} (ha : AllD a) : 0 ≤ cmpD a [48] := by
  rw [cmpD_val a [48] ha (by intro c hc; rw [List.mem_singleton] at hc; subst hc; decide)]
  have : val [48] = 0 := rfl
  rw [this]
  unfold cmpN
  rw [if_neg (by omega)]
  split <;> decide
/-- No Pre is ahead of a nought. -/
theorem pre_nought (ts : List (List UInt8)) : 0 ≤ preO ts [[48]] := by
  unfold preO
  cases ts with
  | nil => decide
  | cons x a =>
    rw [if_neg (by simp)]
    have h0 : 0 ≤ oneO x [48] := by
      unfold oneO
      have h48 : digB [48] = true := by decide
      rw [h48]
      split
      · rename_i hd
        refine cmpD_nought ?_
        unfold digB at hd
        simp only [Bool.and_eq_true, beq_iff_eq] at hd
        exact allD_of_run x hd.2
      · rw [if_pos rfl]
        decide
    show 0 ≤ (if oneO x [48] = 0 then lexO a [] else oneO x [48])
    split
    · cases a with
      | nil => decide
      | cons _ _ => show (0 : Int) ≤ 1; decide
    · exact h0
theorem or4_neg {a b c d : Int} (h : or4 a b c d < 0) : a ≤ 0 := by
  unfold or4 at h
  split at h
  · omega
  · omega
theorem or4_nn {a b c d : Int} (h : 0 ≤ or4 a b c d) : 0 ≤ a := by
  unfold or4 at h
  split at h
  · omega
  · omega
/-- What is ahead of the first one with a next number. -/
theorem ahead_first {v y : SemL} (hv : fitW v = true) (hy : fitW y = true) {k : Int} (hk : k = 0 ∨ k = 1 ∨ k = 2) (h : ordO y (firstL (rais v k)) < 0) : cmpD y.maj v.maj ≤ 0 := by
  obtain ⟨_, m1, m2, m3, _, _⟩ := fit_parts hv
  obtain ⟨_, n1, n2, n3, _, _⟩ := fit_parts hy
  have z1 := cmpD_nought (numB_allD n1).1
  have z2 := cmpD_nought (numB_allD n2).1
  have z3 := cmpD_nought (numB_allD n3).1
  have zp := pre_nought y.pre
  rcases hk with rfl | rfl | rfl
  · have e : firstL (rais v 0) = ⟨nextL v.maj, [48], [48], [[48]], []⟩ := by unfold firstL rais; simp
    rw [e] at h
    have h : or4 (cmpD y.maj (nextL v.maj)) (cmpD y.min [48]) (cmpD y.pat [48]) (preO y.pre [[48]]) < 0 := h
    have hlt : cmpD y.maj (nextL v.maj) < 0 := by
      unfold or4 at h
      split at h
      · exact h
      · split at h
        · omega
        · split at h
          · omega
          · omega
    have hd := (numB_allD m1).1
    have hn := nextL_val v.maj hd
    rw [cmpD_val _ _ (numB_allD n1).1 hn.2, hn.1] at hlt
    rw [cmpD_val _ _ (numB_allD n1).1 hd]
    unfold cmpN at hlt ⊢
    split at hlt
    · split
      · decide
      · rw [if_neg (by omega)]
        decide
    · split at hlt <;> omega
  · have e : firstL (rais v 1) = ⟨v.maj, nextL v.min, [48], [[48]], []⟩ := by unfold firstL rais; simp
    rw [e] at h
    exact or4_neg h
  · have e : firstL (rais v 2) = ⟨v.maj, v.min, nextL v.pat, [[48]], []⟩ := by unfold firstL rais; simp
    rw [e] at h
    exact or4_neg h
theorem keeps_major {v y : SemL} (hv : fitW v = true) (hy : fitW y = true) {k : Int} (hk : k = 0 ∨ k = 1 ∨ k = 2) (h0 : 0 ≤ ordO y v) (h : ordO y (firstL (rais v k)) < 0) : y.maj = v.maj := by
  have h1 := ahead_first hv hy hk h
  have h2 : 0 ≤ cmpD y.maj v.maj := or4_nn h0
  obtain ⟨_, m1, _⟩ := fit_parts hv
  obtain ⟨_, n1, _⟩ := fit_parts hy
  exact cmpD_zero n1 m1 (by omega)
theorem ahead_major {v y : SemL} (hv : fitW v = true) (hy : fitW y = true) (h : cmpD y.maj v.maj ≤ 0) : ordO y (firstL (rais v 0)) < 0 := by
  obtain ⟨_, m1, _⟩ := fit_parts hv
  obtain ⟨_, n1, _⟩ := fit_parts hy
  have e : firstL (rais v 0) = ⟨nextL v.maj, [48], [48], [[48]], []⟩ := by unfold firstL rais; simp
  rw [e]
  show or4 (cmpD y.maj (nextL v.maj)) _ _ _ < 0
  have hd := (numB_allD m1).1
  have hn := nextL_val v.maj hd
  have hlt : cmpD y.maj (nextL v.maj) = -1 := by
    rw [cmpD_val _ _ (numB_allD n1).1 hd] at h
    rw [cmpD_val _ _ (numB_allD n1).1 hn.2, hn.1]
    unfold cmpN at h ⊢
    split at h
    · rw [if_pos (by omega)]
    · split at h
      · omega
      · rw [if_pos (by omega)]
  rw [hlt]
  unfold or4
  rw [if_pos (by decide)]
  decide

/-- A fit version of a partial, and its next ones. -/
theorem beh_of {v : SemL} (hf : fitW v = true) (hb : v.bld = []) (hl : lenS v ≤ 48) {k : Int} (hk : k = 0 ∨ k = 1 ∨ k = 2) : begL (partOf v) = v ∧ behL (partOf v) k = firstL (rais v k) ∧ fitW (firstL (rais v k)) = true := by
  have hg : begL (partOf v) = v := by
    obtain ⟨a, b, c, d, e⟩ := v
    dsimp only at hb
    subst hb
    rfl
  obtain ⟨_, m1, m2, m3, h4, _⟩ := fit_parts hf
  have hs : v.maj.length + v.min.length + v.pat.length ≤ 50 := by unfold lenS at hl; omega
  have hG : GoodP (partOf v) := ⟨m1, m2, m3, fun t ht => List.all_eq_true.1 h4 t ht, Nat.le_refl _, fun h => absurd rfl h, fun _ => hs, by rw [hg]; omega⟩
  obtain ⟨q1, q2, q3, q4⟩ := next_fit hG (by show (3 : Nat) ≠ 0; decide) hk
  have hr : fitW (rais v k) = true := by
    by_cases hr : fitW (rais v k) = true
    · exact hr
    · have := next_none v k hk (by omega) hf (by simpa using hr)
      omega
  have he : behL (partOf v) k = firstL (rais v k) := by
    unfold behL nextW
    rw [hg, if_pos hf, if_pos hk, if_pos hr]
  rw [he] at q3
  exact ⟨hg, he, q3.1⟩
/-- What such a set takes. -/
theorem with_takes {v y : SemL} (hf : fitW v = true) (hb : v.bld = []) (hl : lenS v ≤ 48) {k : Int} (hk : k = 0 ∨ k = 1 ∨ k = 2) : setL (withL (partOf v) k) y = true ↔
    fitW y = true ∧ 0 ≤ ordO y v ∧ ordO y (firstL (rais v k)) < 0 ∧ (y.pre = [] ∨ (v.pre ≠ [] ∧ sameL v y = true)) := by
  obtain ⟨e1, e2, e3⟩ := beh_of hf hb hl hk
  have hpre : (y.pre.isEmpty = true) ↔ y.pre = [] := List.isEmpty_iff
  unfold setL withL holdsL cmpO ordW
  rw [e1, e2]
  cases hy : fitW y with
  | false => simp
  | true =>
    simp only [hf, e3, if_true, Bool.true_and, List.all_cons, List.all_nil, Bool.and_true, List.any_cons, List.any_nil, Bool.or_false, Bool.and_eq_true, Bool.or_eq_true, decide_eq_true_eq, true_and]
    have hx : (if (4 : Int) = 1 then decide (ordO y v < 0) else if (4 : Int) = 2 then decide (ordO y v ≤ 0) else if (4 : Int) = 3 then decide (0 < ordO y v) else if (4 : Int) = 4 then decide (0 ≤ ordO y v) else if (4 : Int) = 5 then ordO y v == 0 else false) = decide (0 ≤ ordO y v) := by rfl
    constructor
    · rintro ⟨⟨h1, h2⟩, h3⟩
      have h1 : 0 ≤ ordO y v := by simpa using h1
      have h2 : ordO y (firstL (rais v k)) < 0 := by simpa using h2
      refine ⟨h1, h2, ?_⟩
      rcases h3 with h3 | h3 | h3
      · exact .inl (hpre.1 h3)
      · refine .inr ⟨?_, h3.2⟩
        have := h3.1
        intro h
        rw [h] at this
        simp at this
      · exfalso
        have hs := h3.2
        unfold sameL at hs
        simp only [Bool.and_eq_true, beq_iff_eq] at hs
        obtain ⟨⟨s1, s2⟩, s3⟩ := hs
        have hz := fun l => cmpD_cmp3.self l
        have hp := pre_nought y.pre
        have : ordO y (firstL (rais v k)) = preO y.pre [[48]] := by
          unfold ordO or4
          rw [← s1, ← s2, ← s3]
          have t1 := hz (firstL (rais v k)).maj
          have t2 := hz (firstL (rais v k)).min
          have t3 := hz (firstL (rais v k)).pat
          rw [t1, t2, t3]
          rfl
        omega
    · rintro ⟨h1, h2, h3⟩
      refine ⟨⟨by simpa using h1, by simpa using h2⟩, ?_⟩
      rcases h3 with h3 | h3
      · exact .inl (hpre.2 h3)
      · refine .inr (.inl ⟨?_, h3.2⟩)
        cases hvp : v.pre with
        | nil => exact absurd hvp h3.1
        | cons _ _ => rfl
theorem caret_with (v : SemL) : ∃ k : Int, (k = 0 ∨ k = 1 ∨ k = 2) ∧ meanL 164 (partOf v) = withL (partOf v) k ∧ (v.maj ≠ [48] → k = 0) := by
  show ∃ k : Int, _ ∧ caretL (partOf v) = _ ∧ _
  unfold caretL
  have h0 : ¬ (partOf v).told = 0 := by show ¬ (3 : Nat) = 0; decide
  rw [if_neg h0]
  split
  · exact ⟨0, by omega, rfl, fun _ => rfl⟩
  · rename_i h1
    have hm : (partOf v).maj = [48] := by
      by_cases h : (partOf v).maj = [48]
      · exact h
      · exact absurd (.inr h) h1
    split
    · exact ⟨1, by omega, rfl, fun h => absurd hm h⟩
    · exact ⟨2, by omega, rfl, fun h => absurd hm h⟩
theorem tilde_with (v : SemL) : meanL 163 (partOf v) = withL (partOf v) 1 := rfl
/-- What a tilde takes a caret takes. -/
theorem tilde_caret {v y : SemL} (hf : fitW v = true) (hb : v.bld = []) (hl : lenS v ≤ 48) (h0 : v.maj ≠ [48]) (h : setL (meanL 163 (partOf v)) y = true) : setL (meanL 164 (partOf v)) y = true := by
  obtain ⟨k, hk, e, he⟩ := caret_with v
  rw [e, he h0]
  rw [tilde_with] at h
  obtain ⟨h1, h2, h3, h4⟩ := (with_takes hf hb hl (.inr (.inl rfl))).1 h
  exact (with_takes hf hb hl (.inl rfl)).2 ⟨h1, h2, ahead_major hf h1 (ahead_first hf h1 (.inr (.inl rfl)) h3), h4⟩
/-- A caret keeps the major version. -/
theorem caret_major {v y : SemL} (hf : fitW v = true) (hb : v.bld = []) (hl : lenS v ≤ 48) (h : setL (meanL 164 (partOf v)) y = true) : y.maj = v.maj := by
  obtain ⟨k, hk, e, _⟩ := caret_with v
  rw [e] at h
  obtain ⟨h1, h2, h3, _⟩ := (with_takes hf hb hl hk).1 h
  exact keeps_major hf h1 hk h2 h3
/-- A version is taken by its own text. -/
theorem self_takes {v : SemL} (hf : fitW v = true) : setL [(5, v)] v = true := by
  have h0 : ordO v v = 0 := ordO_cmp3.self v
  unfold setL holdsL cmpO ordW sameL
  simp only [hf, h0, List.all_cons, List.all_nil, List.any_cons, List.any_nil, Bool.and_self, if_true]
  cases hp : v.pre with
  | nil => simp
  | cons _ _ => simp

/-- A set takes what lies between two plain versions that it takes. -/
theorem set_between {cs : List Comp} {v x u : SemL} (hx : fitW x = true) (px : x.pre = []) (h1 : setL cs v = true) (h2 : setL cs u = true) (o1 : ordW v x ≤ 0) (o2 : ordW x u ≤ 0) : setL cs x = true := by
  unfold setL at h1 h2 ⊢
  simp only [Bool.and_eq_true, List.all_eq_true] at h1 h2 ⊢
  obtain ⟨⟨fv, a1⟩, _⟩ := h1
  obtain ⟨⟨fu, a2⟩, _⟩ := h2
  have o1 : ordO v x ≤ 0 := by
    unfold ordW at o1
    rw [fv, hx] at o1
    exact o1
  have o2 : ordO x u ≤ 0 := by
    unfold ordW at o2
    rw [hx, fu] at o2
    exact o2
  refine ⟨⟨hx, fun c hc => ?_⟩, by rw [px]; rfl⟩
  have b1 := a1 c hc
  have b2 := a2 c hc
  unfold holdsL at b1 b2 ⊢
  simp only [Bool.and_eq_true] at b1 b2 ⊢
  obtain ⟨⟨fc, _⟩, b1⟩ := b1
  obtain ⟨_, b2⟩ := b2
  refine ⟨⟨fc, hx⟩, ?_⟩
  have w1 : ordW v c.2 = ordO v c.2 := by unfold ordW; rw [fv, fc]; rfl
  have w2 : ordW u c.2 = ordO u c.2 := by unfold ordW; rw [fu, fc]; rfl
  have w3 : ordW x c.2 = ordO x c.2 := by unfold ordW; rw [hx, fc]; rfl
  rw [w1] at b1
  rw [w2] at b2
  rw [w3]
  have C := ordO_cmp3
  have l1 : ordO u c.2 ≤ 0 → ordO x c.2 ≤ 0 := fun h => C.trans x u c.2 o2 h
  have l2 : ordO u c.2 < 0 → ordO x c.2 < 0 := fun h => C.le_lt o2 h
  have l3 : 0 ≤ ordO v c.2 → 0 ≤ ordO x c.2 := fun h => by
    have t1 := C.anti v c.2
    have t2 := C.anti x c.2
    have := C.trans c.2 v x (by omega) o1
    omega
  have l4 : 0 < ordO v c.2 → 0 < ordO x c.2 := fun h => by
    have t1 := C.anti v c.2
    have t2 := C.anti x c.2
    have := C.lt_le (a := c.2) (b := v) (c := x) (by omega) o1
    omega
  unfold cmpO at b1 b2 ⊢
  split
  · rename_i h
    rw [if_pos h] at b2
    exact decide_eq_true (l2 (of_decide_eq_true b2))
  · rename_i h
    rw [if_neg h] at b1 b2
    split
    · rename_i h
      rw [if_pos h] at b2
      exact decide_eq_true (l1 (of_decide_eq_true b2))
    · rename_i h
      rw [if_neg h] at b1 b2
      split
      · rename_i h
        rw [if_pos h] at b1
        exact decide_eq_true (l4 (of_decide_eq_true b1))
      · rename_i h
        rw [if_neg h] at b1 b2
        split
        · rename_i h
          rw [if_pos h] at b1
          exact decide_eq_true (l3 (of_decide_eq_true b1))
        · rename_i h
          rw [if_neg h] at b1 b2
          split
          · rename_i h
            rw [if_pos h] at b1 b2
            have q1 := beq_iff_eq.1 b1
            have q2 := beq_iff_eq.1 b2
            have r1 := l1 (by omega)
            have r3 := l3 (by omega)
            exact beq_iff_eq.2 (by omega)
          · rename_i h
            rw [if_neg h] at b1
            cases b1

end Go.Proofs.YtaflflelcdcanaaGreat
