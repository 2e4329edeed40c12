/-
  Plain: a range within another one, ahead of bars or at its end, is read as it is read alone; no program is named here.
-/
import Derived.Test.YtplbdciikkpjoaaZEzo
namespace Go.Proofs.Ytplbdciikkpjoaa
set_option linter.unusedVariables false

/-- From d on L is M, and behind it nothing, or a bar. -/
structure Sim (L M : List UInt8) (d : Nat) (R : List UInt8) : Prop where
  eq : L.drop d = M ++ R
  hd : R = [] ∨ R.head? = some 124
  le : d ≤ L.length
theorem Sim.drop {L M R : List UInt8} {d : Nat} (h : Sim L M d R) (i : Nat) (hi : i ≤ M.length) : L.drop (d + i) = M.drop i ++ R := by
  rw [← List.drop_drop, h.eq, List.drop_append_of_le_length hi]
theorem Sim.len {L M R : List UInt8} {d : Nat} (h : Sim L M d R) : L.length = d + M.length + R.length := by
  have := congrArg List.length h.eq
  rw [List.length_drop, List.length_append] at this
  have := h.le
  omega
theorem Sim.get {L M R : List UInt8} {d : Nat} (h : Sim L M d R) {i : Nat} (hi : i < M.length) : L[d + i]? = M[i]? := by
  have : (L.drop d)[i]? = (M ++ R)[i]? := by rw [h.eq]
  rw [List.getElem?_drop, List.getElem?_append_left hi] at this
  exact this
theorem Sim.end_ {L M R : List UInt8} {d : Nat} (h : Sim L M d R) : L[d + M.length]? = none ∨ L[d + M.length]? = some 124 := by
  have : (L.drop d)[M.length]? = (M ++ R)[M.length]? := by rw [h.eq]
  rw [List.getElem?_drop, List.getElem?_append_right (Nat.le_refl _), Nat.sub_self] at this
  rw [this]
  rcases h.hd with h | h
  · rw [h]; exact .inl rfl
  · rw [← List.head?_eq_getElem?, h]; exact .inr rfl
theorem Sim.is {L M R : List UInt8} {d : Nat} (h : Sim L M d R) {i : Nat} (hi : i ≤ M.length) {c : UInt8} (hc : c ≠ 124) : L[d + i]? = some c ↔ M[i]? = some c := by
  by_cases hl : i < M.length
  · rw [h.get hl]
  · have : i = M.length := by omega
    subst this
    rw [List.getElem?_eq_none (Nat.le_refl _)]
    rcases h.end_ with e | e
    · rw [e]
    · rw [e]; simp; exact fun h => hc h.symm
theorem run_app (k : Int) (hk : isC 124 k = false) {R : List UInt8} (hR : R = [] ∨ R.head? = some 124) : ∀ x : List UInt8, runL k (x ++ R) = runL k x
  | [] => by
    rcases hR with rfl | h
    · rfl
    · cases R with
      | nil => rfl
      | cons c r =>
        have : c = 124 := by simpa using h
        subst this
        show (if isC ((124 : UInt8).toNat : Int) k then _ else _) = 0
        rw [show (((124 : UInt8).toNat : Nat) : Int) = 124 from rfl, hk]
        rfl
  | c :: r => by
    have ih := run_app k hk hR r
    show (if isC (c.toNat : Int) k then runL k (r ++ R) + 1 else 0) = (if isC (c.toNat : Int) k then runL k r + 1 else 0)
    rw [ih]
theorem pr_app {R : List UInt8} (hR : R = [] ∨ R.head? = some 124) : ∀ x : List UInt8, prL (x ++ R) = prL x
  | [] => by
    rcases hR with rfl | h
    · rfl
    · cases R with
      | nil => rfl
      | cons c r =>
        have : c = 124 := by simpa using h
        subst this
        show (if preByte 124 then _ else _) = 0
        rw [show preByte 124 = false by decide]
        rfl
  | c :: r => by
    have ih := pr_app hR r
    show (if preByte c then prL (r ++ R) + 1 else 0) = (if preByte c then prL r + 1 else 0)
    rw [ih]
theorem Sim.run {L M R : List UInt8} {d : Nat} (h : Sim L M d R) (k : Int) (hk : isC 124 k = false) {i : Nat} (hi : i ≤ M.length) : runL k (L.drop (d + i)) = runL k (M.drop i) := by
  rw [h.drop i hi, run_app k hk h.hd]
theorem Sim.blk {L M R : List UInt8} {d : Nat} (h : Sim L M d R) {i : Nat} (hi : i ≤ M.length) : blk L (d + i) = d + blk M i := by
  unfold Go.Proofs.Ytplbdciikkpjoaa.blk
  rw [h.run 6 (by decide) hi]
  omega
theorem Sim.ends {L M R : List UInt8} {d : Nat} (h : Sim L M d R) {i : Nat} (hi : i ≤ M.length) : endsL L (d + i) = endsL M i := by
  have hl := h.len
  unfold endsL
  by_cases hm : i < M.length
  · rw [h.get hm, decide_eq_false (by omega : ¬ d + i = L.length), decide_eq_false (by omega : ¬ i = M.length)]
  · have : i = M.length := by omega
    subst this
    rw [decide_eq_true (rfl : M.length = M.length), Bool.true_or]
    rcases h.end_ with e | e
    · have := List.getElem?_eq_none_iff.1 e
      rw [decide_eq_true (by omega : d + M.length = L.length), Bool.true_or]
    · rw [e]; simp
theorem Sim.seg {L M R : List UInt8} {d : Nat} (h : Sim L M d R) {x y : Nat} (hxy : y ≤ M.length) : seg L (d + x) (d + y) = seg M x y := by
  unfold Go.Proofs.Ytplbdciikkpjoaa.seg
  rw [← List.drop_drop, List.drop_take, h.eq, show d + y - d = y by omega, List.take_append_of_le_length hxy]
theorem Sim.np {L M R : List UInt8} {d : Nat} (h : Sim L M d R) {i : Nat} (hi : i ≤ M.length) : ((npL L (d + i)).2.2 = 0 ↔ (npL M i).2.2 = 0) ∧ ((npL M i).2.2 = 0 → npL L (d + i) = (d + (npL M i).1, (npL M i).2.1, 0) ∧ (npL M i).1 ≤ M.length) := by
  have hr := h.run 1 (by decide) hi
  have h48 := h.is hi (c := 48) (by decide)
  have ho : (L[d + i]?.map openB).getD false = (M[i]?.map openB).getD false := by
    by_cases hm : i < M.length
    · rw [h.get hm]
    · have : i = M.length := by omega
      subst this
      rw [List.getElem?_eq_none (Nat.le_refl _)]
      rcases h.end_ with e | e <;> rw [e] <;> rfl
  have hlen := runL_le 1 (M.drop i)
  rw [List.length_drop] at hlen
  have hmis : ∀ a b, misL a b ≠ 0 := by intro a b; unfold misL; split <;> decide
  unfold npL
  rw [hr, ho]
  by_cases h1 : (M[i]?.map openB).getD false = true
  · rw [if_pos h1, if_pos h1]
    refine ⟨Iff.rfl, fun _ => ⟨by rw [Nat.add_assoc], ?_⟩⟩
    cases hg : M[i]? with
    | none => rw [hg] at h1; cases h1
    | some c =>
      have := (List.getElem?_eq_some_iff.1 hg).1
      dsimp only
      omega
  · rw [if_neg h1, if_neg h1]
    by_cases h2 : runL 1 (M.drop i) = 0
    · rw [if_pos h2, if_pos h2]
      exact ⟨⟨fun h => absurd h (hmis _ _), fun h => absurd h (hmis _ _)⟩, fun h => absurd h (hmis _ _)⟩
    · rw [if_neg h2, if_neg h2]
      by_cases h3 : M[i]? = some 48 ∧ 1 < runL 1 (M.drop i)
      · rw [if_pos h3, if_pos ⟨h48.2 h3.1, h3.2⟩]
        exact ⟨Iff.rfl, fun h => absurd (show (14 : Int) = 0 from h) (by decide)⟩
      · rw [if_neg h3, if_neg (fun hh => h3 ⟨h48.1 hh.1, hh.2⟩)]
        exact ⟨Iff.rfl, fun _ => ⟨by rw [Nat.add_assoc], by dsimp only; omega⟩⟩
/-- Pieces moved. -/
def mv (d : Nat) (sg : List (Nat × Nat)) : List (Nat × Nat) := sg.map (fun x => (d + x.1, d + x.2))
theorem mv_add (d : Nat) (sg : List (Nat × Nat)) (i : Nat) (o : Bool) (a e : Nat) : addS (mv d sg) i o (d + a) (d + e) = mv d (addS sg i o a e) := by
  unfold addS mv
  rw [List.length_map]
  split
  · simp
  · rfl
/-- Pieces that lie within. -/
def InS (n : Nat) (sg : List (Nat × Nat)) : Prop := ∀ x ∈ sg, x.2 ≤ n
theorem ins_add {n : Nat} {sg : List (Nat × Nat)} (h : InS n sg) (i : Nat) (o : Bool) (a e : Nat) (he : e ≤ n) : InS n (addS sg i o a e) := by
  unfold addS
  split
  · intro x hx
    rcases List.mem_append.1 hx with hx | hx
    · exact h x hx
    · simp at hx; subst hx; exact he
  · exact h
theorem rn0_ok {l : List UInt8} {i a : Nat} {sg : List (Nat × Nat)} (h : (npL l a).2.2 = 0) : rnGo l 0 i a sg = .ok (addS sg i (npL l a).2.1 a (npL l a).1, (npL l a).1) := by
  unfold rnGo; rw [if_neg (fun hh => hh h)]
theorem rnB {l : List UInt8} {k i a : Nat} {sg : List (Nat × Nat)} (h : (npL l a).2.2 ≠ 0) : rnGo l k i a sg = .error ((npL l a).1, (npL l a).2.2) := by
  cases k <;> (unfold rnGo; rw [if_pos h])
theorem rnS_dot {l : List UInt8} {k i a : Nat} {sg : List (Nat × Nat)} (h : (npL l a).2.2 = 0) (h2 : l[(npL l a).1]? = some 46) : rnGo l (k + 1) i a sg = rnGo l k (i + 1) ((npL l a).1 + 1) (addS sg i (npL l a).2.1 a (npL l a).1) := by
  rw [rnGo, if_neg (fun hh => hh h), if_pos h2]
theorem rnS_end {l : List UInt8} {k i a : Nat} {sg : List (Nat × Nat)} (h : (npL l a).2.2 = 0) (h2 : ¬ l[(npL l a).1]? = some 46) : rnGo l (k + 1) i a sg = .ok (addS sg i (npL l a).2.1 a (npL l a).1, (npL l a).1) := by
  rw [rnGo, if_neg (fun hh => hh h), if_neg h2]
theorem Sim.rn {L M R : List UInt8} {d : Nat} (h : Sim L M d R) : ∀ (k i a : Nat) (sg : List (Nat × Nat)), a ≤ M.length → InS M.length sg →
    (∀ x, rnGo M k i a sg = .ok x → rnGo L k i (d + a) (mv d sg) = .ok (mv d x.1, d + x.2) ∧ InS M.length x.1 ∧ x.2 ≤ M.length) ∧ ((∃ x, rnGo M k i a sg = .error x) → ∃ y, rnGo L k i (d + a) (mv d sg) = .error y ∧ y.2 ≠ 0)
  | 0, i, a, sg, ha, hs => by
    obtain ⟨h1, h2⟩ := h.np ha
    by_cases h0 : (npL M a).2.2 = 0
    · obtain ⟨h3, h4⟩ := h2 h0
      rw [rn0_ok h0, rn0_ok (h1.2 h0), h3]
      refine ⟨?_, fun hx => by obtain ⟨x, hx⟩ := hx; cases hx⟩
      intro x hx
      cases hx
      exact ⟨by rw [mv_add], ins_add hs _ _ _ _ h4, h4⟩
    · rw [rnB h0, rnB (fun hh => h0 (h1.1 hh))]
      exact ⟨(fun x hx => by cases hx), fun _ => ⟨_, rfl, fun hh => h0 (h1.1 hh)⟩⟩
  | k + 1, i, a, sg, ha, hs => by
    obtain ⟨h1, h2⟩ := h.np ha
    by_cases h0 : (npL M a).2.2 = 0
    · obtain ⟨h3, h4⟩ := h2 h0
      by_cases h46 : M[(npL M a).1]? = some 46
      · have hlt := (List.getElem?_eq_some_iff.1 h46).1
        rw [rnS_dot h0 h46, rnS_dot (h1.2 h0) (by rw [h3]; exact (h.is h4 (by decide)).2 h46), h3]
        dsimp only
        rw [mv_add, Nat.add_assoc]
        exact h.rn k (i + 1) ((npL M a).1 + 1) _ (by omega) (ins_add hs _ _ _ _ h4)
      · rw [rnS_end h0 h46, rnS_end (h1.2 h0) (by rw [h3]; exact fun hh => h46 ((h.is h4 (by decide)).1 hh)), h3]
        refine ⟨?_, fun hx => by obtain ⟨x, hx⟩ := hx; cases hx⟩
        intro x hx
        cases hx
        exact ⟨by rw [mv_add], ins_add hs _ _ _ _ h4, h4⟩
    · rw [rnB h0, rnB (fun hh => h0 (h1.1 hh))]
      exact ⟨(fun x hx => by cases hx), fun _ => ⟨_, rfl, fun hh => h0 (h1.1 hh)⟩⟩
theorem Sim.segT {L M R : List UInt8} {d : Nat} (h : Sim L M d R) {sg : List (Nat × Nat)} (hs : InS M.length sg) (i : Nat) : segT L (mv d sg) i = segT M sg i := by
  unfold Go.Proofs.Ytplbdciikkpjoaa.segT mv
  rw [List.getElem?_map]
  cases hg : sg[i]? with
  | none => rfl
  | some x =>
    show Go.Proofs.Ytplbdciikkpjoaa.seg L (d + x.1) (d + x.2) = _
    exact h.seg (hs x (List.mem_of_getElem? hg))
theorem Sim.pre {L M R : List UInt8} {d : Nat} (h : Sim L M d R) {i : Nat} (hi : i ≤ M.length) : ((preR M i).2.2 = 0 → preR L (d + i) = ((preR M i).1, (d : Int) + (preR M i).2.1, 0) ∧ ∃ e : Nat, (preR M i).2.1 = (e : Int) ∧ e ≤ M.length) ∧ ((preR M i).2.2 ≠ 0 → (preR L (d + i)).2.2 ≠ 0) := by
  have hp : prL (L.drop (d + i)) = prL (M.drop i) := by rw [h.drop i hi, pr_app h.hd]
  have hle := prL_le (M.drop i)
  rw [List.length_drop] at hle
  have he : min (d + i + prL (M.drop i)) (d + i + 48) = d + min (i + prL (M.drop i)) (i + 48) := by omega
  have hm : min (i + prL (M.drop i)) (i + 48) ≤ M.length := by omega
  have ht : preT L (d + i) (d + min (i + prL (M.drop i)) (i + 48)) = preT M i (min (i + prL (M.drop i)) (i + 48)) := by unfold preT; rw [h.seg hm]
  have hc : (L[d + i]? = some 45 ∨ L[d + i]? = some 43) ↔ (M[i]? = some 45 ∨ M[i]? = some 43) := or_congr (h.is hi (by decide)) (h.is hi (by decide))
  have hmis : ∀ a b, misL a b ≠ 0 := by intro a b; unfold misL; split <;> decide
  unfold preR
  rw [hp, he, ht]
  by_cases h1 : M[i]? = some 45 ∨ M[i]? = some 43
  · rw [if_pos h1, if_pos (hc.2 h1)]
    by_cases h2 : (fauP (preT M i (min (i + prL (M.drop i)) (i + 48)))).1 = 0
    · rw [if_pos h2, if_pos h2]
      exact ⟨fun _ => ⟨by simp, _, rfl, hm⟩, fun hh => absurd rfl hh⟩
    · rw [if_neg h2, if_neg h2]
      by_cases h3 : (fauP (preT M i (min (i + prL (M.drop i)) (i + 48)))).1 ≠ 11
      · rw [if_pos h3, if_pos h3]
        exact ⟨fun hh => absurd hh h2, fun _ => h2⟩
      · rw [if_neg h3, if_neg h3]
        refine ⟨fun hh => ?_, fun _ => ?_⟩
        · exfalso
          revert hh
          split
          · intro hh; exact absurd hh (by simp)
          · intro hh; exact absurd hh (hmis _ _)
        · split
          · simp
          · exact hmis _ _
  · rw [if_neg h1, if_neg (fun hh => h1 (hc.1 hh))]
    exact ⟨fun _ => ⟨by simp, i, rfl, hi⟩, fun hh => absurd rfl hh⟩
theorem endP_err {l : List UInt8} {a : Nat} {p : PartL} {z r : Int} (h : r ≠ 0) : (endP l a p z r).2.2 ≠ 0 := by
  unfold endP
  split
  · simp
  · split
    · simp
    · exact h
theorem Sim.endP {L M R : List UInt8} {d : Nat} (h : Sim L M d R) {a e : Nat} (he : e ≤ M.length) (p : PartL) : ((endP M a p (e : Int) 0).2.2 = 0 → endP M a p (e : Int) 0 = (p, (e : Int), 0) ∧ endP L (d + a) p ((d : Int) + (e : Int)) 0 = (p, (d : Int) + (e : Int), 0)) ∧ ((endP M a p (e : Int) 0).2.2 ≠ 0 → (endP L (d + a) p ((d : Int) + (e : Int)) 0).2.2 ≠ 0) := by
  have hz : ((d : Int) + (e : Int)).toNat = d + e := by omega
  have hb : (L[d + e]?.map fun c => isC (c.toNat : Int) 6) = some false ∨ endsL L (d + e) = true ∨ (L[d + e]?.map fun c => isC (c.toNat : Int) 6) = (M[e]?.map fun c => isC (c.toNat : Int) 6) := by
    by_cases hm : e < M.length
    · rw [h.get hm]; exact .inr (.inr rfl)
    · have : e = M.length := by omega
      subst this
      rw [h.ends (Nat.le_refl _)]
      exact .inr (.inl (by unfold endsL; simp))
  have hen := h.ends he
  have hi : (48 < (d : Int) + (e : Int) - ((d + a : Nat) : Int)) ↔ (48 < (e : Int) - (a : Int)) := by omega
  have hcond : (endsL M e = false ∧ (M[e]?.map fun c => isC (c.toNat : Int) 6) = some false) ↔ (endsL L (d + e) = false ∧ (L[d + e]?.map fun c => isC (c.toNat : Int) 6) = some false) := by
    by_cases hm : e < M.length
    · rw [h.get hm, hen]
    · have : e = M.length := by omega
      subst this
      rw [hen]
      have : endsL M M.length = true := by unfold endsL; simp
      rw [this]
      simp
  unfold Go.Proofs.Ytplbdciikkpjoaa.endP
  rw [hz, Int.toNat_natCast]
  by_cases h1 : 48 < (e : Int) - (a : Int)
  · rw [if_pos h1, if_pos (hi.2 h1)]
    exact ⟨fun hh => absurd hh (by simp), fun _ => by simp⟩
  · rw [if_neg h1, if_neg (fun hh => h1 (hi.1 hh))]
    by_cases h2 : endsL M e = false ∧ (M[e]?.map fun c => isC (c.toNat : Int) 6) = some false
    · rw [if_pos ⟨rfl, h2⟩, if_pos ⟨rfl, hcond.1 h2⟩]
      exact ⟨fun hh => absurd hh (by simp), fun _ => by simp⟩
    · rw [if_neg (fun hh => h2 hh.2), if_neg (fun hh => h2 (hcond.2 hh.2))]
      exact ⟨fun _ => ⟨rfl, rfl⟩, fun hh => absurd rfl hh⟩
theorem Sim.v {L M R : List UInt8} {d : Nat} (h : Sim L M d R) {i : Nat} (hi : i ≤ M.length) : vL L (d + i) = d + vL M i := by
  unfold vL
  by_cases h1 : M[i]? = some 118
  · rw [if_pos h1, if_pos ((h.is hi (by decide)).2 h1)]; omega
  · rw [if_neg h1, if_neg (fun hh => h1 ((h.is hi (by decide)).1 hh))]
theorem rn_err {l : List UInt8} : ∀ {k i a : Nat} {sg : List (Nat × Nat)} {x : Nat × Int}, rnGo l k i a sg = .error x → x.2 ≠ 0
  | 0, i, a, sg, x, h => by
    unfold rnGo at h
    split at h
    · rename_i h1; cases h; exact h1
    · cases h
  | k + 1, i, a, sg, x, h => by
    unfold rnGo at h
    split at h
    · rename_i h1; cases h; exact h1
    · split at h
      · exact rn_err h
      · cases h
theorem Sim.rp {L M R : List UInt8} {d : Nat} (h : Sim L M d R) {i : Nat} (hi : i ≤ M.length) : ((rpL M i).2.2 = 0 → rpL L (d + i) = ((rpL M i).1, (d : Int) + (rpL M i).2.1, 0)) ∧ ((rpL M i).2.2 ≠ 0 → (rpL L (d + i)).2.2 ≠ 0) := by
  have hv := h.v hi
  have hvl := (vL_le hi).1
  obtain ⟨h1, h2⟩ := h.rn 2 0 (vL M i) [] hvl (fun x hx => by cases hx)
  unfold rpL
  rw [hv]
  cases hg : rnGo M 2 0 (vL M i) [] with
  | error x =>
    obtain ⟨y, hy, hy2⟩ := h2 ⟨x, hg⟩
    rw [show rnGo L 2 0 (d + vL M i) [] = .error y from hy]
    dsimp only
    refine ⟨fun hh => ?_, fun _ => endP_err hy2⟩
    exfalso
    have hx : x.2 ≠ 0 := by
      intro hx
      obtain ⟨z, hz, _⟩ := h2 ⟨x, hg⟩
      have := rn_err hg
      exact this hx
    exact endP_err hx hh
  | ok x =>
    obtain ⟨h3, h4, h5⟩ := h1 x hg
    rw [show rnGo L 2 0 (d + vL M i) [] = .ok (mv d x.1, d + x.2) from h3]
    dsimp only
    rw [show (mv d x.1).length = x.1.length by simp [mv], h.segT h4, h.segT h4, h.segT h4]
    by_cases hl : x.1.length = 3
    · rw [if_pos hl, if_pos hl]
      obtain ⟨h6, h7⟩ := h.pre h5
      by_cases hz : (preR M x.2).2.2 = 0
      · obtain ⟨h8, e, h9, h10⟩ := h6 hz
        rw [h8, hz, h9]
        dsimp only
        obtain ⟨q1, q2⟩ := h.endP (a := i) h10 ⟨Go.Proofs.Ytplbdciikkpjoaa.segT M x.1 0, Go.Proofs.Ytplbdciikkpjoaa.segT M x.1 1, Go.Proofs.Ytplbdciikkpjoaa.segT M x.1 2, (preR M x.2).1, 3⟩
        refine ⟨fun hh => ?_, q2⟩
        obtain ⟨q3, q4⟩ := q1 hh
        rw [q3, q4]
      · exact ⟨fun hh => absurd hh (endP_err hz), fun _ => endP_err (h7 hz)⟩
    · rw [if_neg hl, if_neg hl]
      obtain ⟨q1, q2⟩ := h.endP (a := i) h5 ⟨Go.Proofs.Ytplbdciikkpjoaa.segT M x.1 0, Go.Proofs.Ytplbdciikkpjoaa.segT M x.1 1, Go.Proofs.Ytplbdciikkpjoaa.segT M x.1 2, [], x.1.length⟩
      rw [show (((d + x.2 : Nat) : Int)) = (d : Int) + (x.2 : Int) by omega]
      refine ⟨fun hh => ?_, q2⟩
      obtain ⟨q3, q4⟩ := q1 hh
      rw [q3, q4]

theorem hasP_app {R : List UInt8} (hR : R = [] ∨ R.head? = some 124) : ∀ (s x : List UInt8), (∀ c ∈ s, c ≠ 124) → hasP (x ++ R) s = hasP x s := by
  intro s x hs
  have key : ∀ (s x : List UInt8), (∀ c ∈ s, c ≠ 124) → ((x ++ R).take s.length = s ↔ x.take s.length = s) := by
    intro s
    induction s with
    | nil => intro x _; simp
    | cons c r ih =>
      intro x hs
      cases x with
      | nil =>
        rcases hR with rfl | h
        · simp
        · cases R with
          | nil => simp
          | cons e q =>
            have he : e = 124 := by simpa using h
            subst he
            have hc := hs c List.mem_cons_self
            simp
            intro h
            exact absurd h.symm hc
      | cons e q =>
        have := ih q (fun c hc => hs c (List.mem_cons_of_mem _ hc))
        simp only [List.cons_append, List.length_cons, List.take_succ_cons, List.cons.injEq, this]
  have := key s x hs
  unfold hasP
  rw [Bool.eq_iff_iff]
  simpa using this
theorem go_app {R : List UInt8} (hR : R = [] ∨ R.head? = some 124) (x : List UInt8) : opGo (x ++ R) 9 = opGo x 9 := by
  have hst : ∀ y ∈ ops9, ∀ z, opStep (x ++ R) z y = opStep x z y := by
    intro y hy z
    unfold opStep
    rw [hasP_app hR y.1 x (by
      have : ∀ y ∈ ops9, ∀ c ∈ y.1, c ≠ 124 := by decide
      exact this y hy)]
  unfold opGo
  have hf : ∀ (l : List (List UInt8 × Nat)), (∀ y ∈ l, y ∈ ops9) → ∀ z, l.foldl (opStep (x ++ R)) z = l.foldl (opStep x) z := by
    intro l
    induction l with
    | nil => intro _ z; rfl
    | cons y r ih =>
      intro h z
      rw [List.foldl_cons, List.foldl_cons, hst y (h y List.mem_cons_self), ih (fun w hw => h w (List.mem_cons_of_mem _ hw))]
  exact hf _ (fun y hy => List.mem_of_mem_take hy) _
theorem Sim.op {L M R : List UInt8} {d : Nat} (h : Sim L M d R) {i : Nat} (hi : i ≤ M.length) : opL L (d + i) = opL M i ∧ opE L (d + i) = d + opE M i := by
  have h1 : opL L (d + i) = opL M i := by unfold opL; rw [h.drop i hi, go_app h.hd]
  refine ⟨h1, ?_⟩
  unfold opE
  rw [h1, Nat.add_assoc, h.blk (op_in hi)]
/-- A part moved. -/
def mvI (d : Nat) (x : Item) : Item := ⟨x.p, x.f, x.err, (d : Int) + x.pos⟩
theorem Sim.item {L M R : List UInt8} {d : Nat} (h : Sim L M d R) {i : Nat} (hi : i ≤ M.length) (he : (itemL M i).err = 0) : itemL L (d + i) = mvI d (itemL M i) := by
  obtain ⟨h1, h2⟩ := h.op hi
  have h3 := (h.rp (blk_le (op_in hi))).1 he
  unfold itemL mvI
  rw [h2, h1]
  rw [show rpL L (d + opE M i) = _ from h3]
  dsimp only
  rw [show (rpL M (opE M i)).2.2 = 0 from he]
  rfl
theorem Sim.row {L M R : List UInt8} {d : Nat} (h : Sim L M d R) : ∀ (n k a : Nat), a ≤ M.length → (∀ x ∈ rowG M n k a, x.err = 0) → rowG L n k (d + a) = (rowG M n k a).map (mvI d)
  | 0, k, a, _, _ => rfl
  | n + 1, k, a, ha, hx => by
    by_cases h1 : endsL M a = true
    · rw [rowG_end h1, rowG_end (by rw [h.ends ha]; exact h1)]
      rfl
    · have h1 : endsL M a = false := by simpa using h1
      by_cases h2 : k = 32
      · subst h2
        rw [rowG_many h1] at hx
        exact absurd (hx _ List.mem_cons_self) (by simp)
      · by_cases h3 : (itemL M a).err = 0
        · rw [rowG_go h1 h2 h3] at hx ⊢
          have h4 := h.item ha h3
          have hE : opE M a ≤ M.length := blk_le (op_in ha)
          obtain ⟨e, h5, _, h6⟩ := rp_ok hE h3
          have h5' : (itemL M a).pos = (e : Int) := h5
          rw [rowG_go (by rw [h.ends ha]; exact h1) h2 (by rw [h4]; exact h3), h4, List.map_cons]
          have h7 : (mvI d (itemL M a)).pos.toNat = d + e := by show ((d : Int) + (itemL M a).pos).toNat = d + e; rw [h5']; omega
          rw [h7, h5', Int.toNat_natCast, h.blk h6, h.row n (k + 1) (Go.Proofs.Ytplbdciikkpjoaa.blk M e) (blk_le h6) (fun x hm => hx x (List.mem_cons_of_mem _ (by rw [h5', Int.toNat_natCast]; exact hm)))]
        · rw [rowG_bad h1 h2 h3] at hx
          exact absurd (hx _ List.mem_cons_self) h3
theorem Sim.dash {L M R : List UInt8} {d : Nat} (h : Sim L M d R) {i : Nat} (hi : i ≤ M.length) (he : (dashL M i).2.2 = 0) : dashL L (d + i) = ((dashL M i).1, (d : Int) + (dashL M i).2.1, 0) := by
  have hmis : ∀ a b, misL a b ≠ 0 := by intro a b; unfold misL; split <;> decide
  unfold dashL at he ⊢
  by_cases h1 : Go.Proofs.Ytplbdciikkpjoaa.blk M i = i
  · rw [if_pos h1] at he
    exact absurd he (hmis _ _)
  · rw [if_neg h1] at he ⊢
    rw [if_neg (by rw [h.blk hi]; omega), h.blk hi]
    exact (h.rp (blk_le hi)).1 he
theorem Sim.parts {L M R : List UInt8} {d : Nat} (h : Sim L M d R) {a : Nat} (ha : a ≤ M.length) (hx : ∀ x ∈ partsL M a, x.err = 0) : partsL L (d + a) = (partsL M a).map (mvI d) := by
  have hb := blk_le ha
  obtain ⟨h1, h2⟩ := h.rp hb
  have hbl := h.blk ha
  have hhd : headL L (d + a) = rpL L (d + Go.Proofs.Ytplbdciikkpjoaa.blk M a) := by unfold headL; rw [hbl]
  have hfr : isFrom L (headL L (d + a)) = isFrom M (headL M a) := by
    rw [hhd]
    unfold isFrom
    by_cases he : (headL M a).2.2 = 0
    · obtain ⟨e, h5, _, h6⟩ := rp_ok hb he
      have h5' : (headL M a).2.1 = (e : Int) := h5
      have h7 := h1 he
      rw [h7, he, h5']
      dsimp only
      rw [show ((d : Int) + (rpL M (Go.Proofs.Ytplbdciikkpjoaa.blk M a)).2.1).toNat = d + e by rw [show (rpL M (Go.Proofs.Ytplbdciikkpjoaa.blk M a)).2.1 = (e : Int) from h5]; omega, Int.toNat_natCast, h.blk h6]
      rw [Bool.eq_iff_iff]
      simp [h.is (blk_le h6) (c := 45) (by decide)]
    · have h7 := h2 he
      rw [decide_eq_false he, decide_eq_false h7, Bool.false_and, Bool.false_and]
  unfold partsL at hx ⊢
  rw [hfr]
  by_cases hf : isFrom M (headL M a) = true
  · rw [if_pos hf] at hx ⊢
    rw [if_pos hf]
    have hf' := hf
    unfold isFrom at hf'
    rw [Bool.and_eq_true] at hf'
    have he : (headL M a).2.2 = 0 := by simpa using hf'.1
    obtain ⟨e, h5, _, h6⟩ := rp_ok hb he
    have h5' : (headL M a).2.1 = (e : Int) := h5
    have h45 := hf'.2
    rw [h5', Int.toNat_natCast] at h45
    have h45 : M[Go.Proofs.Ytplbdciikkpjoaa.blk M e]? = some 45 := by simpa using h45
    have hlt := (List.getElem?_eq_some_iff.1 h45).1
    have h7 : headL L (d + a) = ((headL M a).1, (d : Int) + (e : Int), 0) := by rw [hhd, h1 he, show (rpL M (Go.Proofs.Ytplbdciikkpjoaa.blk M a)).2.1 = (e : Int) from h5]; rfl
    rw [h7, h5']
    dsimp only
    rw [show ((d : Int) + (e : Int)).toNat = d + e by omega, Int.toNat_natCast]
    have ht : (toI M e).err = 0 := hx _ (by rw [h5', Int.toNat_natCast]; unfold ftL; exact List.mem_cons_of_mem _ List.mem_cons_self)
    have hd := h.dash (i := Go.Proofs.Ytplbdciikkpjoaa.blk M e + 1) (by omega) ht
    have htI : toI L (d + e) = mvI d (toI M e) := by
      unfold toI mvI
      rw [h.blk h6, Nat.add_assoc, hd]
      dsimp only
      rw [show (dashL M (Go.Proofs.Ytplbdciikkpjoaa.blk M e + 1)).2.2 = 0 from ht]
    obtain ⟨e2, h8, h9⟩ := dash_ok (l := M) (a := Go.Proofs.Ytplbdciikkpjoaa.blk M e + 1) (by omega) ht
    have h8' : (toI M e).pos = (e2 : Int) := h8
    have hen : endsL M (Go.Proofs.Ytplbdciikkpjoaa.blk M e2) = true := by
      cases hc : endsL M (Go.Proofs.Ytplbdciikkpjoaa.blk M e2) with
      | true => rfl
      | false =>
        exfalso
        have := hx ⟨partN, 0, 10, (Go.Proofs.Ytplbdciikkpjoaa.blk M (toI M e).pos.toNat : Int)⟩ (by
          rw [h5', Int.toNat_natCast]
          unfold ftL
          rw [if_pos ⟨ht, by rw [h8', Int.toNat_natCast]; exact hc⟩]
          simp)
        exact absurd this (by simp)
    unfold ftL
    rw [htI, if_neg (fun hh => by
      have := hh.2
      rw [show (mvI d (toI M e)).pos = (d : Int) + (e2 : Int) by show (d : Int) + (toI M e).pos = _; rw [h8'], show ((d : Int) + (e2 : Int)).toNat = d + e2 by omega, h.blk h9, h.ends (blk_le h9), hen] at this
      cases this), if_neg (fun hh => by have := hh.2; rw [h8', Int.toNat_natCast, hen] at this; cases this)]
    simp [mvI]
  · rw [if_neg hf] at hx ⊢
    rw [if_neg hf]
    unfold rowL at hx ⊢
    rw [hbl]
    exact h.row 33 0 _ hb hx

theorem fold_ok : ∀ (xs : List Item) (a : Int) (cs : List Comp), (foldI a cs xs).1 = 0 → ∀ x ∈ xs, x.err = 0
  | [], a, cs, _, x, hx => by cases hx
  | y :: ys, a, cs, h, x, hx => by
    by_cases he : y.err = 0
    · rw [foldI_cons he] at h
      rcases List.mem_cons.1 hx with rfl | hx
      · exact he
      · exact fold_ok ys _ _ h x hx
    · exfalso
      unfold foldI at h
      rw [if_pos he] at h
      exact he h
theorem fold_mv (d : Nat) : ∀ (xs : List Item) (a : Int) (cs : List Comp), (∀ x ∈ xs, x.err = 0) → foldI ((d : Int) + a) cs (xs.map (mvI d)) = ((foldI a cs xs).1, (d : Int) + (foldI a cs xs).2.1, (foldI a cs xs).2.2)
  | [], a, cs, _ => rfl
  | y :: ys, a, cs, h => by
    have he := h y List.mem_cons_self
    rw [List.map_cons, foldI_cons (show (mvI d y).err = 0 from he), foldI_cons he]
    exact fold_mv d ys y.pos _ (fun x hx => h x (List.mem_cons_of_mem _ hx))
theorem one_place {l : List UInt8} (hl : l.length ≤ 256) {a : Nat} (ha : a ≤ l.length) (h : (oneSet l a).1 = 0) : ∃ e : Nat, (oneSet l a).2.1 = (e : Int) ∧ e ≤ l.length := by
  have hx := fold_ok _ _ _ h
  have hs := fold_split (partsL l a) (a : Int) [] [] hx
  rw [List.append_nil] at hs
  obtain ⟨e, h1, h2⟩ := last_le ha (partsL l a) (fun x hm => (parts_good hl ha x hm (hx x hm)).place)
  refine ⟨e, ?_, h2⟩
  unfold oneSet
  rw [hs, ← h1]
  rfl
theorem Sim.one {L M R : List UInt8} {d : Nat} (h : Sim L M d R) {a : Nat} (ha : a ≤ M.length) (he : (oneSet M a).1 = 0) : oneSet L (d + a) = (0, (d : Int) + (oneSet M a).2.1, (oneSet M a).2.2) := by
  have hx := fold_ok _ _ _ he
  unfold oneSet at he ⊢
  rw [h.parts ha hx, show (((d + a : Nat)) : Int) = (d : Int) + (a : Int) by omega, fold_mv d _ _ _ hx, he]
theorem np_end {l : List UInt8} {n a e : Nat} {S : List (List Comp)} {cs : List Comp} (h : oneSet l a = (0, (e : Int), cs)) (hb : Go.Proofs.Ytplbdciikkpjoaa.blk l e = l.length) : npGo l (n + 1) a S = (0, 0, S ++ [cs]) := by
  unfold npGo
  rw [h]
  dsimp only
  rw [Int.toNat_natCast, if_neg (by simp), if_pos hb]
theorem np_bars {l : List UInt8} {n a e x : Nat} {r : Int} {S : List (List Comp)} {cs : List Comp} (h : oneSet l a = (0, (e : Int), cs)) (hb : ¬ Go.Proofs.Ytplbdciikkpjoaa.blk l e = l.length) (hr : barsL l (Go.Proofs.Ytplbdciikkpjoaa.blk l e) (S.length + 1) = (x, r)) : npGo l (n + 1) a S = if r ≠ 0 then (r, (x : Int), []) else npGo l n x (S ++ [cs]) := by
  conv => lhs; unfold npGo
  rw [h]
  dsimp only
  rw [Int.toNat_natCast, hr, if_neg (by simp), if_neg hb]
theorem np_bad {l : List UInt8} {n a : Nat} {S : List (List Comp)} (h : (oneSet l a).1 ≠ 0) : (npGo l (n + 1) a S).1 ≠ 0 := by
  unfold npGo
  rw [if_pos h]
  exact h
/-- A range within another one: its sets, and where the other one goes on. -/
theorem Sim.go {L M R : List UInt8} {d : Nat} (h : Sim L M d R) (hl : M.length ≤ 256) (hR : R = [] ∨ ∃ R', R = 124 :: 124 :: R') : ∀ (n n' a : Nat) (S T : List (List Comp)), a ≤ M.length → (npGo M n a S).1 = 0 → n + S.length = 33 → S.length ≤ 31 → (npGo L n' (d + a) T).1 = 0 → n' + T.length = 33 → T.length ≤ 31 →
    ∃ X, (npGo M n a S).2.2 = S ++ X ∧ ((R = [] ∧ npGo L n' (d + a) T = (0, 0, T ++ X)) ∨ (R ≠ [] ∧ ∃ m', npGo L n' (d + a) T = npGo L m' (d + M.length + 2) (T ++ X) ∧ m' + (T ++ X).length = 33 ∧ (T ++ X).length ≤ 31))
  | 0, n', a, S, T, _, _, hn, hs, _, _, _ => by omega
  | n + 1, 0, a, S, T, _, _, _, _, _, hn, hs => by omega
  | n + 1, n' + 1, a, S, T, ha, hM, hn, hs, hL, hn', hs' => by
    by_cases h1 : (oneSet M a).1 = 0
    · obtain ⟨e, h2, h3⟩ := one_place hl ha h1
      have hone := h.one ha h1
      have honeM : oneSet M a = (0, (e : Int), (oneSet M a).2.2) := by rw [← h2, ← h1]
      have honeL : oneSet L (d + a) = (0, ((d + e : Nat) : Int), (oneSet M a).2.2) := by rw [hone, h2]; simp
      generalize (oneSet M a).2.2 = cs at *
      have hbl := blk_le h3
      have hlen := h.len
      have hbk := h.blk h3
      by_cases h4 : Go.Proofs.Ytplbdciikkpjoaa.blk M e = M.length
      · rw [np_end honeM h4]
        refine ⟨[cs], rfl, ?_⟩
        rw [h4] at hbk
        rcases hR with rfl | ⟨R', rfl⟩
        · rw [np_end honeL (by rw [hbk]; simpa using hlen.symm)]
          exact .inl ⟨rfl, rfl⟩
        · refine .inr ⟨by simp, n', ?_⟩
          have hne : ¬ Go.Proofs.Ytplbdciikkpjoaa.blk L (d + e) = L.length := by rw [hbk, hlen]; simp
          have hb : L[d + M.length + 1]? = some 124 := by
            have : (L.drop d)[M.length + 1]? = (M ++ 124 :: 124 :: R')[M.length + 1]? := by rw [h.eq]
            rw [List.getElem?_drop, List.getElem?_append_right (by omega)] at this
            rw [Nat.add_assoc, this]
            simp
          by_cases h32 : T.length + 1 = 32
          · exfalso
            have hbb : barsL L (Go.Proofs.Ytplbdciikkpjoaa.blk L (d + e)) (T.length + 1) = (d + M.length + 1, 12) := by rw [hbk]; unfold barsL; rw [if_pos hb, if_pos h32]
            rw [np_bars honeL hne hbb] at hL
            exact absurd hL (by simp)
          · have hbb : barsL L (Go.Proofs.Ytplbdciikkpjoaa.blk L (d + e)) (T.length + 1) = (d + M.length + 2, 0) := by rw [hbk]; unfold barsL; rw [if_pos hb, if_neg h32]
            rw [np_bars honeL hne hbb, if_neg (by simp)]
            refine ⟨rfl, ?_, ?_⟩
            · simp; omega
            · simp; omega
      · have hne : ¬ Go.Proofs.Ytplbdciikkpjoaa.blk L (d + e) = L.length := by omega
        obtain ⟨x, hx⟩ : ∃ x, barsL M (Go.Proofs.Ytplbdciikkpjoaa.blk M e) (S.length + 1) = x := ⟨_, rfl⟩
        obtain ⟨x1, x2⟩ := x
        by_cases h5 : x2 = 0
        · subst h5
          have h5 : (barsL M (Go.Proofs.Ytplbdciikkpjoaa.blk M e) (S.length + 1)).2 = 0 := by rw [hx]
          have hb : M[Go.Proofs.Ytplbdciikkpjoaa.blk M e + 1]? = some 124 := by
            unfold barsL at h5
            split at h5
            · assumption
            · exfalso
              revert h5
              show misL _ _ = 0 → False
              unfold misL
              split <;> decide
          have hlt := (List.getElem?_eq_some_iff.1 hb).1
          have h32 : S.length + 1 ≠ 32 := (bars_ok h5).2
          have hbM : barsL M (Go.Proofs.Ytplbdciikkpjoaa.blk M e) (S.length + 1) = (Go.Proofs.Ytplbdciikkpjoaa.blk M e + 2, 0) := by unfold barsL; rw [if_pos hb, if_neg h32]
          have hbL : L[d + Go.Proofs.Ytplbdciikkpjoaa.blk M e + 1]? = some 124 := by rw [Nat.add_assoc, h.get hlt]; exact hb
          by_cases h32' : T.length + 1 = 32
          · exfalso
            have hbb : barsL L (Go.Proofs.Ytplbdciikkpjoaa.blk L (d + e)) (T.length + 1) = (d + Go.Proofs.Ytplbdciikkpjoaa.blk M e + 1, 12) := by rw [hbk]; unfold barsL; rw [if_pos hbL, if_pos h32']
            rw [np_bars honeL hne hbb] at hL
            exact absurd hL (by simp)
          · have hbb : barsL L (Go.Proofs.Ytplbdciikkpjoaa.blk L (d + e)) (T.length + 1) = (d + (Go.Proofs.Ytplbdciikkpjoaa.blk M e + 2), 0) := by rw [hbk]; unfold barsL; rw [if_pos hbL, if_neg h32', Nat.add_assoc]
            rw [np_bars honeM h4 hbM, if_neg (by simp)] at hM ⊢
            rw [np_bars honeL hne hbb, if_neg (by simp)] at hL ⊢
            obtain ⟨X, q1, q2⟩ := h.go hl hR n n' (Go.Proofs.Ytplbdciikkpjoaa.blk M e + 2) (S ++ [cs]) (T ++ [cs]) (by omega) hM (by simp; omega) (by simp; omega) hL (by simp; omega) (by simp; omega)
            refine ⟨cs :: X, by rw [q1]; simp, ?_⟩
            rw [show T ++ cs :: X = T ++ [cs] ++ X by simp]
            exact q2
        · rw [np_bars honeM h4 hx, if_pos h5] at hM
          exact absurd hM h5
    · exact absurd hM (np_bad h1)
/-- Two ranges with bars between have the sets of both. -/
theorem either_sets {a b : List UInt8} (ha : (nParse a).1 = 0) (hb : (nParse b).1 = 0) (hab : (nParse (a ++ 124 :: 124 :: b)).1 = 0) : (nParse (a ++ 124 :: 124 :: b)).2.2 = (nParse a).2.2 ++ (nParse b).2.2 := by
  unfold nParse at ha hb hab ⊢
  by_cases la : 256 < a.length
  · rw [if_pos la] at ha; exact absurd ha (by simp)
  by_cases lb : 256 < b.length
  · rw [if_pos lb] at hb; exact absurd hb (by simp)
  by_cases lab : 256 < (a ++ 124 :: 124 :: b).length
  · rw [if_pos lab] at hab; exact absurd hab (by simp)
  rw [if_neg la] at ha ⊢
  rw [if_neg lb] at hb ⊢
  rw [if_neg lab] at hab ⊢
  have s1 : Sim (a ++ 124 :: 124 :: b) a 0 (124 :: 124 :: b) := ⟨rfl, .inr rfl, Nat.zero_le _⟩
  have s2 : Sim (a ++ 124 :: 124 :: b) b (a.length + 2) [] := ⟨by rw [List.append_nil, ← List.drop_drop, List.drop_left]; rfl, .inl rfl, by simp⟩
  obtain ⟨X, q1, q2⟩ := s1.go (by omega) (.inr ⟨b, rfl⟩) 33 33 0 [] [] (Nat.zero_le _) ha rfl (by simp) hab rfl (by simp)
  rcases q2 with ⟨h, _⟩ | ⟨_, m', q3, q4, q5⟩
  · cases h
  · rw [Nat.zero_add, Nat.zero_add] at q3
    rw [q3] at hab ⊢
    obtain ⟨Y, q6, q7⟩ := s2.go (by omega) (.inl rfl) 33 m' 0 [] ([] ++ X) (Nat.zero_le _) hb rfl (by simp) hab q4 q5
    rcases q7 with ⟨_, q8⟩ | ⟨h, _⟩
    · rw [Nat.add_zero] at q8
      rw [q8, q1, q6]
      simp
    · exact absurd rfl h
theorem either_takes {a b t : List UInt8} (ha : (nParse a).1 = 0) (hb : (nParse b).1 = 0) (hab : (nParse (a ++ 124 :: 124 :: b)).1 = 0) : takesL (nParse (a ++ 124 :: 124 :: b)).2.2 t = (takesL (nParse a).2.2 t || takesL (nParse b).2.2 t) := by
  rw [either_sets ha hb hab]
  unfold takesL
  rw [List.any_append]

end Go.Proofs.Ytplbdciikkpjoaa
