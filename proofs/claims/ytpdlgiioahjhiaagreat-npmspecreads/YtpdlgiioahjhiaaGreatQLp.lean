/-
  Plain: identifiers up to a place, and the same in a text that is cut off behind it. · Plain: prerelease and build up to a place, and the same in a text that is cut off behind it. · Plain: what stands behind a partial's three numbers: the document's and the program's. · Plain: the end of a partial of three numbers: the document's and the program's are one. · Plain: a partial as the document reads it, and as the program does.
-/
import Derived.Test.YtpdlgiioahjhiaaGreatQLk
import Derived.Test.YtpdlgiioahjhiaaGreatQKj
namespace Go.Proofs.YtpdlgiioahjhiaaGreat
open Go.RowKit Go.Shelf
set_option linter.unusedVariables false


def GL (L z : Nat) (r : Int) : Nat × Int := if L < z then (L, 12) else (z, r)
theorem GL_in {L z : Nat} (r : Int) (h : z ≤ L) : GL L z r = (z, r) := if_neg (by omega)
theorem GL_out {L z : Nat} (r : Int) (h : L < z) : GL L z r = (L, 12) := if_pos h
def finD (Y Z : List UInt8) (L : Nat) (y : Int × Nat) : Nat × Int :=
  if y.1 ≠ 11 then GL L y.2 y.1
  else if Z ≠ [] ∧ (Y[Y.length - 1]?.map fun c => isC (c.toNat : Int) 1) = some true then GL L Y.length 14 else GL L Y.length (misL (Y.length + Z.length) Y.length)
structure Clip (Y Z : List UInt8) (L : Nat) : Prop where
  all : ∀ c ∈ Y, preByte c = true
  stop : (∀ c, Z.head? = some c → preByte c = false) ∨ L < Y.length
theorem finD_long {Y Z : List UInt8} {L : Nat} {y : Int × Nat} (h : L < y.2) (hle : y.2 ≤ Y.length) : finD Y Z L y = (L, 12) := by
  unfold finD
  split
  · exact GL_out _ h
  · split
    · exact GL_out _ (by omega)
    · exact GL_out _ (by omega)
theorem lastE_mem {z : Nat} {xs : List (Nat × Nat)} (h : xs ≠ []) {P : Nat → Prop} (hp : ∀ x ∈ xs, P x.2) : P (lastE z xs) := by
  obtain ⟨y, hy, he⟩ := last_mem (z := z) h
  rw [he]
  exact hp y hy
theorem bad_long {p : Bool} {Y : List UInt8} {i L : Nat} {xs : List (Nat × Nat)} (hle : ∀ x ∈ xs, x.2 ≤ Y.length) (hx : ∀ x ∈ xs, L < x.2) (hn : xs ≠ []) (Z : List UInt8) :
    (∃ y, badOf p Y xs = some y ∧ finD Y Z L y = (L, 12)) ∨ (badOf p Y xs = none ∧ L < lastE i xs) := by
  cases hb : badOf p Y xs with
  | none => exact .inr ⟨rfl, lastE_mem hn hx⟩
  | some y =>
    obtain ⟨x, h1, h2⟩ := bad_mem p Y xs y hb
    exact .inl ⟨y, rfl, finD_long (by rw [← h2]; exact hx x h1) (by rw [← h2]; exact hle x h1)⟩
theorem run_all : ∀ l : List UInt8, runL 1 l = l.length → ∀ c ∈ l, isC (c.toNat : Int) 1 = true
  | [], _, c, hc => by cases hc
  | d :: r, h, c, hc => by
    cases hd : isC (d.toNat : Int) 1
    · unfold runL at h; rw [hd] at h; simp at h
    · have h' : runL 1 r = r.length := by unfold runL at h; rw [hd] at h; simpa using h
      rcases List.mem_cons.1 hc with rfl | hc
      · exact hd
      · exact run_all r h' c hc
theorem seg_left (Y Z : List UInt8) (i j : Nat) (h : j ≤ Y.length) : seg (Y ++ Z) i j = seg Y i j := by
  unfold seg; rw [List.take_append_of_le_length h]
theorem idL_stop (Y : List UInt8) (j : Nat) (h : idL (Y.drop j) = 0) (c : UInt8) (hc : Y[j]? = some c) : isId c = false := by
  cases hx : isId c
  · rfl
  · have h3 : Y.drop j = c :: Y.drop (j + 1) := by
      have hlt := (List.getElem?_eq_some_iff.1 hc)
      rw [List.drop_eq_getElem_cons hlt.1, hlt.2]
    rw [h3] at h
    unfold idL at h
    rw [hx] at h
    simp at h

set_option maxRecDepth 10000 in
theorem ids_same {Y Z : List UInt8} {L : Nat} (h : Clip Y Z L) (p : Bool) : ∀ n i, Y.length - i = n → 0 < i → i ≤ L → i ≤ Y.length → (∀ c, Y[i - 1]? = some c → isC (c.toNat : Int) 1 = false) →
    ((idsD p (Y ++ Z) L (segs (Y ++ Z) i)).2 = 0 ∧ badOf p Y (segs Y i) = none ∧ (idsD p (Y ++ Z) L (segs (Y ++ Z) i)).1 = lastE i (segs Y i) ∧ segs (Y ++ Z) i = segs Y i ∧ lastE i (segs Y i) ≤ L)
    ∨ ((idsD p (Y ++ Z) L (segs (Y ++ Z) i)).2 ≠ 0 ∧ ((∃ y, badOf p Y (segs Y i) = some y ∧ finD Y Z L y = idsD p (Y ++ Z) L (segs (Y ++ Z) i)) ∨ (badOf p Y (segs Y i) = none ∧ L < lastE i (segs Y i) ∧ idsD p (Y ++ Z) L (segs (Y ++ Z) i) = (L, 12)))) := by
  intro n
  induction n using Nat.strongRecOn with
  | _ n ih =>
    intro i hn hi hiL hiY hsep
    obtain ⟨j, hj⟩ : ∃ j, i + idL (Y.drop i) = j := ⟨_, rfl⟩
    have hdl : (Y.drop i).length = Y.length - i := List.length_drop
    have hjY : j ≤ Y.length := by have := idL_le (Y.drop i); omega
    have hends : ∀ x ∈ segs Y i, x.2 ≤ Y.length := fun x hx => (segs_ends Y _ i rfl hiY x hx).2.1
    have hdrop : (Y ++ Z).drop i = Y.drop i ++ Z := List.drop_append_of_le_length hiY
    by_cases hA : L < j
    · have hjM : L < i + idL ((Y ++ Z).drop i) := by
        rw [hdrop]
        rcases Nat.lt_or_ge (idL (Y.drop i)) (Y.drop i).length with h1 | h1
        · rw [(idL_app _ Z).1 h1]; omega
        · rw [(idL_app _ Z).2 (Nat.le_antisymm (idL_le _) h1)]; omega
      obtain ⟨r, hr, _⟩ := segs_head (Y ++ Z) i _ rfl
      have hD : idsD p (Y ++ Z) L (segs (Y ++ Z) i) = (L, 12) := by rw [hr, idsD, if_pos hjM]
      rw [hD]
      refine .inr ⟨by simp, ?_⟩
      rcases bad_long (p := p) (i := i) hends (fun x hx => Nat.lt_of_lt_of_le hA (hj ▸ segs_ge Y _ i rfl x hx)) (segs_ne Y i) Z with hb | hb
      · exact .inl hb
      · exact .inr ⟨hb.1, hb.2, rfl⟩
    · have hjL : j ≤ L := by omega
      have hZ : j = Y.length → (∀ c, Z.head? = some c → preByte c = false) := fun e => h.stop.resolve_right (by omega)
      have hjM : i + idL ((Y ++ Z).drop i) = j := by
        rw [hdrop]
        rcases Nat.lt_or_ge (idL (Y.drop i)) (Y.drop i).length with h1 | h1
        · rw [(idL_app _ Z).1 h1]; exact hj
        · have h2 : j = Y.length := by omega
          rw [(idL_app _ Z).2 (Nat.le_antisymm (idL_le _) h1)]
          have h3 : idL Z = 0 := by
            cases hZc : Z with
            | nil => rfl
            | cons c r =>
              have := hZ h2 c (by rw [hZc]; rfl)
              unfold idL
              cases hid : isId c
              · rfl
              · rw [(preByte_cases c).2 (.inl hid)] at this; cases this
          omega
      have hget : (Y ++ Z)[j]? = some 46 ↔ Y[j]? = some 46 := by
        rcases Nat.lt_or_ge j Y.length with h1 | h1
        · rw [List.getElem?_append_left h1]
        · have h2 : j = Y.length := by omega
          subst h2
          rw [List.getElem?_append_right (Nat.le_refl _), Nat.sub_self, List.getElem?_eq_none (Nat.le_refl _), ← List.head?_eq_getElem?]
          refine ⟨fun h3 => ?_, fun h3 => by cases h3⟩
          have := hZ rfl 46 h3
          revert this; decide
      by_cases hij : i = j
      · subst hij
        have hs1 : wrongD p (Y ++ Z) (seg (Y ++ Z) i i) i = misL (Y ++ Z).length i := by unfold wrongD; rw [if_pos (seg_self _ i)]
        have hs2 : wrongL p Y (seg Y i i) i = misL Y.length i := by unfold wrongL; rw [if_pos (seg_self _ i)]
        obtain ⟨r, hr, _⟩ := segs_head (Y ++ Z) i i hjM
        obtain ⟨r2, hr2, _⟩ := segs_head Y i i hj
        have hD : idsD p (Y ++ Z) L (segs (Y ++ Z) i) = (i, misL (Y ++ Z).length i) := by
          rw [hr, idsD, if_neg (by simp; omega)]
          simp only [hs1]
          rw [if_pos (misL_ne _ _)]
        have hB : badOf p Y (segs Y i) = some (misL Y.length i, i) := by
          rw [hr2, badOf]
          simp only [hs2]
          rw [if_neg (misL_ne _ _)]
        rw [hD, hB]
        refine .inr ⟨misL_ne _ _, .inl ⟨_, rfl, ?_⟩⟩
        unfold finD
        rw [List.length_append]
        by_cases he : i = Y.length
        · have hm : misL Y.length i = 11 := if_pos he
          rw [if_neg (by rw [hm]; exact fun h => h rfl), if_neg, GL_in _ (by omega), he]
          rintro ⟨_, h2⟩
          rw [← he] at h2
          cases hc : Y[i - 1]? with
          | none => rw [hc] at h2; cases h2
          | some c => rw [hc] at h2; simp [hsep c hc] at h2
        · have hm : misL Y.length i = 10 := if_neg he
          have hm2 : misL (Y.length + Z.length) i = 10 := if_neg (by omega)
          rw [hm, hm2, if_pos (by simp), GL_in _ (by omega)]
      · have hne : seg Y i j ≠ [] := by
          intro h0
          have := seg_len Y i j hjY
          rw [h0] at this
          simp at this
          omega
        have hsg : seg (Y ++ Z) i j = seg Y i j := seg_left Y Z i j hjY
        by_cases hz : (p && zeroB (seg Y i j)) = true
        · obtain ⟨r, hr, _⟩ := segs_head (Y ++ Z) i j hjM
          obtain ⟨r2, hr2, _⟩ := segs_head Y i j hj
          have hw : wrongD p (Y ++ Z) (seg (Y ++ Z) i j) j = if (Y ++ Z).length ≤ j then 11 else 14 := by
            unfold wrongD; rw [hsg, if_neg hne, if_pos hz]
          have hD : idsD p (Y ++ Z) L (segs (Y ++ Z) i) = (j, if (Y ++ Z).length ≤ j then 11 else 14) := by
            rw [hr, idsD, if_neg (by simp; omega)]
            simp only [hw]
            rw [if_pos (by split <;> decide)]
          have hz2 : p = true ∧ zeroB (seg Y i j) = true := by simpa using hz
          have hwl : wrongL p Y (seg Y i j) j = if Y[j]? = some 46 ∨ Y[j]? = some 43 then 14 else misL Y.length j := by
            unfold wrongL; rw [if_neg hne, if_neg (by rw [hz2.1, hz2.2]; simp)]
          have hwn : wrongL p Y (seg Y i j) j ≠ 0 := by
            rw [hwl]; split
            · decide
            · exact misL_ne _ _
          have hB : badOf p Y (segs Y i) = some (wrongL p Y (seg Y i j) j, j) := by
            rw [hr2, badOf, if_neg hwn]
          rw [hD, hB]
          refine .inr ⟨by dsimp only; split <;> decide, .inl ⟨_, rfl, ?_⟩⟩
          unfold finD
          rw [hwl, List.length_append]
          rcases Nat.lt_or_ge j Y.length with h1 | h1
          · have hc : Y[j]? = some Y[j] := List.getElem?_eq_getElem h1
            have hid := idL_stop Y j (segs_ends Y _ i rfl hiY (i, j) (by rw [hr2]; exact List.mem_cons_self)).2.2 _ hc
            have hp := (preByte_cases Y[j]).1 (h.all _ (List.getElem_mem h1))
            have hor : Y[j]? = some 46 ∨ Y[j]? = some 43 := by
              rw [hc]
              rcases hp with h2 | h2 | h2
              · rw [hid] at h2; cases h2
              · exact .inl (by rw [h2])
              · exact .inr (by rw [h2])
            rw [if_pos hor, if_pos (by simp), if_neg (by omega), GL_in _ hjL]
          · have h2 : j = Y.length := by omega
            have hnone : Y[j]? = none := List.getElem?_eq_none h1
            have hm : misL Y.length j = 11 := if_pos h2
            rw [show (if Y[j]? = some 46 ∨ Y[j]? = some 43 then (14 : Int) else misL Y.length j) = 11 by rw [if_neg (by rw [hnone]; simp), hm], if_neg (by simp)]
            have hld : (Y[Y.length - 1]?.map fun c => isC (c.toNat : Int) 1) = some true := by
              have hdig : runL 1 (seg Y i j) = (seg Y i j).length := by
                have h9 := hz2.2
                unfold zeroB digB at h9
                simp at h9
                exact h9.2.2
              have hlt : Y.length - 1 < Y.length := by omega
              have hmem : Y[Y.length - 1] ∈ seg Y i j := by
                unfold seg
                rw [h2, List.take_length]
                rw [List.mem_iff_getElem?]
                exact ⟨Y.length - 1 - i, by rw [List.getElem?_drop, List.getElem?_eq_getElem (by omega)]; congr 2; omega⟩
              rw [List.getElem?_eq_getElem hlt]
              simp [run_all _ hdig _ hmem]
            by_cases hZe : Z = []
            · rw [if_neg (fun x => x.1 hZe), hZe, if_pos (by simp; omega), GL_in _ (by omega), h2]
              simp [misL]
            · have : 0 < Z.length := List.length_pos_iff.2 hZe
              rw [if_pos ⟨hZe, hld⟩, if_neg (by omega), GL_in _ (by omega), h2]
        · have hz' : (p && zeroB (seg Y i j)) = false := by simpa using hz
          have hwD : wrongD p (Y ++ Z) (seg (Y ++ Z) i j) j = 0 := by rw [hsg]; unfold wrongD; rw [if_neg hne, if_neg hz]
          have hwL : wrongL p Y (seg Y i j) j = 0 := ids_good p Y i j hne hz'
          by_cases hdot : Y[j]? = some 46
          · have hlt := (List.getElem?_eq_some_iff.1 hdot).1
            have e1 := segs_dot Y i j hj hdot
            have e2 := segs_dot (Y ++ Z) i j hjM (hget.2 hdot)
            have hB : badOf p Y (segs Y i) = badOf p Y (segs Y (j + 1)) := by rw [e1, badOf, if_pos hwL]
            have hLE : lastE i (segs Y i) = lastE (j + 1) (segs Y (j + 1)) := by rw [e1, last_cons _ _ _ (segs_ne Y _), segs_lastE]
            by_cases hLj : L ≤ j
            · have hD : idsD p (Y ++ Z) L (segs (Y ++ Z) i) = (L, 12) := by
                rw [e2, idsD, if_neg (by simp; omega)]
                simp only [hwD]
                rw [if_neg (by simp), if_neg (segs_ne _ _), if_pos hLj]
                rw [show j = L by omega]
              rw [hD, hB, hLE]
              refine .inr ⟨by simp, ?_⟩
              rcases bad_long (p := p) (i := j + 1) (fun x hx => (segs_ends Y _ (j + 1) rfl (by omega) x hx).2.1) (fun x hx => Nat.lt_of_lt_of_le (show L < j + 1 by omega) (by have := segs_ge Y _ (j + 1) rfl x hx; omega)) (segs_ne Y (j + 1)) Z with hb | hb
              · exact .inl hb
              · exact .inr ⟨hb.1, hb.2, rfl⟩
            · have hD : idsD p (Y ++ Z) L (segs (Y ++ Z) i) = idsD p (Y ++ Z) L (segs (Y ++ Z) (j + 1)) := by
                rw [e2, idsD, if_neg (by simp; omega)]
                simp only [hwD]
                rw [if_neg (by simp), if_neg (segs_ne _ _), if_neg hLj]
              have := ih (Y.length - (j + 1)) (by omega) (j + 1) rfl (by omega) (by omega) (by omega) (fun c hc => by
                rw [Nat.add_sub_cancel, hdot] at hc
                injection hc with hc
                subst hc
                decide)
              rw [hD, hB, hLE]
              rcases this with ⟨a1, a2, a3, a4, a5⟩ | this
              · exact .inl ⟨a1, a2, a3, by rw [e1, e2, a4], a5⟩
              · exact .inr this
          · have hdot2 : ¬ (Y ++ Z)[j]? = some 46 := fun h2 => hdot (hget.1 h2)
            have e1 := segs_last Y i j hj hdot
            have e2 := segs_last (Y ++ Z) i j hjM hdot2
            have hD : idsD p (Y ++ Z) L (segs (Y ++ Z) i) = (j, 0) := by
              rw [e2, idsD, if_neg (by simp; omega)]
              simp only [hwD]
              simp
            have hB : badOf p Y (segs Y i) = none := by rw [e1, badOf, if_pos hwL]; rfl
            have hLE : lastE i (segs Y i) = j := by rw [e1]; rfl
            rw [hD, hB, hLE, e1, e2]
            exact .inl ⟨rfl, rfl, rfl, rfl, hjL⟩

end Go.Proofs.YtpdlgiioahjhiaaGreat

namespace Go.Proofs.YtpdlgiioahjhiaaGreat
open Go.RowKit Go.Shelf
set_option linter.unusedVariables false


def bD (l : List UInt8) (L q : Nat) : Nat × Int := if l[q]? = some 43 then (if L ≤ q then (q, 12) else idsD false l L (segs l (q + 1))) else (q, 0)
def tD (l : List UInt8) (L e : Nat) : Nat × Int :=
  if l[e]? = some 45 then (if L ≤ e then (e, 12) else if (idsD true l L (segs l (e + 1))).2 ≠ 0 then idsD true l L (segs l (e + 1)) else bD l L (idsD true l L (segs l (e + 1))).1) else bD l L e
def preD (l : List UInt8) (e : Nat) : List (List UInt8) := if l[e]? = some 45 then (segs l (e + 1)).map fun x => seg l x.1 x.2 else []
theorem ids_long {p : Bool} {Y : List UInt8} {i L : Nat} (hi : L < i) (hY : i ≤ Y.length) : (∀ y, idsR p Y i = .error y → L < y.2 ∧ y.2 ≤ Y.length) ∧ (∀ z, idsR p Y i = .ok z → L < z.2 ∧ z.2 ≤ Y.length) := by
  have hends : ∀ x ∈ segs Y i, L < x.2 ∧ x.2 ≤ Y.length := fun x hx => ⟨by have := segs_ge Y _ i rfl x hx; omega, (segs_ends Y _ i rfl hY x hx).2.1⟩
  unfold idsR
  cases hb : badOf p Y (segs Y i) with
  | none =>
    refine ⟨fun y h => (nomatch h), fun z h => ?_⟩
    injection h with h
    rw [← h]
    exact lastE_mem (P := fun n => L < n ∧ n ≤ Y.length) (segs_ne Y i) hends
  | some x =>
    refine ⟨fun y h => ?_, fun z h => (nomatch h)⟩
    injection h with h
    obtain ⟨u, h1, h2⟩ := bad_mem p Y _ x hb
    rw [← h, ← h2]
    exact hends u h1
theorem build_long {Y : List UInt8} {q L : Nat} (hq : q ≤ Y.length) (h : L ≤ q ∧ Y[q]? = some 43 ∨ L < q) (pre : List (Nat × Nat)) : (∀ y, buildR Y q pre = .error y → L < y.2 ∧ y.2 ≤ Y.length) ∧ (∀ z, buildR Y q pre = .ok z → L < Y.length ∧ z.1 = pre) := by
  unfold buildR
  by_cases hc : Y[q]? = some 43
  · rw [if_pos hc]
    have hlt := (List.getElem?_eq_some_iff.1 hc).1
    have hl := ids_long (p := false) (Y := Y) (i := q + 1) (L := L) (by omega) (by omega)
    cases hi : idsR false Y (q + 1) with
    | error x =>
      refine ⟨fun y h => ?_, fun z h => (nomatch h)⟩
      injection h with h
      rw [← h]
      exact hl.1 x hi
    | ok z =>
      obtain ⟨b, q2⟩ := z
      have h2 := hl.2 _ hi
      dsimp only at h2 ⊢
      by_cases hlt2 : q2 < Y.length
      · rw [if_pos hlt2]
        refine ⟨fun y h => ?_, fun z h => (nomatch h)⟩
        injection h with h
        rw [← h]
        exact h2
      · rw [if_neg hlt2]
        refine ⟨fun y h => (nomatch h), fun z h => ?_⟩
        injection h with h
        rw [← h]
        exact ⟨by omega, rfl⟩
  · rw [if_neg hc]
    have hL : L < q := h.resolve_left (fun x => hc x.2)
    by_cases hlt2 : q < Y.length
    · rw [if_pos hlt2]
      refine ⟨fun y h => ?_, fun z h => (nomatch h)⟩
      injection h with h
      rw [← h]
      exact ⟨hL, hq⟩
    · rw [if_neg hlt2]
      refine ⟨fun y h => (nomatch h), fun z h => ?_⟩
      injection h with h
      rw [← h]
      exact ⟨by omega, rfl⟩
theorem last_nodot (l : List UInt8) : ∀ n i, l.length - i = n → ¬ l[lastE i (segs l i)]? = some 46 := by
  intro n
  induction n using Nat.strongRecOn with
  | _ n ih =>
    intro i hn
    by_cases h : l[i + idL (l.drop i)]? = some 46
    · have hlt := (List.getElem?_eq_some_iff.1 h).1
      rw [segs_dot l i _ rfl h, last_cons _ _ _ (segs_ne l _), segs_lastE]
      exact ih (l.length - (i + idL (l.drop i) + 1)) (by omega) _ rfl
    · rw [segs_last l i _ rfl h]
      exact h
theorem plus_or_end {Y Z : List UInt8} {L : Nat} (h : Clip Y Z L) {q : Nat} (hq : q < Y.length) (h0 : idL (Y.drop q) = 0) (hd : ¬ Y[q]? = some 46) : Y[q]? = some 43 := by
  have hc : Y[q]? = some Y[q] := List.getElem?_eq_getElem hq
  rcases (preByte_cases Y[q]).1 (h.all _ (List.getElem_mem hq)) with h1 | h1 | h1
  · rw [idL_stop Y q h0 _ hc] at h1; cases h1
  · exact absurd (by rw [hc, h1]) hd
  · rw [hc, h1]
theorem build_same {Y Z : List UInt8} {L q : Nat} (h : Clip Y Z L) (hq : q ≤ Y.length) (hqL : q ≤ L) (h0 : idL (Y.drop q) = 0) (hd : ¬ Y[q]? = some 46) (pre : List (Nat × Nat)) :
    (∃ y, buildR Y q pre = .error y ∧ (((bD (Y ++ Z) L q).2 ≠ 0 ∧ finD Y Z L y = bD (Y ++ Z) L q) ∨ ((bD (Y ++ Z) L q).2 = 0 ∧ y = (10, (bD (Y ++ Z) L q).1) ∧ (bD (Y ++ Z) L q).1 ≤ L ∧ (Y ++ Z)[(bD (Y ++ Z) L q).1]? = some 43)))
    ∨ (∃ z, buildR Y q pre = .ok z ∧ z.1 = pre ∧ (((bD (Y ++ Z) L q).2 ≠ 0 ∧ L < Y.length ∧ bD (Y ++ Z) L q = (L, 12)) ∨ (bD (Y ++ Z) L q = (Y.length, 0) ∧ Y.length ≤ L))) := by
  rcases Nat.lt_or_ge q Y.length with h1 | h1
  · have h43 := plus_or_end h h1 h0 hd
    have hM : (Y ++ Z)[q]? = some 43 := by rw [List.getElem?_append_left h1]; exact h43
    by_cases hL : L ≤ q
    · have hD : bD (Y ++ Z) L q = (L, 12) := by
        unfold bD
        rw [if_pos hM, if_pos hL, show q = L by omega]
      rw [hD]
      have hl := build_long hq (.inl ⟨hL, h43⟩) pre
      cases hb : buildR Y q pre with
      | error y => exact .inl ⟨y, rfl, .inl ⟨by simp, finD_long (hl.1 y hb).1 (hl.1 y hb).2⟩⟩
      | ok z => exact .inr ⟨z, rfl, (hl.2 z hb).2, .inl ⟨by simp, (hl.2 z hb).1, rfl⟩⟩
    · have hD : bD (Y ++ Z) L q = idsD false (Y ++ Z) L (segs (Y ++ Z) (q + 1)) := by
        unfold bD
        rw [if_pos hM, if_neg hL]
      have hB : buildR Y q pre = match idsR false Y (q + 1) with | .error x => .error x | .ok (b, q2) => if q2 < Y.length then .error (10, q2) else .ok (pre, b) := by
        unfold buildR
        rw [if_pos h43]
        cases idsR false Y (q + 1) <;> rfl
      have hi : idsR false Y (q + 1) = match badOf false Y (segs Y (q + 1)) with | some x => .error x | none => .ok (segs Y (q + 1), lastE (q + 1) (segs Y (q + 1))) := rfl
      have hle := lastE_ends Y (q + 1) (by omega)
      rw [hD, hB, hi]
      rcases ids_same h false _ (q + 1) rfl (by omega) (by omega) (by omega) (fun c hc => by
        rw [Nat.add_sub_cancel, h43] at hc
        injection hc with hc
        subst hc
        decide) with ⟨a1, a2, a3, a4, a5⟩ | ⟨a1, ⟨y, a2, a3⟩ | ⟨a2, a3, a4⟩⟩
      · rw [a2]
        dsimp only
        by_cases hlt : lastE (q + 1) (segs Y (q + 1)) < Y.length
        · rw [if_pos hlt]
          refine .inl ⟨_, rfl, .inr ⟨a1, by rw [a3], by rw [a3]; exact a5, ?_⟩⟩
          rw [a3, List.getElem?_append_left hlt]
          exact plus_or_end h hlt hle.2 (last_nodot Y _ _ rfl)
        · rw [if_neg hlt]
          have he : lastE (q + 1) (segs Y (q + 1)) = Y.length := by omega
          exact .inr ⟨_, rfl, rfl, .inr ⟨Prod.ext (by rw [a3, he]) a1, by omega⟩⟩
      · rw [a2]
        exact .inl ⟨y, rfl, .inl ⟨a1, a3⟩⟩
      · rw [a2]
        dsimp only
        by_cases hlt : lastE (q + 1) (segs Y (q + 1)) < Y.length
        · rw [if_pos hlt]
          exact .inl ⟨_, rfl, .inl ⟨a1, by rw [a4]; exact finD_long a3 hle.1⟩⟩
        · rw [if_neg hlt]
          exact .inr ⟨_, rfl, rfl, .inl ⟨a1, by omega, a4⟩⟩
  · have he : q = Y.length := by omega
    have hn : Y[q]? = none := List.getElem?_eq_none h1
    have hZ := h.stop.resolve_right (by omega)
    have hM : ¬ (Y ++ Z)[q]? = some 43 := by
      rw [List.getElem?_append_right h1, he, Nat.sub_self, ← List.head?_eq_getElem?]
      intro h3
      have := hZ 43 h3
      revert this; decide
    refine .inr ⟨(pre, []), ?_, rfl, .inr ⟨?_, by omega⟩⟩
    · unfold buildR
      rw [hn, if_neg (by simp), if_neg (by omega)]
    · unfold bD
      rw [if_neg hM, he]
theorem tail_clip {Y Z : List UInt8} {L : Nat} (h : Clip Y Z L) (hY : Y[0]? = some 45 ∨ Y[0]? = some 43) :
    (∃ y, tailR Y 0 = .error y ∧ (((tD (Y ++ Z) L 0).2 ≠ 0 ∧ finD Y Z L y = tD (Y ++ Z) L 0) ∨ ((tD (Y ++ Z) L 0).2 = 0 ∧ y = (10, (tD (Y ++ Z) L 0).1) ∧ (tD (Y ++ Z) L 0).1 ≤ L ∧ (Y ++ Z)[(tD (Y ++ Z) L 0).1]? = some 43)))
    ∨ (∃ z, tailR Y 0 = .ok z ∧ (((tD (Y ++ Z) L 0).2 ≠ 0 ∧ L < Y.length ∧ tD (Y ++ Z) L 0 = (L, 12)) ∨ (tD (Y ++ Z) L 0 = (Y.length, 0) ∧ Y.length ≤ L ∧ (z.1.map fun x => seg Y x.1 x.2) = preD (Y ++ Z) 0))) := by
  have h0lt : 0 < Y.length := by rcases hY with hY | hY <;> exact (List.getElem?_eq_some_iff.1 hY).1
  have hM : (Y ++ Z)[0]? = Y[0]? := List.getElem?_append_left h0lt
  by_cases h45 : Y[0]? = some 45
  · have hT : tailR Y 0 = match idsR true Y 1 with | .error x => .error x | .ok (pre, p) => buildR Y p pre := by unfold tailR; rw [if_pos h45]; cases h9 : idsR true Y 1 <;> rfl
    by_cases hL : L ≤ 0
    · have hD : tD (Y ++ Z) L 0 = (L, 12) := by
        unfold tD
        rw [hM, if_pos h45, if_pos hL, show L = 0 by omega]
      rw [hD]
      have hl := ids_long (p := true) (Y := Y) (i := 1) (L := L) (by omega) (by omega)
      cases hi : idsR true Y 1 with
      | error x =>
        rw [hT, hi]
        exact .inl ⟨x, rfl, .inl ⟨by simp, finD_long (hl.1 x hi).1 (hl.1 x hi).2⟩⟩
      | ok z =>
        obtain ⟨pre, p⟩ := z
        have h2 := hl.2 _ hi
        rw [hT, hi]
        dsimp only at h2 ⊢
        have hb := build_long (Y := Y) (q := p) (L := L) h2.2 (.inr h2.1) pre
        cases hb2 : buildR Y p pre with
        | error y => exact .inl ⟨y, rfl, .inl ⟨by simp, finD_long (hb.1 y hb2).1 (hb.1 y hb2).2⟩⟩
        | ok z => exact .inr ⟨z, rfl, .inl ⟨by simp, (hb.2 z hb2).1, rfl⟩⟩
    · have hi : idsR true Y 1 = match badOf true Y (segs Y 1) with | some x => .error x | none => .ok (segs Y 1, lastE 1 (segs Y 1)) := rfl
      have hle := lastE_ends Y 1 (by omega)
      have hD : tD (Y ++ Z) L 0 = if (idsD true (Y ++ Z) L (segs (Y ++ Z) 1)).2 ≠ 0 then idsD true (Y ++ Z) L (segs (Y ++ Z) 1) else bD (Y ++ Z) L (idsD true (Y ++ Z) L (segs (Y ++ Z) 1)).1 := by
        unfold tD
        rw [hM, if_pos h45, if_neg hL]
      rw [hT, hi]
      rcases ids_same h true _ 1 rfl (by omega) (by omega) (by omega) (fun c hc => by
        rw [Nat.sub_self, h45] at hc
        injection hc with hc
        subst hc
        decide) with ⟨a1, a2, a3, a4, a5⟩ | ⟨a1, ⟨y, a2, a3⟩ | ⟨a2, a3, a4⟩⟩
      · rw [a2]
        dsimp only
        have hD2 : tD (Y ++ Z) L 0 = bD (Y ++ Z) L (lastE 1 (segs Y 1)) := by rw [hD, if_neg (by simp [a1]), a3]
        rw [hD2]
        have hpre : ((segs Y 1).map fun x => seg Y x.1 x.2) = preD (Y ++ Z) 0 := by
          unfold preD
          rw [hM, if_pos h45, Nat.zero_add, a4]
          refine List.map_congr_left fun x hx => ?_
          rw [seg_left Y Z x.1 x.2 (segs_ends Y _ 1 rfl (by omega) x hx).2.1]
        rcases build_same h hle.1 a5 hle.2 (last_nodot Y _ _ rfl) (segs Y 1) with hx | ⟨z, b1, b2, b3⟩
        · exact .inl hx
        · refine .inr ⟨z, b1, ?_⟩
          rcases b3 with b3 | b3
          · exact .inl b3
          · exact .inr ⟨b3.1, b3.2, by rw [b2]; exact hpre⟩
      · rw [a2]
        have hD2 : tD (Y ++ Z) L 0 = idsD true (Y ++ Z) L (segs (Y ++ Z) 1) := by rw [hD, if_pos a1]
        rw [hD2]
        exact .inl ⟨y, rfl, .inl ⟨a1, a3⟩⟩
      · rw [a2]
        have hD2 : tD (Y ++ Z) L 0 = (L, 12) := by rw [hD, if_pos a1, a4]
        rw [hD2]
        dsimp only
        have hb := build_long (Y := Y) (q := lastE 1 (segs Y 1)) (L := L) hle.1 (.inr a3) (segs Y 1)
        cases hb2 : buildR Y (lastE 1 (segs Y 1)) (segs Y 1) with
        | error y => exact .inl ⟨y, rfl, .inl ⟨by simp, finD_long (hb.1 y hb2).1 (hb.1 y hb2).2⟩⟩
        | ok z => exact .inr ⟨z, rfl, .inl ⟨by simp, (hb.2 z hb2).1, rfl⟩⟩
  · have h43 : Y[0]? = some 43 := hY.resolve_left h45
    have hT : tailR Y 0 = buildR Y 0 [] := by unfold tailR; rw [if_neg h45]
    have hD : tD (Y ++ Z) L 0 = bD (Y ++ Z) L 0 := by unfold tD; rw [hM, if_neg h45]
    have hpre : preD (Y ++ Z) 0 = [] := by unfold preD; rw [hM, if_neg h45]
    rw [hT, hD, hpre]
    have h0 : idL (Y.drop 0) = 0 := by
      cases hYc : Y with
      | nil => rfl
      | cons c r =>
        rw [hYc] at h43
        injection h43 with h43
        subst h43
        rfl
    rcases build_same h (Nat.zero_le _) (Nat.zero_le _) h0 (by rw [h43]; decide) [] with hx | ⟨z, b1, b2, b3⟩
    · exact .inl hx
    · refine .inr ⟨z, b1, ?_⟩
      rcases b3 with b3 | b3
      · exact .inl b3
      · exact .inr ⟨b3.1, b3.2, by rw [b2]; rfl⟩

end Go.Proofs.YtpdlgiioahjhiaaGreat

namespace Go.Proofs.YtpdlgiioahjhiaaGreat
open Go.RowKit Go.Shelf
set_option linter.unusedVariables false


theorem ids_sh (p : Bool) (X Y : List UInt8) (i : Nat) : idsR p (X ++ Y) (X.length + i) = match idsR p Y i with | .error y => .error (y.1, X.length + y.2) | .ok z => .ok (z.1.map (shP X.length), X.length + z.2) := by
  unfold idsR
  rw [segs_sh X Y _ i rfl, bad_sh, last_sh]
  cases badOf p Y (segs Y i) <;> rfl
theorem build_sh (X Y : List UInt8) (q : Nat) (pre : List (Nat × Nat)) : buildR (X ++ Y) (X.length + q) (pre.map (shP X.length)) = match buildR Y q pre with | .error y => .error (y.1, X.length + y.2) | .ok z => .ok (z.1.map (shP X.length), z.2.map (shP X.length)) := by
  unfold buildR
  rw [get_sh, List.length_append]
  by_cases h : Y[q]? = some 43
  · rw [if_pos h, if_pos h, Nat.add_assoc, ids_sh]
    cases hi : idsR false Y (q + 1) with
    | error y => rfl
    | ok z =>
      obtain ⟨b, q2⟩ := z
      dsimp only
      by_cases h2 : q2 < Y.length
      · rw [if_pos h2, if_pos (by omega)]
      · rw [if_neg h2, if_neg (by omega)]
  · rw [if_neg h, if_neg h]
    by_cases h2 : q < Y.length
    · rw [if_pos h2, if_pos (by omega)]
    · rw [if_neg h2, if_neg (by omega)]
      rfl
theorem tail_sh (X Y : List UInt8) : tailR (X ++ Y) X.length = match tailR Y 0 with | .error y => .error (y.1, X.length + y.2) | .ok z => .ok (z.1.map (shP X.length), z.2.map (shP X.length)) := by
  have hg : (X ++ Y)[X.length]? = Y[0]? := get_sh X Y 0
  unfold tailR
  rw [hg]
  by_cases h : Y[0]? = some 45
  · rw [if_pos h, if_pos h, ids_sh]
    cases hi : idsR true Y (0 + 1) with
    | error y => rfl
    | ok z =>
      obtain ⟨b, q2⟩ := z
      exact build_sh X Y q2 b
  · rw [if_neg h, if_neg h]
    exact build_sh X Y 0 []
def X5 : List UInt8 := [48, 46, 48, 46, 48]
theorem nums_X5 (Y : List UInt8) (hY : Y[0]? = some 45 ∨ Y[0]? = some 43) : numsR (X5 ++ Y) = .ok (1, 2, 3, 4, 5) := by
  have h1 : numR (X5 ++ Y) 0 = .ok 1 := num_at [] [48] (46 :: 48 :: 46 :: 48 :: Y) rfl (fun c hc => by injection hc with hc; subst hc; decide)
  have h2 : dotR (X5 ++ Y) 1 = .ok 2 := rfl
  have h3 : numR (X5 ++ Y) 2 = .ok 3 := num_at [48, 46] [48] (46 :: 48 :: Y) rfl (fun c hc => by injection hc with hc; subst hc; decide)
  have h4 : dotR (X5 ++ Y) 3 = .ok 4 := rfl
  have h5 : numR (X5 ++ Y) 4 = .ok 5 := num_at [48, 46, 48, 46] [48] Y rfl (fun c hc => by
    rw [← List.head?_eq_getElem?, hc] at hY
    rcases hY with hY | hY <;> (injection hY with hY; subst hY; decide))
  unfold numsR
  rw [h1]; dsimp only
  rw [h2]; dsimp only
  rw [h3]; dsimp only
  rw [h4]; dsimp only
  rw [h5]
theorem parse_X5 (Y : List UInt8) (hY : Y[0]? = some 45 ∨ Y[0]? = some 43) (hl : Y.length ≤ 48) :
    fauP (X5 ++ Y) = (match tailR Y 0 with | .error y => (y.1, 5 + y.2) | .ok _ => (0, 0)) ∧ (∀ z, tailR Y 0 = .ok z → (semP (X5 ++ Y)).pre = z.1.map fun x => seg Y x.1 x.2) := by
  have hT := tail_sh X5 Y
  have h5 : X5.length = 5 := rfl
  rw [h5] at hT
  have hp : parseR (X5 ++ Y) = match tailR (X5 ++ Y) 5 with | .error x => .error x | .ok (pre, bld) => .ok ⟨1, 2, 3, 4, 5, pre, bld⟩ := by
    unfold parseR
    rw [if_neg (by rw [List.length_append, h5]; omega), nums_X5 Y hY]
    dsimp only
    cases tailR (X5 ++ Y) 5 <;> rfl
  rw [hT] at hp
  cases hc : tailR Y 0 with
  | error y =>
    rw [hc] at hp
    refine ⟨by unfold fauP; rw [hp], fun z h => (nomatch h)⟩
  | ok z =>
    rw [hc] at hp
    refine ⟨by unfold fauP; rw [hp], fun z' h => ?_⟩
    injection h with h
    subst h
    unfold semP
    rw [hp]
    show ((z.1.map (shP 5)).map fun x => seg (X5 ++ Y) x.1 x.2) = _
    rw [List.map_map]
    refine List.map_congr_left fun x _ => ?_
    exact seg_sh X5 Y x.1 x.2
theorem prL_all : ∀ l : List UInt8, ∀ c ∈ l.take (prL l), preByte c = true
  | [], c, h => by simp at h
  | d :: r, c, h => by
    cases hd : preByte d
    · rw [prL, hd] at h; simp at h
    · rw [prL, if_pos hd, List.take_succ_cons] at h
      rcases List.mem_cons.1 h with rfl | h
      · exact hd
      · exact prL_all r c h
theorem prL_stop : ∀ l : List UInt8, ∀ c, (l.drop (prL l)).head? = some c → preByte c = false
  | [], c, h => by simp at h
  | d :: r, c, h => by
    cases hd : preByte d
    · rw [prL, hd] at h
      injection h with h
      rw [← h]; exact hd
    · rw [prL, if_pos hd, List.drop_succ_cons] at h
      exact prL_stop r c h
theorem bD_sh (X M : List UInt8) (L q : Nat) : bD (X ++ M) (X.length + L) (X.length + q) = (X.length + (bD M L q).1, (bD M L q).2) := by
  unfold bD
  rw [get_sh]
  by_cases h : M[q]? = some 43
  · rw [if_pos h, if_pos h]
    by_cases h2 : L ≤ q
    · rw [if_pos h2, if_pos (by omega)]
    · rw [if_neg h2, if_neg (by omega), Nat.add_assoc, segs_sh X M _ _ rfl, idsD_sh false X M L _ (segs_ne M _)]
  · rw [if_neg h, if_neg h]
theorem tD_sh (X M : List UInt8) (L : Nat) : tD (X ++ M) (X.length + L) X.length = (X.length + (tD M L 0).1, (tD M L 0).2) := by
  have hg : (X ++ M)[X.length]? = M[0]? := get_sh X M 0
  have hb := bD_sh X M L 0
  unfold tD
  rw [hg]
  by_cases h : M[0]? = some 45
  · rw [if_pos h, if_pos h]
    by_cases h2 : L ≤ 0
    · rw [if_pos h2, if_pos (by omega)]; rfl
    · rw [if_neg h2, if_neg (by omega), segs_sh X M _ 1 rfl, idsD_sh true X M L _ (segs_ne M _)]
      dsimp only
      by_cases h3 : (idsD true M L (segs M (0 + 1))).2 ≠ 0
      · rw [if_pos h3, if_pos h3]
      · rw [if_neg h3, if_neg h3]
        exact bD_sh X M L _
  · rw [if_neg h, if_neg h]
    exact hb
theorem preD_sh (X M : List UInt8) : preD (X ++ M) X.length = preD M 0 := by
  have hg : (X ++ M)[X.length]? = M[0]? := get_sh X M 0
  unfold preD
  rw [hg, segs_sh X M _ 1 rfl, List.map_map]
  by_cases h : M[0]? = some 45
  · rw [if_pos h, if_pos h]
    exact List.map_congr_left fun x _ => seg_sh X M x.1 x.2
  · rw [if_neg h, if_neg h]

end Go.Proofs.YtpdlgiioahjhiaaGreat

namespace Go.Proofs.YtpdlgiioahjhiaaGreat
open Go.RowKit Go.Shelf
set_option linter.unusedVariables false


theorem wrap_small (n : Int) (h : 0 ≤ n) (h2 : n ≤ 2000) : wrap64 n = n := by
  unfold wrap64
  omega
theorem wr5 (e q : Nat) (h : e ≤ 256) (h2 : q ≤ 256) : wrap64 (wrap64 ((e : Int) + ((5 + q : Nat) : Int)) - 5) = ((e + q : Nat) : Int) := by
  rw [wrap_small ((e : Int) + ((5 + q : Nat) : Int)) (by omega) (by omega), wrap_small _ (by omega) (by omega)]
  omega
theorem endP_out {l : List UInt8} {a : Nat} {p : PartL} {z r : Int} (h : 48 < z - a) : endP l a p z r = (partN, (a : Int) + 48, 12) := if_pos h
theorem endP_errD {l : List UInt8} {a : Nat} {p : PartL} {z r : Int} (h : ¬ 48 < z - a) (hr : r ≠ 0) : endP l a p z r = (p, z, r) := by
  unfold endP; rw [if_neg h, if_neg (fun x => hr x.1)]
theorem endP_GL {l : List UInt8} {a e L z : Nat} {p : PartL} {r : Int} (hL : a + 48 - e = L) (he : e ≤ a + 48) (hr : r ≠ 0) : (endP l a p ((e + z : Nat) : Int) r).2 = (((e + (GL L z r).1 : Nat) : Int), (GL L z r).2) := by
  by_cases h : L < z
  · rw [endP_out (by omega), GL_out _ h]
    show ((a : Int) + 48, (12 : Int)) = (((e + L : Nat) : Int), 12)
    rw [show ((e + L : Nat) : Int) = (a : Int) + 48 by omega]
  · rw [endP_errD (by omega) hr, GL_in _ (by omega)]
theorem endP_ten {l : List UInt8} {a e L q : Nat} (p : PartL) (hL : a + 48 - e = L) (he : e ≤ a + 48) (hq : q ≤ L) : endP l a p ((e + q : Nat) : Int) 10 = (p, ((e + q : Nat) : Int), 10) :=
  endP_errD (by omega) (by decide)
theorem endP_plus {l : List UInt8} {a e L q : Nat} (p : PartL) (hL : a + 48 - e = L) (he : e ≤ a + 48) (hq : q ≤ L) (h43 : l[e + q]? = some 43) : endP l a p ((e + q : Nat) : Int) 0 = (partN, ((e + q : Nat) : Int), 10) := by
  have hlt := (List.getElem?_eq_some_iff.1 h43).1
  have hends : endsL l ((e + q : Nat) : Int).toNat = false := by
    rw [Int.toNat_natCast]
    unfold endsL
    rw [h43, decide_eq_false (by omega)]
    decide
  unfold endP
  rw [if_neg (by omega), if_pos ⟨rfl, hends, by rw [Int.toNat_natCast, h43]; decide⟩]
def EndsAs (l : List UInt8) (a : Nat) (P : List (List UInt8) → PartL) (pr : List (List UInt8)) (E : PartL × Int × Int) (D : Nat × Int) : Prop :=
  (D.2 ≠ 0 ∧ E.2 = ((D.1 : Int), D.2)) ∨ (D.2 = 0 ∧ D.1 ≤ a + 48 ∧ E.2 = (endP l a (P pr) (D.1 : Int) 0).2 ∧ (E.2.2 = 0 → E.1 = (endP l a (P pr) (D.1 : Int) 0).1))
set_option maxHeartbeats 4000000 in
theorem tail_same (l : List UInt8) (a e : Nat) (hae : a + 5 ≤ e) (heL : e ≤ a + 48) (hel : e ≤ l.length) (hl : l.length ≤ 256) (P : List (List UInt8) → PartL) :
    EndsAs l a P (preD l e) (endP l a (P (preR l e).1) (preR l e).2.1 (preR l e).2.2) (tD l (a + 48) e) := by
  by_cases hc : l[e]? = some 45 ∨ l[e]? = some 43
  · obtain ⟨X, hX⟩ : ∃ X, l.take e = X := ⟨_, rfl⟩
    obtain ⟨M, hM⟩ : ∃ M, l.drop e = M := ⟨_, rfl⟩
    have hXM : l = X ++ M := by rw [← hX, ← hM, List.take_append_drop]
    have hXl : X.length = e := by rw [← hX, List.length_take]; omega
    obtain ⟨k, hk⟩ : ∃ k, min (prL M) 48 = k := ⟨_, rfl⟩
    obtain ⟨L, hL⟩ : ∃ L, a + 48 - e = L := ⟨_, rfl⟩
    have hprM := prL_le M
    have hM0 : M[0]? = l[e]? := by rw [← hM, List.getElem?_drop]; rfl
    have hpr1 : 1 ≤ prL M := by
      cases hMc : M with
      | nil => rw [hMc] at hM0; rw [← hM0] at hc; simp at hc
      | cons c r =>
        rw [hMc] at hM0
        rw [← hM0] at hc
        have : preByte c = true := by
          rcases hc with hc | hc <;> (injection hc with hc; subst hc; decide)
        rw [prL, if_pos this]
        omega
    obtain ⟨Y, hY⟩ : ∃ Y, M.take k = Y := ⟨_, rfl⟩
    obtain ⟨Z, hZ⟩ : ∃ Z, M.drop k = Z := ⟨_, rfl⟩
    have hYZ : M = Y ++ Z := by rw [← hY, ← hZ, List.take_append_drop]
    have hYl : Y.length = k := by rw [← hY, List.length_take]; omega
    have hlen : l.length = e + (Y.length + Z.length) := by rw [hXM, hYZ, List.length_append, List.length_append, hXl]
    have hY0 : Y[0]? = l[e]? := by rw [← hM0, hYZ, List.getElem?_append_left (by omega)]
    have hclip : Clip Y Z L := by
      refine ⟨fun c h => ?_, ?_⟩
      · rw [← hY] at h
        refine prL_all M c ?_
        have : M.take k = (M.take (prL M)).take k := by rw [List.take_take]; congr 1; omega
        rw [this] at h
        exact List.mem_of_mem_take h
      · by_cases h48 : prL M ≤ 48
        · refine .inl fun c h => prL_stop M c ?_
          rw [← hZ] at h
          rw [show prL M = k by omega]
          exact h
        · exact .inr (by omega)
    have hcut : min (e + prL (l.drop e)) (e + 48) = e + k := by rw [hM]; omega
    have hT : preT l e (e + k) = X5 ++ Y := by
      unfold preT seg
      rw [List.drop_take, Nat.add_sub_cancel_left, hM, hY]
      rfl
    have hD : tD l (a + 48) e = (e + (tD (Y ++ Z) L 0).1, (tD (Y ++ Z) L 0).2) := by
      have := tD_sh X M L
      rw [hXl, show e + L = a + 48 by omega, ← hXM, hYZ] at this
      exact this
    have hpD : preD l e = preD (Y ++ Z) 0 := by
      have := preD_sh X M
      rw [hXl, ← hXM, hYZ] at this
      exact this
    have hY0' : Y[0]? = some 45 ∨ Y[0]? = some 43 := by rw [hY0]; exact hc
    have hF := parse_X5 Y hY0' (by omega)
    have hget : ∀ i, l[e + i]? = (Y ++ Z)[i]? := fun i => by
      have := get_sh X M i
      rw [hXl, ← hXM, hYZ] at this
      exact this
    unfold EndsAs
    rw [hD, hpD]
    dsimp only
    have hpre : preR l e = if (fauP (X5 ++ Y)).1 = 0 then ((semP (X5 ++ Y)).pre, ((e + k : Nat) : Int), 0)
        else if (fauP (X5 ++ Y)).1 ≠ 11 then ([], wrap64 (wrap64 ((e : Int) + ((fauP (X5 ++ Y)).2 : Int)) - 5), (fauP (X5 ++ Y)).1)
        else if e + k < l.length ∧ (l[e + k - 1]?.map fun c => isC (c.toNat : Int) 1) = some true then ([], ((e + k : Nat) : Int), 14)
        else ([], ((e + k : Nat) : Int), misL l.length (e + k)) := by
      unfold preR
      rw [if_pos hc, hcut, hT]
    rw [hpre]
    clear hpre
    rcases tail_clip hclip hY0' with ⟨y, hy, hyy⟩ | ⟨z, hz, hzz⟩
    · have hne := tail_err hy
      have hyl : y.2 ≤ Y.length := tail_le (Nat.zero_le _) y hy
      rw [hF.1, hy]
      dsimp only
      rw [if_neg hne]
      rcases hyy with ⟨h1, h2⟩ | ⟨h1, h2, h3, h4⟩
      · refine .inl ⟨h1, ?_⟩
        rw [← h2]
        unfold finD
        by_cases h11 : y.1 ≠ 11
        · rw [if_pos h11, if_pos h11]
          have hw : wrap64 (wrap64 ((e : Int) + ((5 + y.2 : Nat) : Int)) - 5) = ((e + y.2 : Nat) : Int) := wr5 e y.2 (by omega) (by omega)
          rw [hw]
          exact endP_GL hL heL hne
        · rw [if_neg h11, if_neg h11]
          have hcond : (e + k < l.length ∧ (l[e + k - 1]?.map fun c => isC (c.toNat : Int) 1) = some true) ↔ (Z ≠ [] ∧ (Y[Y.length - 1]?.map fun c => isC (c.toNat : Int) 1) = some true) := by
            have h5 : l[e + k - 1]? = Y[Y.length - 1]? := by
              rw [show e + k - 1 = e + (k - 1) by omega, hget, List.getElem?_append_left (by omega), hYl]
            rw [h5]
            have h6 : e + k < l.length ↔ Z ≠ [] := by
              rw [hlen, ← List.length_pos_iff]
              omega
            rw [h6]
          have hmis : misL l.length (e + k) = misL (Y.length + Z.length) Y.length := by rw [hlen, mis_sh, hYl]
          by_cases hcz : Z ≠ [] ∧ (Y[Y.length - 1]?.map fun c => isC (c.toNat : Int) 1) = some true
          · rw [if_pos (hcond.2 hcz), if_pos hcz, hYl]
            exact endP_GL (r := 14) hL heL (by decide)
          · rw [if_neg (fun x => hcz (hcond.1 x)), if_neg hcz, hmis, hYl]
            exact endP_GL hL heL (misL_ne _ _)
      · refine .inr ⟨h1, by omega, ?_⟩
        obtain ⟨q, hq⟩ : ∃ q, (tD (Y ++ Z) L 0).1 = q := ⟨_, rfl⟩
        rw [hq] at h2 h3 h4 ⊢
        have hy1 : y.1 = 10 := by rw [h2]
        have hy2 : y.2 = q := by rw [h2]
        have h11 : y.1 ≠ 11 := by rw [hy1]; decide
        have hw : wrap64 (wrap64 ((e : Int) + ((5 + y.2 : Nat) : Int)) - 5) = ((e + y.2 : Nat) : Int) := wr5 e y.2 (by omega) (by omega)
        rw [if_pos h11, hw, hy1, hy2]
        have hE := endP_ten (l := l) (P []) hL heL h3
        have hF2 := endP_plus (P (preD (Y ++ Z) 0)) hL heL h3 (show l[e + q]? = some 43 by rw [hget]; exact h4)
        refine ⟨(congrArg Prod.snd hE).trans (by rw [hF2]), fun h => ?_⟩
        have h' : (endP l a (P []) ((e + q : Nat) : Int) 10).2.2 = 0 := h
        rw [hE] at h'
        cases h'
    · rw [hF.1, hz]
      dsimp only
      rw [if_pos rfl, hF.2 z hz]
      dsimp only
      rcases hzz with ⟨h1, h2, h3⟩ | ⟨h1, h2, h3⟩
      · refine .inl ⟨h1, ?_⟩
        rw [h3, endP_out (by omega)]
        dsimp only
        rw [show ((e + L : Nat) : Int) = (a : Int) + 48 by omega]
      · rw [h1, h3, hYl]
        exact .inr ⟨rfl, by omega, rfl, fun _ => rfl⟩
  · have h1 : preR l e = ([], (e : Int), 0) := if_neg hc
    have h2 : tD l (a + 48) e = (e, 0) := by
      unfold tD bD
      rw [if_neg (fun x => hc (.inl x)), if_neg (fun x => hc (.inr x))]
    have h3 : preD l e = [] := if_neg (fun x => hc (.inl x))
    unfold EndsAs
    rw [h1, h2, h3]
    exact .inr ⟨rfl, heL, rfl, fun _ => rfl⟩

end Go.Proofs.YtpdlgiioahjhiaaGreat

namespace Go.Proofs.YtpdlgiioahjhiaaGreat
open Go.RowKit Go.Shelf
set_option linter.unusedVariables false


def npD (l : List UInt8) (p b : Nat) : Nat × Bool × Int :=
  if (l[b]?.map openB).getD false then (if p + 48 ≤ b then (b, true, 12) else (b + 1, true, 0))
  else if runL 1 (l.drop b) = 0 then (b, false, misL l.length b)
  else ((numN l p b).1, false, (numN l p b).2)
def rnD (l : List UInt8) (p : Nat) : Nat → Nat → Nat → List (Nat × Nat) → Except (Nat × Int) (List (Nat × Nat) × Nat)
  | 0, i, b, sg => if (npD l p b).2.2 ≠ 0 then .error ((npD l p b).1, (npD l p b).2.2) else .ok (addS sg i (npD l p b).2.1 b (npD l p b).1, (npD l p b).1)
  | k + 1, i, b, sg => if (npD l p b).2.2 ≠ 0 then .error ((npD l p b).1, (npD l p b).2.2)
      else if l[(npD l p b).1]? = some 46 then (if p + 48 ≤ (npD l p b).1 then .error ((npD l p b).1, 12) else rnD l p k (i + 1) ((npD l p b).1 + 1) (addS sg i (npD l p b).2.1 b (npD l p b).1))
      else .ok (addS sg i (npD l p b).2.1 b (npD l p b).1, (npD l p b).1)
theorem np_geD (l : List UInt8) (b : Nat) : b ≤ (npL l b).1 ∧ ((npL l b).2.2 = 0 → b + 1 ≤ (npL l b).1) := by
  unfold npL
  split
  · exact ⟨by simp, fun _ => by simp⟩
  · split
    · exact ⟨by simp, fun h => absurd h (misL_ne _ _)⟩
    · split
      · exact ⟨by simp, fun _ => by simp⟩
      · exact ⟨by simp, fun _ => by dsimp only; omega⟩
theorem rn_geD (l : List UInt8) : ∀ (k i b : Nat) (sg : List (Nat × Nat)), (∀ x, rnGo l k i b sg = .error x → b ≤ x.1) ∧ (∀ x, rnGo l k i b sg = .ok x → b + 1 ≤ x.2)
  | 0, i, b, sg => by
    have h := np_geD l b
    unfold rnGo
    by_cases hr : (npL l b).2.2 ≠ 0
    · rw [if_pos hr]
      refine ⟨fun x e => ?_, fun x e => (nomatch e)⟩
      injection e with e
      rw [← e]; exact h.1
    · rw [if_neg hr]
      refine ⟨fun x e => (nomatch e), fun x e => ?_⟩
      injection e with e
      rw [← e]; exact h.2 (by simpa using hr)
  | k + 1, i, b, sg => by
    have h := np_geD l b
    rw [rnGo]
    by_cases hr : (npL l b).2.2 ≠ 0
    · rw [if_pos hr]
      refine ⟨fun x e => ?_, fun x e => (nomatch e)⟩
      injection e with e
      rw [← e]; exact h.1
    · rw [if_neg hr]
      by_cases hd : l[(npL l b).1]? = some 46
      · rw [if_pos hd]
        have := rn_geD l k (i + 1) ((npL l b).1 + 1) (addS sg i (npL l b).2.1 b (npL l b).1)
        exact ⟨fun x e => by have := this.1 x e; omega, fun x e => by have := this.2 x e; omega⟩
      · rw [if_neg hd]
        refine ⟨fun x e => (nomatch e), fun x e => ?_⟩
        injection e with e
        rw [← e]; exact h.2 (by simpa using hr)
def RnLong (L : Nat) (x : Except (Nat × Int) (List (Nat × Nat) × Nat)) : Prop := (∀ y, x = .error y → L < y.1) ∧ (∀ y, x = .ok y → L < y.2)
theorem long_of (l : List UInt8) (L k i b : Nat) (sg : List (Nat × Nat)) (h : L < b) : RnLong L (rnGo l k i b sg) :=
  ⟨fun y e => by have := (rn_geD l k i b sg).1 y e; omega, fun y e => by have := (rn_geD l k i b sg).2 y e; omega⟩
theorem np_one (l : List UInt8) (p b : Nat) (hb : b ≤ p + 48) :
    (npD l p b = npL l b ∧ (npL l b).1 ≤ p + 48) ∨ (npD l p b = (p + 48, (npD l p b).2.1, 12) ∧ p + 48 < (npL l b).1) := by
  unfold npD npL
  by_cases ho : ((l[b]?.map openB).getD false) = true
  · rw [if_pos ho, if_pos ho]
    by_cases hL : p + 48 ≤ b
    · rw [if_pos hL]
      exact .inr ⟨by rw [show b = p + 48 by omega], by dsimp only; omega⟩
    · rw [if_neg hL]
      exact .inl ⟨rfl, by dsimp only; omega⟩
  · rw [if_neg ho, if_neg ho]
    by_cases hr : runL 1 (l.drop b) = 0
    · rw [if_pos hr, if_pos hr]
      exact .inl ⟨rfl, hb⟩
    · rw [if_neg hr, if_neg hr]
      unfold numN
      rw [if_neg hr]
      by_cases hL : p + 48 ≤ b
      · rw [if_pos hL]
        refine .inr ⟨by rw [show b = p + 48 by omega], ?_⟩
        split <;> (dsimp only; omega)
      · rw [if_neg hL]
        by_cases hz : l[b]? = some 48 ∧ 2 ≤ runL 1 (l.drop b)
        · rw [if_pos hz, if_pos (show l[b]? = some 48 ∧ 1 < runL 1 (l.drop b) from ⟨hz.1, by have := hz.2; omega⟩)]
          exact .inl ⟨rfl, by dsimp only; omega⟩
        · rw [if_neg hz, if_neg (show ¬ (l[b]? = some 48 ∧ 1 < runL 1 (l.drop b)) from fun x => hz ⟨x.1, by have := x.2; omega⟩)]
          by_cases hl : p + 48 < b + runL 1 (l.drop b)
          · rw [if_pos hl]
            exact .inr ⟨rfl, hl⟩
          · rw [if_neg hl]
            exact .inl ⟨rfl, by dsimp only; omega⟩
theorem rn_same (l : List UInt8) (p : Nat) : ∀ (k i b : Nat) (sg : List (Nat × Nat)), b ≤ p + 48 →
    (∀ x, rnD l p k i b sg = .ok x → rnGo l k i b sg = .ok x ∧ x.2 ≤ p + 48) ∧ (∀ x, rnD l p k i b sg = .error x → (rnGo l k i b sg = .error x ∧ x.1 ≤ p + 48 ∧ x.2 ≠ 0) ∨ (x = (p + 48, 12) ∧ RnLong (p + 48) (rnGo l k i b sg)))
  | 0, i, b, sg, hb => by
    rw [rnD, rnGo]
    rcases np_one l p b hb with ⟨h1, h2⟩ | ⟨h1, h2⟩
    · rw [h1]
      by_cases hr : (npL l b).2.2 ≠ 0
      · rw [if_pos hr]
        refine ⟨fun x e => (nomatch e), fun x e => .inl ⟨e, ?_, ?_⟩⟩ <;> (injection e with e; rw [← e])
        · exact h2
        · exact hr
      · rw [if_neg hr]
        refine ⟨fun x e => ⟨e, ?_⟩, fun x e => (nomatch e)⟩
        injection e with e
        rw [← e]; exact h2
    · rw [if_pos (by rw [h1]; simp)]
      refine ⟨fun x e => (nomatch e), fun x e => .inr ⟨?_, ?_⟩⟩
      · injection e with e
        rw [← e, h1]
      · by_cases hr : (npL l b).2.2 ≠ 0
        · rw [if_pos hr]
          refine ⟨fun y e => ?_, fun y e => (nomatch e)⟩
          injection e with e
          rw [← e]; exact h2
        · rw [if_neg hr]
          refine ⟨fun y e => (nomatch e), fun y e => ?_⟩
          injection e with e
          rw [← e]; exact h2
  | k + 1, i, b, sg, hb => by
    rw [rnD, rnGo]
    rcases np_one l p b hb with ⟨h1, h2⟩ | ⟨h1, h2⟩
    · rw [h1]
      by_cases hr : (npL l b).2.2 ≠ 0
      · rw [if_pos hr, if_pos hr]
        refine ⟨fun x e => (nomatch e), fun x e => .inl ⟨e, ?_, ?_⟩⟩ <;> (injection e with e; rw [← e])
        · exact h2
        · exact hr
      · rw [if_neg hr, if_neg hr]
        by_cases hd : l[(npL l b).1]? = some 46
        · rw [if_pos hd, if_pos hd]
          by_cases hL : p + 48 ≤ (npL l b).1
          · rw [if_pos hL]
            refine ⟨fun x e => (nomatch e), fun x e => .inr ⟨?_, long_of l _ _ _ _ _ (by omega)⟩⟩
            injection e with e
            rw [← e, show (npL l b).1 = p + 48 by omega]
          · rw [if_neg hL]
            exact rn_same l p k (i + 1) _ _ (by omega)
        · rw [if_neg hd, if_neg hd]
          refine ⟨fun x e => ⟨e, ?_⟩, fun x e => (nomatch e)⟩
          injection e with e
          rw [← e]; exact h2
    · rw [if_pos (by rw [h1]; simp)]
      refine ⟨fun x e => (nomatch e), fun x e => .inr ⟨?_, ?_⟩⟩
      · injection e with e
        rw [← e, h1]
      · by_cases hr : (npL l b).2.2 ≠ 0
        · rw [if_pos hr]
          refine ⟨fun y e => ?_, fun y e => (nomatch e)⟩
          injection e with e
          rw [← e]; exact h2
        · rw [if_neg hr]
          by_cases hd : l[(npL l b).1]? = some 46
          · rw [if_pos hd]
            exact long_of l _ _ _ _ _ (by omega)
          · rw [if_neg hd]
            refine ⟨fun y e => (nomatch e), fun y e => ?_⟩
            injection e with e
            rw [← e]; exact h2
theorem rn_countD (l : List UInt8) : ∀ (k i b : Nat) (sg : List (Nat × Nat)) (x : List (Nat × Nat) × Nat), rnGo l k i b sg = .ok x → b + 2 * x.1.length ≤ x.2 + 1 + 2 * sg.length
  | 0, i, b, sg, x, e => by
    have h := np_geD l b
    rw [rnGo] at e
    by_cases hr : (npL l b).2.2 ≠ 0
    · rw [if_pos hr] at e; cases e
    · rw [if_neg hr] at e
      injection e with e
      have h2 := h.2 (by simpa using hr)
      have h3 : (addS sg i (npL l b).2.1 b (npL l b).1).length ≤ sg.length + 1 := by unfold addS; split <;> simp
      rw [← e]
      dsimp only
      omega
  | k + 1, i, b, sg, x, e => by
    have h := np_geD l b
    have h3 : (addS sg i (npL l b).2.1 b (npL l b).1).length ≤ sg.length + 1 := by unfold addS; split <;> simp
    rw [rnGo] at e
    by_cases hr : (npL l b).2.2 ≠ 0
    · rw [if_pos hr] at e; cases e
    · rw [if_neg hr] at e
      have h2 := h.2 (by simpa using hr)
      by_cases hd : l[(npL l b).1]? = some 46
      · rw [if_pos hd] at e
        have := rn_countD l k _ _ _ x e
        omega
      · rw [if_neg hd] at e
        injection e with e
        rw [← e]
        dsimp only
        omega
theorem fau_ge (l : List UInt8) (e : Nat) (hc : l[e]? = some 45 ∨ l[e]? = some 43) (h0 : ¬ (fauP (preT l e (min (e + prL (l.drop e)) (e + 48)))).1 = 0) : 5 ≤ (fauP (preT l e (min (e + prL (l.drop e)) (e + 48)))).2 := by
  have hlt : e < l.length := by rcases hc with hc | hc <;> exact (List.getElem?_eq_some_iff.1 hc).1
  have hpr1 : 1 ≤ prL (l.drop e) := by
    rw [List.drop_eq_getElem_cons hlt, prL, if_pos]
    · omega
    · rw [List.getElem?_eq_getElem hlt] at hc
      rcases hc with hc | hc <;> (injection hc with hc; rw [hc]; decide)
  obtain ⟨c, hcc⟩ : ∃ c, min (e + prL (l.drop e)) (e + 48) = c := ⟨_, rfl⟩
  rw [hcc] at h0 ⊢
  have hT : preT l e c = X5 ++ seg l e c := rfl
  have hY : (seg l e c)[0]? = l[e]? := by
    unfold seg
    rw [List.getElem?_drop, Nat.add_zero, List.getElem?_take_of_lt (by omega)]
  have hlen : (seg l e c).length ≤ 48 := by unfold seg; simp; omega
  have hp := (parse_X5 (seg l e c) (by rw [hY]; exact hc) hlen).1
  rw [hT, hp] at h0 ⊢
  cases hy : tailR (seg l e c) 0 with
  | error y => dsimp only; omega
  | ok z => rw [hy] at h0; exact absurd rfl h0
theorem pre_geD (l : List UInt8) (e : Nat) (hl : l.length ≤ 256) (he : e ≤ l.length) : (e : Int) ≤ (preR l e).2.1 := by
  by_cases hc : l[e]? = some 45 ∨ l[e]? = some 43
  · have hlt : e < l.length := by rcases hc with hc | hc <;> exact (List.getElem?_eq_some_iff.1 hc).1
    unfold preR
    rw [if_pos hc]
    have hm : e ≤ min (e + prL (l.drop e)) (e + 48) := by omega
    split
    · dsimp only; omega
    · split
      · have h5 : 5 ≤ (fauP (preT l e (min (e + prL (l.drop e)) (e + 48)))).2 := by
          rename_i h0 _
          exact fau_ge l e hc h0
        have h6 := fau_le (preT l e (min (e + prL (l.drop e)) (e + 48)))
        have h7 : (preT l e (min (e + prL (l.drop e)) (e + 48))).length ≤ 5 + l.length := by unfold preT seg; simp; omega
        dsimp only
        generalize (fauP (preT l e (min (e + prL (l.drop e)) (e + 48)))).2 = n at *
        rw [wrap_small ((e : Int) + (n : Int)) (by omega) (by omega), wrap_small _ (by omega) (by omega)]
        omega
      · split
        · dsimp only; omega
        · dsimp only; omega
  · have h1 : preR l e = ([], (e : Int), 0) := if_neg hc
    rw [h1]
    exact Int.le_refl _
def segE (l : List UInt8) (sg : List (Nat × Nat)) (i : Nat) : List UInt8 := match sg[i]? with | some x => seg l x.1 x.2 | none => []
def rpD (l : List UInt8) (a : Nat) : List (Nat × Nat) × List (List UInt8) × Nat × Int :=
  match rnD l a 2 0 (vL l a) [] with
  | .error x => ([], [], x.1, x.2)
  | .ok x => if x.1.length = 3 then (x.1, preD l x.2, (tD l (a + 48) x.2).1, (tD l (a + 48) x.2).2) else (x.1, [], x.2, 0)
def partD (l : List UInt8) (sg : List (Nat × Nat)) (pr : List (List UInt8)) : PartL := ⟨segT l sg 0, segT l sg 1, segT l sg 2, pr, sg.length⟩
theorem rp_same (l : List UInt8) (a : Nat) (ha : a ≤ l.length) (hl : l.length ≤ 256) :
    EndsAs l a (partD l (rpD l a).1) (rpD l a).2.1 (rpL l a) ((rpD l a).2.2.1, (rpD l a).2.2.2) := by
  have hv : vL l a ≤ a + 1 ∧ a ≤ vL l a ∧ vL l a ≤ l.length := by
    unfold vL
    split
    · rename_i h
      have := (List.getElem?_eq_some_iff.1 h).1
      omega
    · omega
  have hs := rn_same l a 2 0 (vL l a) [] (by omega)
  have hle := rn_le (l := l) 2 0 (vL l a) [] hv.2.2 (Nat.le_refl _)
  unfold rpD rpL
  cases hd : rnD l a 2 0 (vL l a) [] with
  | error x =>
    dsimp only
    unfold EndsAs
    dsimp only
    rcases hs.2 x hd with ⟨h1, h2, h3⟩ | ⟨h1, h2⟩
    · rw [h1]
      dsimp only
      refine .inl ⟨h3, ?_⟩
      rw [endP_errD (by omega) h3]
    · subst h1
      refine .inl ⟨by simp, ?_⟩
      cases hg : rnGo l 2 0 (vL l a) [] with
      | error y =>
        dsimp only
        have := h2.1 y hg
        rw [endP_out (by omega)]
        rfl
      | ok y =>
        dsimp only
        have h4 := h2.2 y hg
        have h5 := (hle.2 y hg).1
        have h6 := pre_geD l y.2 hl h5
        by_cases h3 : y.1.length = 3
        · rw [if_pos h3, endP_out (by omega)]
          rfl
        · rw [if_neg h3, endP_out (by omega)]
          rfl
  | ok x =>
    obtain ⟨h1, h2⟩ := hs.1 x hd
    rw [h1]
    dsimp only
    by_cases h3 : x.1.length = 3
    · rw [if_pos h3, if_pos h3]
      have h4 := rn_countD l 2 0 (vL l a) [] x h1
      have h5 := (hle.2 x h1).1
      have := tail_same l a x.2 (by simp at h4; omega) h2 h5 hl (fun pr => ⟨segT l x.1 0, segT l x.1 1, segT l x.1 2, pr, 3⟩)
      have he : partD l x.1 = fun pr => ⟨segT l x.1 0, segT l x.1 1, segT l x.1 2, pr, 3⟩ := by
        funext pr
        unfold partD
        rw [h3]
      dsimp only
      rw [he]
      exact this
    · rw [if_neg h3, if_neg h3]
      unfold EndsAs
      exact .inr ⟨rfl, h2, rfl, fun _ => rfl⟩

end Go.Proofs.YtpdlgiioahjhiaaGreat
