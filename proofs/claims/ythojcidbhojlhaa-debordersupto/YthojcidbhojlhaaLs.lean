/-
  Plain laws: the document's reading is the program's, the whole of it; no program is named here.
-/
import Derived.Test.YthojcidbhojlhaaLr
namespace Go.Proofs.Ythojcidbhojlhaa
set_option linter.unusedVariables false

theorem run_allD : ∀ u : List UInt8, runL 1 u = u.length → ∀ c ∈ u, isC (c.toNat : Int) 1 = true
  | [], _, c, hc => by cases hc
  | x :: r, h, c, hc => by
    rw [runL] at h
    split at h
    · rename_i hx
      rcases List.mem_cons.1 hc with rfl | hc
      · exact hx
      · exact run_allD r (by simpa using h) c hc
    · simp at h
theorem dig_all {u : List UInt8} (h : digB u = true) : u ≠ [] ∧ ∀ c ∈ u, isC (c.toNat : Int) 1 = true := by
  unfold digB at h
  simp at h
  exact ⟨h.1, run_allD u h.2⟩
theorem dig_no58 {u : List UInt8} (h : ∀ c ∈ u, isC (c.toNat : Int) 1 = true) : 58 ∉ u := fun hm => absurd (h 58 hm) (by decide)
theorem hasC_iff (l : List UInt8) : hasC l = true ↔ 58 ∈ l := by
  unfold hasC
  have h1 := idx_mem 58 l
  have h2 := Lib.indexByte_ge l 58
  by_cases hm : 58 ∈ l
  · have : ¬ Lib.indexByte l 58 < 0 := fun h => (h1.1 h) hm
    simp [hm]; omega
  · have := h1.2 hm
    simp [hm]; omega
theorem cutC_split : ∀ l : List UInt8, 58 ∈ l → l = cutC l ++ 58 :: l.drop ((cutC l).length + 1)
  | [], h => by cases h
  | c :: r, h => by
    by_cases hc : c = 58
    · subst hc
      have e : cutC (58 :: r) = [] := by simp [cutC]
      rw [e]; rfl
    · have e : cutC (c :: r) = c :: cutC r := by simp [cutC, hc]
      have hr : 58 ∈ r := by
        rcases List.mem_cons.1 h with h | h
        · exact absurd h.symm hc
        · exact h
      have ih := cutC_split r hr
      rw [e]
      show c :: r = c :: (cutC r ++ 58 :: r.drop ((cutC r).length + 1))
      rw [← ih]
theorem cutC_app (t : List UInt8) : ∀ u : List UInt8, 58 ∉ u → cutC (u ++ 58 :: t) = u
  | [], _ => by simp [cutC]
  | c :: r, h => by
    have hc : c ≠ 58 := fun e => h (by rw [e]; exact List.mem_cons_self)
    have := cutC_app t r (fun hm => h (List.mem_cons_of_mem _ hm))
    unfold cutC at *
    rw [List.cons_append, List.takeWhile_cons, if_pos (by simpa using hc), this]
/-- Where no epoch stands no colon has digits alone ahead. -/
theorem no_epoch {l : List UInt8} (h : epB l = false) (i : Nat) (hi : l[i]? = some 58) : digB (l.take i) = false := by
  cases hd : digB (l.take i)
  · rfl
  · exfalso
    obtain ⟨_, hall⟩ := dig_all hd
    obtain ⟨hlt, hx⟩ := List.getElem?_eq_some_iff.1 hi
    have e : l = l.take i ++ 58 :: l.drop (i + 1) := by
      have := List.take_append_drop i l
      rw [List.drop_eq_getElem_cons hlt, hx] at this
      exact this.symm
    have hc : cutC l = l.take i := by
      have := cutC_app (l.drop (i + 1)) (l.take i) (dig_no58 hall)
      rwa [← e] at this
    have hh : hasC l = true := (hasC_iff l).2 (by rw [e]; simp)
    unfold epB at h
    rw [hc, hh, hd] at h
    cases h

theorem rev_iff (r : List UInt8) : revB r = true ↔ r ≠ [] ∧ 58 ∉ r := by
  unfold revB
  have h1 := idx_mem 58 r
  simp [h1]
theorem doc_end (l : List UInt8) (b : Nat) (e : Bool) (hb : b ≤ l.length) (hh : badH (l.drop b) b b = false) :
    docE l b e (dA (l.drop b) b (-1)) (oA (l.drop b) false) =
      if (cutU (l.drop b) 45).isEmpty || (cutH (l.drop b) 45 && !revB (cutR (l.drop b) 45)) then .error (11, l.length)
      else .ok ⟨if e then trimL (l.take (b - 1)) else [48], cutU (l.drop b) 45, cutR (l.drop b) 45⟩ := by
  have hlen : (l.drop b).length = l.length - b := List.length_drop
  have hseg : ∀ q, seg l b (b + q) = (l.drop b).take q := fun q => seg_run l b q
  have hdd : ∀ q, l.drop (b + q) = (l.drop b).drop q := fun q => by rw [List.drop_drop]
  have hbe : l.length = b ↔ l.drop b = [] := by rw [List.drop_eq_nil_iff]; omega
  generalize l.drop b = t at *
  cases t with
  | nil =>
    have hl := hbe.2 rfl
    have e1 : (cutU [] 45).isEmpty = true := rfl
    rw [e1, Bool.true_or, if_pos rfl]
    unfold docE
    rw [if_pos (.inl (.inl hl))]
  | cons c r =>
    have hc : isC (c.toNat : Int) 1 = true := by simpa [badH] using hh
    have hne : ¬ l.length = b := fun h => by have := hbe.1 h; cases this
    have hg := lastI_ge (c :: r) 45
    by_cases hq : 0 ≤ lastI (c :: r) 45
    · obtain ⟨hx, hbehind⟩ := lastI_behind (c :: r) 45 hq
      obtain ⟨q, hqq⟩ := Int.eq_ofNat_of_zero_le hq
      have hU : cutU (c :: r) 45 = (c :: r).take q := by unfold cutU; rw [if_neg (by omega), hqq]; rfl
      have hR : cutR (c :: r) 45 = (c :: r).drop (q + 1) := by unfold cutR; rw [if_neg (by omega), hqq]; rfl
      have hH : cutH (c :: r) 45 = true := by unfold cutH; simp [hq]
      have hdA : dA (c :: r) b (-1) = ((b + q : Nat) : Int) := by unfold dA; rw [if_pos hq, hqq]; omega
      have hoA : oA (c :: r) false = decide (58 ∈ (c :: r).drop (q + 1)) := by unfold oA; rw [if_pos hq, hqq]; rfl
      have hq0 : q ≠ 0 := by
        rintro rfl
        rw [hqq] at hx
        simp at hx
        rw [hx] at hc
        exact absurd hc (by decide)
      have hUe : ((c :: r).take q).isEmpty = false := by
        cases q with
        | zero => exact absurd rfl hq0
        | succ q => rfl
      rw [hU, hR, hH, hdA, hoA, hUe, Bool.false_or, Bool.true_and]
      unfold docE
      have hcond : ((l.length = b ∨ ((b + q : Nat) : Int) = (l.length : Int) - 1) ∨ (0 ≤ ((b + q : Nat) : Int) ∧ decide (58 ∈ (c :: r).drop (q + 1)) = true)) ↔ (!revB ((c :: r).drop (q + 1))) = true := by
        have hnil : ((b + q : Nat) : Int) = (l.length : Int) - 1 ↔ (c :: r).drop (q + 1) = [] := by
          rw [List.drop_eq_nil_iff, hlen]
          have := hg.2
          rw [hlen, hqq] at this
          omega
        have hrv := rev_iff ((c :: r).drop (q + 1))
        rw [hnil]
        constructor
        · rintro ((h | h) | ⟨_, h⟩)
          · exact absurd h hne
          · rw [h]; rfl
          · cases hrb : revB ((c :: r).drop (q + 1))
            · rfl
            · exact absurd (of_decide_eq_true h) (hrv.1 hrb).2
        · intro h
          by_cases h1 : (c :: r).drop (q + 1) = []
          · exact .inl (.inr h1)
          · refine .inr ⟨by omega, ?_⟩
            by_cases h2 : 58 ∈ (c :: r).drop (q + 1)
            · simpa using h2
            · rw [hrv.2 ⟨h1, h2⟩] at h; cases h
      by_cases hc2 : (!revB ((c :: r).drop (q + 1))) = true
      · rw [if_pos (hcond.2 hc2), if_pos hc2]
      · rw [if_neg (fun h => hc2 (hcond.1 h)), if_neg hc2, if_pos (show (0 : Int) ≤ ((b + q : Nat) : Int) by omega), if_pos (show (0 : Int) ≤ ((b + q : Nat) : Int) by omega), Int.toNat_natCast, hseg, Nat.add_assoc, hdd]
    · have hU : cutU (c :: r) 45 = c :: r := by unfold cutU; rw [if_pos (by omega)]
      have hR : cutR (c :: r) 45 = [] := by unfold cutR; rw [if_pos (by omega)]
      have hH : cutH (c :: r) 45 = false := by unfold cutH; simp; omega
      have hdA : dA (c :: r) b (-1) = -1 := by unfold dA; rw [if_neg hq]
      rw [hU, hR, hH, hdA]
      have e1 : (c :: r).isEmpty = false := rfl
      rw [e1, Bool.false_and, Bool.or_false, if_neg (by simp)]
      unfold docE
      have hl0 : 0 < l.length := by simp at hlen; omega
      rw [if_neg (by rintro ((h | h) | ⟨h, _⟩) <;> omega), if_neg (show ¬ (0 : Int) ≤ -1 by omega), if_neg (show ¬ (0 : Int) ≤ -1 by omega)]
      have := hdd 0
      rw [Nat.add_zero, List.drop_zero] at this
      rw [this]
/-- The document's reading is the program's. -/
theorem docP_eq (l : List UInt8) : docP l = parseL l := by
  unfold docP parseL
  by_cases h64 : 64 < l.length
  · rw [if_pos h64, if_pos h64]
  · rw [if_neg h64, if_neg h64]
    have fin : ∀ (b : Nat) (e : Bool), b ≤ l.length → e = decide (0 < b) → docR l l 0 0 false (-1) false = docR l (l.drop b) b b e (-1) false → (e = false → ∀ i, (l.drop b)[i]? = some 58 → digB (l.take (b + i)) = false) → epS l = b → (if e then trimL (l.take (b - 1)) else [48]) = epE l →
        (match docR l l 0 0 false (-1) false with | .error x => (.error x : Except (Int × Nat) DebL) | .ok (b, e, d, o) => docE l b e d o) =
        if wrongR l (epS l) < l.length then .error (10, wrongR l (epS l))
        else if (cutU (l.drop (epS l)) 45).isEmpty || (cutH (l.drop (epS l)) 45 && !revB (cutR (l.drop (epS l)) 45)) then .error (11, l.length)
        else .ok ⟨epE l, cutU (l.drop (epS l)) 45, cutR (l.drop (epS l)) 45⟩ := by
      intro b e hb he hR hn hS hE
      rw [hR, docR_tail l b e (l.drop b) b (-1) false (Nat.le_refl _) hn, hS, ← hE]
      have hw : wrongR l b = if badH (l.drop b) b b = true then b else b + twR e (l.drop b) := by
        unfold wrongR twR
        rw [he]
        by_cases hlt : b < l.length
        · have hd : l.drop b = l[b] :: l.drop (b + 1) := List.drop_eq_getElem_cons hlt
          have hg : l.getD b 0 = l[b] := by simp [List.getD, hlt]
          rw [hg]
          cases hx : isC (l[b].toNat : Int) 1
          · rw [if_pos ⟨hlt, rfl⟩, if_pos (by rw [hd]; simp [badH, hx])]
          · rw [if_neg (by simp), if_neg (by rw [hd]; simp [badH, hx])]
        · have hd : l.drop b = [] := List.drop_eq_nil_of_le (by omega)
          rw [if_neg (fun h => hlt h.1), hd, if_neg (by simp [badH])]
      rw [hw]
      have hlen : (l.drop b).length = l.length - b := List.length_drop
      cases hh : badH (l.drop b) b b
      · simp only [Bool.false_eq_true, if_false]
        unfold tailX
        by_cases ht : twR e (l.drop b) < (l.drop b).length
        · rw [if_pos ht, if_pos (by omega)]
        · have hle : twR e (l.drop b) ≤ (l.drop b).length := by unfold twR; exact (List.takeWhile_sublist _).length_le
          rw [if_neg ht, if_neg (by omega)]
          exact doc_end l b e hb hh
      · simp only [if_true]
        have hlt : b < l.length := by
          by_cases hlt : b < l.length
          · exact hlt
          · rw [List.drop_eq_nil_of_le (by omega)] at hh
            simp [badH] at hh
        rw [if_pos hlt]
    cases hep : epB l
    · refine fin 0 false (Nat.zero_le _) rfl rfl (fun _ i hi => ?_) (by unfold epS; rw [hep]; rfl) (by unfold epE; rw [hep]; rfl)
      rw [List.drop_zero] at hi
      rw [Nat.zero_add]
      exact no_epoch hep i hi
    · have hh : hasC l = true ∧ digB (cutC l) = true := by unfold epB at hep; simpa using hep
      have hsp := cutC_split l ((hasC_iff l).1 hh.1)
      obtain ⟨hne, hall⟩ := dig_all hh.2
      have hpos := List.length_pos_iff.2 hne
      have htake : l.take (cutC l).length = cutC l := by
        have := congrArg (List.take (cutC l).length) hsp
        rw [this, List.take_append_of_le_length (Nat.le_refl _), List.take_length]
      have hlen : (cutC l).length + 1 ≤ l.length := by
        have := congrArg List.length hsp
        rw [List.length_append, List.length_cons] at this
        omega
      refine fin ((cutC l).length + 1) true hlen (by simp) ?_ (fun h => by cases h) (by unfold epS; rw [hep]; rfl) (by unfold epE; rw [hep, Nat.add_sub_cancel, htake])
      have hd := docR_head l (l.drop ((cutC l).length + 1)) (cutC l) 0 hall (by rw [Nat.zero_add, htake]; exact hh.2) (by omega)
      rw [← hsp, Nat.zero_add] at hd
      exact hd

end Go.Proofs.Ythojcidbhojlhaa
