/-
  Walks: the document's Texts.
-/
import Derived.Test.YthojcidbhojlhaaRg
namespace Go.Proofs.Ythojcidbhojlhaa
open Go.RowKit Go.Shelf
set_option linter.unusedVariables false

set_option maxRecDepth 100000 in
set_option maxHeartbeats 4000000 in
theorem RTexts_any (a1 a2 : Option Addr) (n1 n2 c1 c2 : Nat) (ts1 ts2 : List (List UInt8)) (hl1 : ts1.length = n1) (hl2 : ts2.length = n2) (hn : n1 ≤ 1048576) (w : World) (hT1 : Txt w (.slice a1 n1 c1) ts1) (hT2 : Txt w (.slice a2 n2 c2) ts2) :
    Calls Try.prog 24 #[.slice a1 n1 c1, .slice a2 n2 c2] w fun e w' => e = .returned (.bool (decide (ts1 = ts2))) ∧ Below w.heap.size w w' := by
  have HT1 := hide hT1
  have HT2 := hide hT2
  have HL1 := hide hl1
  have HL2 := hide hl2
  clear hT1 hT2 hl1 hl2
  by_cases hne : n1 = n2
  · subst hne
    have hb : ((n1 : Int) != (n1 : Int)) = false := by simp
    go_enter Try.func24, Try.ntmps24
    go_wp2_with fail
    go_loopw [5] (fun x wr => ∃ i : Nat, i ≤ n1 ∧ x = .int .i64 i ∧ Below w.heap.size w wr ∧ Hid (ts1.take i = ts2.take i)) (fun x _ => n1 - (intOf x).toNat)
    case atStart => exact ⟨0, by omega, rfl, Below.refl _ _, rfl⟩
    case round =>
      obtain ⟨i, hi, rfl, hB, hE⟩ := hrel
      by_cases hlt : i < n1
      · have hlt' : (i : Int) < (n1 : Int) := by omega
        have i1 : i < ts1.length := by rw [HL1.out]; exact hlt
        have i2 : i < ts2.length := by rw [HL2.out]; exact hlt
        obtain ⟨b1, o1, rfl, q1, d1⟩ := txt_at (HT1.out.below hB) (by omega)
        obtain ⟨b2, o2, rfl, q2, d2⟩ := txt_at (HT2.out.below hB) (by omega)
        have e1 := d1 i i1
        have e2 := d2 i i2
        clear d1 d2
        by_cases hst : ts1[i] = ts2[i]
        · rw [hst] at e1
          have HE : Hid (ts1.take (i + 1) = ts2.take (i + 1)) := by
            show _ = _
            rw [List.take_succ_eq_append_getElem i1, List.take_succ_eq_append_getElem i2, hE.out, hst]
          generalize ofL ts2[i] = x at *
          clear hst i1 i2
          go_wp2_with fail
          go_quiet (fail)
          go_wp2_with fail
          go_roundw
          case rel => exact ⟨i + 1, by omega, by go_num, hB.trans (below_drewN _ _ _), HE⟩
          case measure => simp [intOf]; omega
        · have hx : ((ofL ts1[i]).toList == (ofL ts2[i]).toList) = false := by simp only [beq_eq_false_iff_ne, ne_eq]; intro e; rw [toL, toL, ofL_data, ofL_data] at e; exact hst e
          have HN : Hid (¬ ts1 = ts2) := fun e => hst (by subst e; rfl)
          generalize ofL ts1[i] = x at *
          generalize ofL ts2[i] = y at *
          clear hst i1 i2
          go_wp2_with fail
          go_quiet (fail)
          go_wp2_with fail
          go_ret
          exact ⟨by rw [decide_eq_false HN.out]; rfl, hB.trans (below_drewN _ _ _)⟩
      · have hlt' : ¬ (i : Int) < (n1 : Int) := by omega
        have HY : Hid (ts1 = ts2) := by
          have h := hE.out
          rw [List.take_of_length_le (by rw [HL1.out]; omega), List.take_of_length_le (by rw [HL2.out]; omega)] at h
          exact h
        go_wp2_with fail
        go_ret
        exact ⟨by rw [decide_eq_true HY.out]; rfl, hB⟩
  · have hb : ((n1 : Int) != (n2 : Int)) = true := by simp; omega
    have HN : Hid (¬ ts1 = ts2) := fun e => hne (by rw [← HL1.out, ← HL2.out, e])
    clear hne
    go_enter Try.func24, Try.ntmps24
    go_wp2_with fail
    go_ret
    exact ⟨by rw [decide_eq_false HN.out]; rfl, Below.refl _ _⟩

end Go.Proofs.Ythojcidbhojlhaa
