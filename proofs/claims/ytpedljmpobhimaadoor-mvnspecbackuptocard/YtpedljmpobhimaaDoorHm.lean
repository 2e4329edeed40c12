/-
  Walks: whether two rows of ranges are the same; a requirement's text.
-/
import Derived.Test.YtpedljmpobhimaaDoorHl
import Derived.Laws.AppendOwnNone
namespace Go.Proofs.YtpedljmpobhimaaDoor
open Go.RowKit Go.Shelf
set_option linter.unusedVariables false

theorem mrs_at {W : World} {a : Option Addr} {n cap : Nat} {ts : List Mr} (h : Mrs W (.slice a n cap) ts) (hne : 0 < ts.length) : ∃ b off, a = some ⟨b, off, none⟩ ∧ b < W.heap.size ∧ MRow W b off ts := by
  obtain ⟨a', cap', hv, h0 | ⟨b, off, ha, hlt, hc⟩⟩ := h
  · subst h0; simp at hne
  · cases hv
    exact ⟨b, off, ha, hlt, hc⟩
theorem mrs_n {W : World} {a : Option Addr} {n cap : Nat} {ts : List Mr} (h : Mrs W (.slice a n cap) ts) : ts.length = n := by
  obtain ⟨a', cap', hv, _⟩ := h
  cases hv; rfl

set_option maxRecDepth 100000 in
set_option maxHeartbeats 8000000 in
theorem Equal_any (a1 a2 : Option Addr) (n1 n2 c1 c2 : Nat) (ts1 ts2 : List Mr) (hn : n1 ≤ 1048577) (w : World) (hT1 : Mrs w (.slice a1 n1 c1) ts1) (hT2 : Mrs w (.slice a2 n2 c2) ts2) :
    Calls Tryd.prog 10 #[.slice a1 n1 c1, .slice a2 n2 c2] w fun e w' => e = .returned (.bool (decide (ts1 = ts2))) ∧ Below w.heap.size w w' := by
  have HL1 := hide (mrs_n hT1)
  have HL2 := hide (mrs_n hT2)
  have HT1 := hide hT1
  have HT2 := hide hT2
  clear hT1 hT2
  by_cases hne : n1 = n2
  · subst hne
    have hb : ((n1 : Int) != (n1 : Int)) = false := by simp
    go_enter Tryd.func10, Tryd.ntmps10
    go_wp2_with fail
    go_loopw [13] (fun x wr => ∃ i : Nat, i ≤ n1 ∧ x = .int .i64 i ∧ Below w.heap.size w wr ∧ Hid (ts1.take i = ts2.take i)) (fun x _ => n1 - (intOf x).toNat)
    case atStart => exact ⟨0, by omega, rfl, Below.refl _ _, rfl⟩
    case round =>
      obtain ⟨i, hi, rfl, hB, hE⟩ := hrel
      by_cases hlt : i < n1
      · have hlt' : (i : Int) < (n1 : Int) := by omega
        have i1 : i < ts1.length := by rw [HL1.out]; exact hlt
        have i2 : i < ts2.length := by rw [HL2.out]; exact hlt
        obtain ⟨b1, o1, rfl, q1, d1⟩ := mrs_at (HT1.out.below hB) (by omega)
        obtain ⟨b2, o2, rfl, q2, d2⟩ := mrs_at (HT2.out.below hB) (by omega)
        obtain ⟨e0, e1, e2, e3, e4, e5⟩ := d1.six i _ (List.getElem?_eq_getElem i1)
        obtain ⟨f0, f1, f2, f3, f4, f5⟩ := d2.six i _ (List.getElem?_eq_getElem i2)
        clear d1 d2
        by_cases hst : ts1[i] = ts2[i]
        · rw [hst] at e0 e1 e2 e3 e4 e5
          have HE : Hid (ts1.take (i + 1) = ts2.take (i + 1)) := by
            show _ = _
            rw [List.take_succ_eq_append_getElem i1, List.take_succ_eq_append_getElem i2, hE.out, hst]
          generalize ts2[i] = x at *
          clear hst i1 i2
          go_wp2_with fail
          go_quiet (fail)
          go_wp2_with fail
          go_roundw
          case rel => exact ⟨i + 1, by omega, by go_num, hB.trans (below_drewN _ _ _), HE⟩
          case measure => simp [intOf]; omega
        · have HN : Hid (¬ ts1 = ts2) := fun e => hst (by subst e; rfl)
          generalize ts1[i] = x at *
          generalize ts2[i] = y at *
          obtain ⟨xhl, xlo, xli, xhh, xhi, xhn⟩ := x
          obtain ⟨yhl, ylo, yli, yhh, yhi, yhn⟩ := y
          dsimp only at e0 e1 e2 e3 e4 e5 f0 f1 f2 f3 f4 f5
          clear i1 i2
          by_cases h0 : xhl = yhl
          · subst h0
            by_cases h1 : xlo = ylo
            · subst h1
              by_cases h2 : xli = yli
              · subst h2
                by_cases h3 : xhh = yhh
                · subst h3
                  by_cases h4 : xhi = yhi
                  · subst h4
                    by_cases h5 : xhn = yhn
                    · subst h5
                      exact absurd rfl hst
                    · clear hst
                      cases xhn <;> cases yhn
                      · exact absurd rfl h5
                      · clear h5
                        go_wp2_with fail
                        go_quiet (fail)
                        go_wp2_with fail
                        go_ret
                        exact ⟨by rw [decide_eq_false HN.out]; rfl, hB.trans (below_drewN _ _ _)⟩
                      · clear h5
                        go_wp2_with fail
                        go_quiet (fail)
                        go_wp2_with fail
                        go_ret
                        exact ⟨by rw [decide_eq_false HN.out]; rfl, hB.trans (below_drewN _ _ _)⟩
                      · exact absurd rfl h5
                  · have hx : ((ofL xhi).toList == (ofL yhi).toList) = false := by simp only [beq_eq_false_iff_ne, ne_eq]; intro e; rw [toL, toL, ofL_data, ofL_data] at e; exact h4 e
                    clear hst h4
                    go_wp2_with fail
                    go_quiet (fail)
                    go_wp2_with fail
                    go_ret
                    exact ⟨by rw [decide_eq_false HN.out]; rfl, hB.trans (below_drewN _ _ _)⟩
                · clear hst
                  cases xhh <;> cases yhh
                  · exact absurd rfl h3
                  · clear h3
                    go_wp2_with fail
                    go_quiet (fail)
                    go_wp2_with fail
                    go_ret
                    exact ⟨by rw [decide_eq_false HN.out]; rfl, hB.trans (below_drewN _ _ _)⟩
                  · clear h3
                    go_wp2_with fail
                    go_quiet (fail)
                    go_wp2_with fail
                    go_ret
                    exact ⟨by rw [decide_eq_false HN.out]; rfl, hB.trans (below_drewN _ _ _)⟩
                  · exact absurd rfl h3
              · clear hst
                cases xli <;> cases yli
                · exact absurd rfl h2
                · clear h2
                  go_wp2_with fail
                  go_quiet (fail)
                  go_wp2_with fail
                  go_ret
                  exact ⟨by rw [decide_eq_false HN.out]; rfl, hB.trans (below_drewN _ _ _)⟩
                · clear h2
                  go_wp2_with fail
                  go_quiet (fail)
                  go_wp2_with fail
                  go_ret
                  exact ⟨by rw [decide_eq_false HN.out]; rfl, hB.trans (below_drewN _ _ _)⟩
                · exact absurd rfl h2
            · have hx : ((ofL xlo).toList == (ofL ylo).toList) = false := by simp only [beq_eq_false_iff_ne, ne_eq]; intro e; rw [toL, toL, ofL_data, ofL_data] at e; exact h1 e
              clear hst h1
              go_wp2_with fail
              go_quiet (fail)
              go_wp2_with fail
              go_ret
              exact ⟨by rw [decide_eq_false HN.out]; rfl, hB.trans (below_drewN _ _ _)⟩
          · clear hst
            cases xhl <;> cases yhl
            · exact absurd rfl h0
            · clear h0
              go_wp2_with fail
              go_quiet (fail)
              go_wp2_with fail
              go_ret
              exact ⟨by rw [decide_eq_false HN.out]; rfl, hB.trans (below_drewN _ _ _)⟩
            · clear h0
              go_wp2_with fail
              go_quiet (fail)
              go_wp2_with fail
              go_ret
              exact ⟨by rw [decide_eq_false HN.out]; rfl, hB.trans (below_drewN _ _ _)⟩
            · exact absurd rfl h0
      · have hlt' : ¬ (i : Int) < (n1 : Int) := by omega
        have HE : Hid (ts1 = ts2) := by
          show _ = _
          have := hE.out
          rwa [List.take_of_length_le (by rw [HL1.out]; omega), List.take_of_length_le (by rw [HL2.out]; omega)] at this
        go_wp2_with fail
        go_ret
        exact ⟨by rw [decide_eq_true HE.out]; rfl, hB⟩
  · have hb : ((n1 : Int) == (n2 : Int)) = false := by simp; omega
    have HN : Hid (¬ ts1 = ts2) := fun e => hne (by rw [← HL1.out, ← HL2.out, e])
    go_enter Tryd.func10, Tryd.ntmps10
    go_wp2_with fail
    go_ret
    exact ⟨by rw [decide_eq_false HN.out]; rfl, Below.refl _ _⟩

end Go.Proofs.YtpedljmpobhimaaDoor
