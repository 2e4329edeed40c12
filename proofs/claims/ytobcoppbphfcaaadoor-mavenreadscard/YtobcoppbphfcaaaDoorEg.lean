/-
  Walks: the document's Snapshot and Canon.
-/
import Derived.Test.YtobcoppbphfcaaaDoorEe
import Derived.Test.YtobcoppbphfcaaaDoorDq
import Derived.Test.YtobcoppbphfcaaaDoorLd
namespace Go.Proofs.YtobcoppbphfcaaaDoor
open Go.RowKit Go.Shelf
set_option linter.unusedVariables false

/-- No number is called so. -/
theorem num_snap {t : Tok} (h : TokF t) (h2 : t.num = true) : t.text ≠ [115, 110, 97, 112, 115, 104, 111, 116] := by
  intro e
  rcases h with h | h
  · rw [h2] at h; cases h.1
  · have := h.2.2 false
    rw [e, h2] at this
    have e2 : tokL false [115, 110, 97, 112, 115, 104, 111, 116] false = ⟨false, false, [115, 110, 97, 112, 115, 104, 111, 116]⟩ := by decide
    rw [e2] at this
    simp at this

set_option maxRecDepth 100000 in
set_option maxHeartbeats 2000000 in
theorem RSnapshot_any (s : ByteArray) (w : World) :
    Calls Tryd.prog 14 #[.string s] w fun e w' => e = .returned (.bool (snapL s.data.toList)) ∧ Below w.heap.size w w' := by
  have C := hide (fun w => Rtokens_any s w)
  have HS : Hid (∀ x, toksL s.data.toList = .error x → snapL s.data.toList = false) := fun x h => by unfold snapL; rw [h]
  have HE : Hid (∀ x, toksL s.data.toList = .error x → x.1 ≠ 0) := fun x h => toks_errs h
  have HK : Hid (∀ ts, toksL s.data.toList = .ok ts → 0 < ts.length ∧ ts.length ≤ 66 ∧ TokF (ts.getLastD nilT) ∧ snapL s.data.toList = ((ofL (ts.getLastD nilT).text).toList == [115, 110, 97, 112, 115, 104, 111, 116])) := fun ts h => by
    have hp := toks_pos h
    refine ⟨hp, (toks_short h).1, ?_, by unfold snapL; rw [h, toL, ofL_data]⟩
    have hm : ts.getLastD nilT ∈ ts := by
      rw [List.getLastD_eq_getLast?, List.getLast?_eq_getElem?, List.getElem?_eq_getElem (by omega)]
      exact List.getElem_mem _
    exact (toks_fit h _ hm).1
  generalize snapL s.data.toList = R at *
  go_enter Tryd.func14, Tryd.ntmps14
  go_wp2_with fail
  refine (C.out _).mono ?_
  rintro e w1 (⟨x, hx, rfl, b1⟩ | ⟨ts, ao, cv, hx, rfl, hT, b1⟩)
  · have hx0 : (x.1 == 0) = false := by simpa using HE.out x hx
    have HR := hide (HS.out x hx)
    clear hx HS HE HK
    go_wp2_with fail
    go_quiet (fail)
    go_wp2_with fail
    go_ret
    exact ⟨by rw [HR.out]; rfl, b1.trans (below_drewN _ _ _)⟩
  · obtain ⟨hp, hl66, hF, hR⟩ := HK.out ts hx
    obtain ⟨m, hm⟩ : ∃ m, ts.length = m + 1 := ⟨ts.length - 1, by omega⟩
    have hml : m < ts.length := by omega
    have hg : ts.getLastD nilT = ts[m] := by
      rw [List.getLastD_eq_getLast?, List.getLast?_eq_getElem?, hm, Nat.add_sub_cancel, List.getElem?_eq_getElem hml]; rfl
    rw [hg] at hF hR
    obtain ⟨a', cap', hv, h0 | ⟨b, off, ha, hlt, hc⟩⟩ := hT
    · rw [h0] at hp; simp at hp
    · cases hv
      subst ha
      obtain ⟨c0, c1, c2⟩ := hc m hml
      have HF := hide hF
      clear hx HS HE HK hc hg hF
      generalize ts[m] = t at *
      rw [hm]
      have hmI : ((m + 1 : Nat) : Int) - 1 = (m : Int) := by omega
      have hm64 : m ≤ 100 := by omega
      have HR := hide hR
      clear hm hp hl66 hml hR
      cases hn : t.num
      · rw [hn] at c1
        cases hb : ((ofL t.text).toList == [115, 110, 97, 112, 115, 104, 111, 116])
        · have hne : ¬ (ofL t.text = ⟨#[115, 110, 97, 112, 115, 104, 111, 116]⟩) := by
            intro e; rw [e, toL] at hb; cases hb
          go_wp2_with fail
          go_quiet (fail)
          go_wp2_with fail
          go_ret
          exact ⟨by rw [HR.out, hb]; simp_all, b1.trans (below_drewN _ _ _)⟩
        · have heq : ofL t.text = ⟨#[115, 110, 97, 112, 115, 104, 111, 116]⟩ := by
            apply ba_ext
            rw [← toL]
            simpa using hb
          rw [heq] at c2
          go_wp2_with fail
          go_quiet (fail)
          go_wp2_with fail
          go_ret
          exact ⟨by rw [HR.out, hb]; simp_all, b1.trans (below_drewN _ _ _)⟩
      · have hns := num_snap HF.out hn
        have hb : ((ofL t.text).toList == [115, 110, 97, 112, 115, 104, 111, 116]) = false := by rw [toL, ofL_data]; simpa using hns
        rw [hn] at c1
        have hne : ¬ (ofL t.text = ⟨#[115, 110, 97, 112, 115, 104, 111, 116]⟩) := by
          intro e; rw [e, toL] at hb; cases hb
        go_wp2_with fail
        go_quiet (fail)
        go_wp2_with fail
        go_ret
        exact ⟨by rw [HR.out, hb]; simp_all, b1.trans (below_drewN _ _ _)⟩

end Go.Proofs.YtobcoppbphfcaaaDoor
