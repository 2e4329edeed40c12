/-
  Walks: the document's Fit and Text.
-/
import Derived.Test.YtmcabgjcppnihaaDxb
import Derived.Test.YtmcabgjcppnihaaDxc
import Derived.Test.YtmcabgjcppnihaaDxd
import Derived.Test.YtmcabgjcppnihaaDxe
namespace Go.Proofs.Ytmcabgjcppnihaa
open Go.RowKit Go.Shelf
set_option linter.unusedVariables false

theorem RFit_any (v : RpmL) (w : World) (hs : Sz v) :
    Calls Try.prog 16 #[verV v] w fun e w' => e = .returned (.bool (fitB v)) ∧ Below w.heap.size w w' := by
  rw [fit_doc]
  by_cases h0 : v.ep = []
  · exact RFit_a v w hs h0
  by_cases h1 : runL 1 v.ep = v.ep.length
  · by_cases h2 : trimL v.ep = v.ep
    · cases h3 : segB v.ver
      · exact RFit_d v w hs h0 h1 h2 h3
      by_cases h4 : 64 < (writeL v).length
      · exact RFit_e v w hs h0 h1 h2 h3 h4
      cases h5 : v.has
      · cases h6 : v.rel.isEmpty
        · exact RFit_h v w hs h0 h1 h2 h3 (by omega) h5 h6
        · exact RFit_g v w hs h0 h1 h2 h3 (by omega) h5 h6
      · exact RFit_f v w hs h0 h1 h2 h3 (by omega) h5
    · exact RFit_c v w hs h0 h1 h2
  · exact RFit_b v w hs h0 h1

set_option maxRecDepth 100000 in
set_option maxHeartbeats 1000000 in
theorem RText_any (v : RpmL) (w : World) (hs : Sz v) :
    Calls Try.prog 18 #[verV v] w fun e w' => e = .returned (.string (ofL (formL v))) ∧ Below w.heap.size w w' := by
  have F1 := fun w => RFit_any v w hs
  have W1 := fun w => raw_any v w hs
  have hfo : formL v = if fitB v then writeL v else [] := rfl
  unfold verV at F1 W1 ⊢
  cases hf : fitB v
  · rw [hf] at F1 hfo
    have HO : Hid (formL v = []) := hfo
    have F1 := hide F1
    clear hfo hf W1
    go_enter Try.func18, Try.ntmps18
    go_wp2_with fail
    refine (F1.out _).mono ?_
    rintro e w1 ⟨rfl, b1⟩
    have B1 := box_step b1
    go_wp2_with fail
    go_ret
    exact ⟨ret_s (by rw [HO.out]; rfl), B1⟩
  · rw [hf] at F1 hfo
    have HO : Hid (formL v = writeL v) := hfo
    have F1 := hide F1
    have W1 := hide W1
    clear hfo hf
    go_enter Try.func18, Try.ntmps18
    go_wp2_with fail
    refine (F1.out _).mono ?_
    rintro e w1 ⟨rfl, b1⟩
    have k1 := box_kept b1
    have B1 := box_step b1
    have q0 := cell_at 0 k1 rfl
    have q1 := cell_at 1 k1 rfl
    have q2 := cell_at 2 k1 rfl
    have q3 := cell_at 3 k1 rfl
    go_wp2_with fail
    refine (W1.out _).mono ?_
    rintro e w2 ⟨rfl, b2⟩
    go_wp2_with fail
    go_ret
    exact ⟨ret_s (by rw [HO.out]), step1 B1 b2⟩

end Go.Proofs.Ytmcabgjcppnihaa
