/-
  Walks: the document's Fit and Text.
-/
import Derived.Test.YtmcabgjcppnihaaDx
namespace Go.Proofs.Ytmcabgjcppnihaa
open Go.RowKit Go.Shelf
set_option linter.unusedVariables false

set_option maxRecDepth 100000 in
set_option maxHeartbeats 2000000 in
theorem RFit_g (v : RpmL) (w : World) (hs : Sz v) (h0 : v.ep ≠ []) (h1 : runL 1 v.ep = v.ep.length) (h2 : trimL v.ep = v.ep) (h3 : segB v.ver = true) (h4 : (writeL v).length ≤ 64) (h5 : v.has = false) (h6 : v.rel.isEmpty = true) :
    Calls Try.prog 16 #[verV v] w fun e w' => e = .returned (.bool (fitD v)) ∧ Below w.heap.size w w' := by
  obtain ⟨l1, l2, l3⟩ := hs
  have hD : fitD v = (!v.ep.isEmpty && (runL 1 v.ep == v.ep.length) && (trimL v.ep == v.ep) && segB v.ver && decide ((writeL v).length ≤ 64) && (if v.has then segB v.rel else v.rel.isEmpty)) := rfl
  have q1 := ofL_size v.ep
  have RN := fun w => RRun0 v.ep w (by omega)
  have TR := fun w => RTrim0 v.ep w (by omega)
  have SG := fun w => Rsegments_any v.ver w (by omega)
  have SR := fun w => Rsegments_any v.rel w (by omega)
  have RW := fun w => raw_any v w ⟨l1, l2, l3⟩
  have qw := ofL_size (writeL v)
  unfold verV at RW
  have k0 : ((ofL v.ep).toList == []) = false := neE _ h0
  have k1 : ((runL 1 v.ep : Int) != (v.ep.length : Int)) = false := by simp; omega
  have k2 : ((ofL (trimL v.ep)).toList == (ofL v.ep).toList) = true := eqL _ _ _ (by simpa using h2)
  have HF : Hid (fitD v = true) := by
    show _ = _
    rw [hD]
    have a0 : v.ep.isEmpty = false := by simpa using h0
    have a1 : (runL 1 v.ep == v.ep.length) = true := by simpa using h1
    have a2 : (trimL v.ep == v.ep) = true := by simpa using h2
    have a4 : decide ((writeL v).length ≤ 64) = true := by simpa using h4
    rw [a0, a1, a2, h3, a4, h5, h6]; simp
  rw [h3] at SG
  have h4' : ¬ (64 : Int) < ((writeL v).length : Int) := by omega
  have h4b : ((writeL v).length : Int) ≤ 64 := by omega
  have k6 : ((ofL v.rel).toList == []) = true := eqNil _ _ (by rw [← h6]; cases v.rel <;> rfl)
  have H5 := hide h5
  clear h0 h1 h2 h3 hD h6 h5
  have RN := hide RN
  have TR := hide TR
  have SG := hide SG
  have SR := hide SR
  have RW := hide RW
  unfold verV
  have S0 := OV.start w v
  go_enter Try.func16, Try.ntmps16
  go_wp2_with fail
  generalize w.alloc (.cells #[.string (ofL v.ep), .string (ofL v.ver), .string (ofL v.rel), .bool v.has] 23) = W0 at *
  have D0 := S0.drew
  obtain ⟨c0, c1, c2, c3⟩ := S0.seen
  go_region_held3 (fun w' => w'.cell? ⟨w.heap.size, 0, none⟩ = some (.string (ofL v.ep)) ∧ w'.cell? ⟨w.heap.size, 1, none⟩ = some (.string (ofL v.ver)) ∧ w'.cell? ⟨w.heap.size, 2, none⟩ = some (.string (ofL v.rel)) ∧ w'.cell? ⟨w.heap.size, 3, none⟩ = some (.bool v.has))
    (go_keep)
    ((first
      | (go_at_call 41; refine (RW.out _).mono ?_; rintro e w1 ⟨rfl, b1⟩; have Q1 := D0.next b1; obtain ⟨g0, g1, g2, g3⟩ := Q1.seen)
      | (go_at_call 23; refine (RN.out _).mono ?_; rintro e w1 ⟨rfl, hw1⟩; rw [hw1]; clear hw1 w1)
      | (go_at_call 24; refine (TR.out _).mono ?_; rintro e w1 ⟨rfl, hw1⟩; rw [hw1]; clear hw1 w1)
      | (go_at_call 40; refine (SG.out _).mono ?_; rintro e w1 ⟨rfl, hw1⟩; rw [hw1]; clear hw1 w1)
      | fail))
  rw [H5.out] at g3
  go_wp2_with fail
  go_ret
  exact ⟨ret_b HF.out.symm, Q1.bel⟩

end Go.Proofs.Ytmcabgjcppnihaa
