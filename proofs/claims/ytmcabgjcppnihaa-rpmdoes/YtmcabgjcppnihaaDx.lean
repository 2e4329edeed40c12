/-
  Walks: the document's Fit and Text.
-/
import Derived.Test.YtmcabgjcppnihaaDr
import Derived.Test.YtmcabgjcppnihaaDu
namespace Go.Proofs.Ytmcabgjcppnihaa
open Go.RowKit Go.Shelf
set_option linter.unusedVariables false

/-- A version in its box. -/
structure OV (w W : World) (v : RpmL) : Prop where
  bel : Below w.heap.size w W
  ea : W.heap[w.heap.size]? = some (.cells #[.string (ofL v.ep), .string (ofL v.ver), .string (ofL v.rel), .bool v.has] 23 (0, 0))
theorem OV.start (w : World) (v : RpmL) : OV w (w.alloc (.cells #[.string (ofL v.ep), .string (ofL v.ver), .string (ofL v.rel), .bool v.has] 23)) v := ⟨(Below.refl _ w).alloc (Nat.le_refl _) _, World.alloc_heap_new w _⟩
theorem OV.next {w W W' : World} {v : RpmL} (h : OV w W v) (hb : Below W.heap.size W W') : OV w W' v := ⟨step1 h.bel hb, carry hb h.ea⟩
theorem OV.drew {w W : World} {v : RpmL} (h : OV w W v) : OV w W.drew v := ⟨h.bel.drew, h.ea⟩
theorem OV.seen {w W : World} {v : RpmL} (h : OV w W v) : W.cell? ⟨w.heap.size, 0, none⟩ = some (.string (ofL v.ep)) ∧ W.cell? ⟨w.heap.size, 1, none⟩ = some (.string (ofL v.ver)) ∧ W.cell? ⟨w.heap.size, 2, none⟩ = some (.string (ofL v.rel)) ∧ W.cell? ⟨w.heap.size, 3, none⟩ = some (.bool v.has) :=
  ⟨cell_at 0 h.ea rfl, cell_at 1 h.ea rfl, cell_at 2 h.ea rfl, cell_at 3 h.ea rfl⟩
theorem RRun0 (l : List UInt8) (w : World) (hs : l.length ≤ 9223372036854775000) :
    Calls Try.prog 23 #[.string (ofL l), .int .i64 0, .int .i64 1] w fun e w' => e = .returned (.int .i64 (runL 1 l : Int)) ∧ w' = w := by
  have R := RRun_any (ofL l) 0 1 w (by rw [ofL_size]; unfold maxLen; omega)
  have hI : runI (ofL l).data.toList 0 1 = (runL 1 l : Int) := by have := runI_in (ofL l) 0 1 (Nat.zero_le _); rw [ofL_data] at this ⊢; simpa using this
  rwa [hI] at R
theorem RTrim0 (l : List UInt8) (w : World) (hs : l.length ≤ 9223372036854775000) :
    Calls Try.prog 24 #[.string (ofL l)] w fun e w' => e = .returned (.string (ofL (trimL l))) ∧ w' = w := by
  have R := RTrim_any (ofL l) w (by rw [ofL_size]; unfold maxLen; omega)
  rwa [ofL_data] at R

set_option maxRecDepth 100000 in
set_option maxHeartbeats 2000000 in
theorem RFit_a (v : RpmL) (w : World) (hs : Sz v) (h0 : v.ep = []) :
    Calls Try.prog 16 #[verV v] w fun e w' => e = .returned (.bool (fitD v)) ∧ Below w.heap.size w w' := by
  obtain ⟨l1, l2, l3⟩ := hs
  have hD : fitD v = (!v.ep.isEmpty && (runL 1 v.ep == v.ep.length) && (trimL v.ep == v.ep) && segB v.ver && decide ((writeL v).length ≤ 64) && (if v.has then segB v.rel else v.rel.isEmpty)) := rfl
  have q1 := ofL_size v.ep
  have RN := fun w => RRun0 v.ep w (by omega)
  have TR := fun w => RTrim0 v.ep w (by omega)
  have SG := fun w => Rsegments_any v.ver w (by omega)
  have SR := fun w => Rsegments_any v.rel w (by omega)
  have RW := fun w => raw_any v w ⟨l1, l2, l3⟩
  have qw := ofL_size (writeL v)
  unfold verV at RW
  have k0 : ((ofL v.ep).toList == []) = true := eqNil _ _ (by rw [h0]; rfl)
  have HF : Hid (fitD v = false) := by
    show _ = _
    rw [hD]
    rw [h0]; rfl
  clear h0 hD
  have RN := hide RN
  have TR := hide TR
  have SG := hide SG
  have SR := hide SR
  have RW := hide RW
  unfold verV
  go_enter Try.func16, Try.ntmps16
  go_wp2_with fail
  go_quiet (first
    | (go_at_call 23; exact Calls.quiet_of_same (RN.out _))
    | (go_at_call 24; exact Calls.quiet_of_same (TR.out _))
    | (go_at_call 40; exact Calls.quiet_of_same (SG.out _))
    | fail)
  go_wp2_with fail
  go_ret
  exact ⟨ret_b HF.out.symm, ((Below.refl _ w).alloc (Nat.le_refl _) _).trans (below_drewN _ _ _)⟩

set_option maxRecDepth 100000 in
set_option maxHeartbeats 2000000 in
theorem RFit_b (v : RpmL) (w : World) (hs : Sz v) (h0 : v.ep ≠ []) (h1 : runL 1 v.ep ≠ v.ep.length) :
    Calls Try.prog 16 #[verV v] w fun e w' => e = .returned (.bool (fitD v)) ∧ Below w.heap.size w w' := by
  obtain ⟨l1, l2, l3⟩ := hs
  have hD : fitD v = (!v.ep.isEmpty && (runL 1 v.ep == v.ep.length) && (trimL v.ep == v.ep) && segB v.ver && decide ((writeL v).length ≤ 64) && (if v.has then segB v.rel else v.rel.isEmpty)) := rfl
  have q1 := ofL_size v.ep
  have RN := fun w => RRun0 v.ep w (by omega)
  have TR := fun w => RTrim0 v.ep w (by omega)
  have SG := fun w => Rsegments_any v.ver w (by omega)
  have SR := fun w => Rsegments_any v.rel w (by omega)
  have RW := fun w => raw_any v w ⟨l1, l2, l3⟩
  have qw := ofL_size (writeL v)
  unfold verV at RW
  have k0 : ((ofL v.ep).toList == []) = false := neE _ h0
  have k1 : ((runL 1 v.ep : Int) != (v.ep.length : Int)) = true := by simp; omega
  have HF : Hid (fitD v = false) := by
    show _ = _
    rw [hD]
    have : (runL 1 v.ep == v.ep.length) = false := by simpa using h1
    rw [this]; simp
  clear h0 h1 hD
  have RN := hide RN
  have TR := hide TR
  have SG := hide SG
  have SR := hide SR
  have RW := hide RW
  unfold verV
  go_enter Try.func16, Try.ntmps16
  go_wp2_with fail
  go_quiet (first
    | (go_at_call 23; exact Calls.quiet_of_same (RN.out _))
    | (go_at_call 24; exact Calls.quiet_of_same (TR.out _))
    | (go_at_call 40; exact Calls.quiet_of_same (SG.out _))
    | fail)
  go_wp2_with fail
  go_ret
  exact ⟨ret_b HF.out.symm, ((Below.refl _ w).alloc (Nat.le_refl _) _).trans (below_drewN _ _ _)⟩

set_option maxRecDepth 100000 in
set_option maxHeartbeats 2000000 in
theorem RFit_c (v : RpmL) (w : World) (hs : Sz v) (h0 : v.ep ≠ []) (h1 : runL 1 v.ep = v.ep.length) (h2 : trimL v.ep ≠ v.ep) :
    Calls Try.prog 16 #[verV v] w fun e w' => e = .returned (.bool (fitD v)) ∧ Below w.heap.size w w' := by
  obtain ⟨l1, l2, l3⟩ := hs
  have hD : fitD v = (!v.ep.isEmpty && (runL 1 v.ep == v.ep.length) && (trimL v.ep == v.ep) && segB v.ver && decide ((writeL v).length ≤ 64) && (if v.has then segB v.rel else v.rel.isEmpty)) := rfl
  have q1 := ofL_size v.ep
  have RN := fun w => RRun0 v.ep w (by omega)
  have TR := fun w => RTrim0 v.ep w (by omega)
  have SG := fun w => Rsegments_any v.ver w (by omega)
  have SR := fun w => Rsegments_any v.rel w (by omega)
  have RW := fun w => raw_any v w ⟨l1, l2, l3⟩
  have qw := ofL_size (writeL v)
  unfold verV at RW
  have k0 : ((ofL v.ep).toList == []) = false := neE _ h0
  have k1 : ((runL 1 v.ep : Int) != (v.ep.length : Int)) = false := by simp; omega
  have k2 : ((ofL (trimL v.ep)).toList == (ofL v.ep).toList) = false := eqL _ _ _ (by simpa using h2)
  have HF : Hid (fitD v = false) := by
    show _ = _
    rw [hD]
    have : (trimL v.ep == v.ep) = false := by simpa using h2
    rw [this]; simp
  clear h0 h1 h2 hD
  have RN := hide RN
  have TR := hide TR
  have SG := hide SG
  have SR := hide SR
  have RW := hide RW
  unfold verV
  go_enter Try.func16, Try.ntmps16
  go_wp2_with fail
  go_quiet (first
    | (go_at_call 23; exact Calls.quiet_of_same (RN.out _))
    | (go_at_call 24; exact Calls.quiet_of_same (TR.out _))
    | (go_at_call 40; exact Calls.quiet_of_same (SG.out _))
    | fail)
  go_wp2_with fail
  go_ret
  exact ⟨ret_b HF.out.symm, ((Below.refl _ w).alloc (Nat.le_refl _) _).trans (below_drewN _ _ _)⟩

set_option maxRecDepth 100000 in
set_option maxHeartbeats 2000000 in
theorem RFit_d (v : RpmL) (w : World) (hs : Sz v) (h0 : v.ep ≠ []) (h1 : runL 1 v.ep = v.ep.length) (h2 : trimL v.ep = v.ep) (h3 : segB v.ver = false) :
    Calls Try.prog 16 #[verV v] w fun e w' => e = .returned (.bool (fitD v)) ∧ Below w.heap.size w w' := by
  obtain ⟨l1, l2, l3⟩ := hs
  have hD : fitD v = (!v.ep.isEmpty && (runL 1 v.ep == v.ep.length) && (trimL v.ep == v.ep) && segB v.ver && decide ((writeL v).length ≤ 64) && (if v.has then segB v.rel else v.rel.isEmpty)) := rfl
  have q1 := ofL_size v.ep
  have RN := fun w => RRun0 v.ep w (by omega)
  have TR := fun w => RTrim0 v.ep w (by omega)
  have SG := fun w => Rsegments_any v.ver w (by omega)
  have SR := fun w => Rsegments_any v.rel w (by omega)
  have RW := fun w => raw_any v w ⟨l1, l2, l3⟩
  have qw := ofL_size (writeL v)
  unfold verV at RW
  have k0 : ((ofL v.ep).toList == []) = false := neE _ h0
  have k1 : ((runL 1 v.ep : Int) != (v.ep.length : Int)) = false := by simp; omega
  have k2 : ((ofL (trimL v.ep)).toList == (ofL v.ep).toList) = true := eqL _ _ _ (by simpa using h2)
  have HF : Hid (fitD v = false) := by
    show _ = _
    rw [hD]
    rw [h3]; simp
  rw [h3] at SG
  clear h0 h1 h2 h3 hD
  have RN := hide RN
  have TR := hide TR
  have SG := hide SG
  have SR := hide SR
  have RW := hide RW
  unfold verV
  go_enter Try.func16, Try.ntmps16
  go_wp2_with fail
  go_quiet (first
    | (go_at_call 23; exact Calls.quiet_of_same (RN.out _))
    | (go_at_call 24; exact Calls.quiet_of_same (TR.out _))
    | (go_at_call 40; exact Calls.quiet_of_same (SG.out _))
    | fail)
  go_wp2_with fail
  go_ret
  exact ⟨ret_b HF.out.symm, ((Below.refl _ w).alloc (Nat.le_refl _) _).trans (below_drewN _ _ _)⟩

end Go.Proofs.Ytmcabgjcppnihaa
