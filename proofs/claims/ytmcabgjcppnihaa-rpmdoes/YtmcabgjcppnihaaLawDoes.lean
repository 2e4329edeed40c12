/-
  Proved: for any two versions, Fit and Text answer as the document says of the first, and Order as it says of both; and chapter 5's examples hold: RpmDoes returns true and leaves its arguments as they were. No condition but the form's own reach (each string takes at most 2^47 - 4096 bytes).
-/
import Derived.Test.YtmcabgjcppnihaaDz
import Derived.Test.YtmcabgjcppnihaaGa
namespace Go.Proofs.Ytmcabgjcppnihaa
namespace RpmDoesP
open Go.ChangeShapes Go.WideShapes Go.ChangeAt Go.RowKit
open Go.ChangeMaps (open_string shut_string)
set_option linter.unusedVariables false

theorem own : ownKnob Try.prog.godebug = none := by kernel_rfl

set_option maxRecDepth 100000 in
set_option maxHeartbeats 4000000 in
theorem walk (x y : RpmL) (w : World) (hx : Sz x) (hy : Sz y) :
    Calls Try.prog 4 #[verV x, verV y] w fun e w' => e = .returned (.bool true) ∧ Below w.heap.size w w' := by
  have F1 := fun w => Fit_any x w hx
  have F2 := fun w => RFit_any x w hx
  have G1 := fun w => Text_any x w hx
  have G2 := fun w => RText_any x w hx
  have O1 := fun w => Order_any x y w hx hy
  have O2 := fun w => ROrder_any x y w hx hy
  unfold verV at F1 F2 G1 G2 O1 O2 ⊢
  have F1 := hide F1
  have F2 := hide F2
  have G1 := hide G1
  have G2 := hide G2
  have O1 := hide O1
  have O2 := hide O2
  generalize fitB x = fb at *
  generalize formL x = fo at *
  generalize ordF x y = od at *
  have eb : (fb == fb) = true := by simp
  have eo : ((ofL fo).toList == (ofL fo).toList) = true := by simp
  have ed : (od == od) = true := by simp
  have S0 := OB.start w x y
  clear hx hy
  go_enter Try.func4, Try.ntmps4
  go_wp2_with fail
  generalize (w.alloc (.cells #[.string (ofL x.ep), .string (ofL x.ver), .string (ofL x.rel), .bool x.has] 23)).alloc (.cells #[.string (ofL y.ep), .string (ofL y.ver), .string (ofL y.rel), .bool y.has] 23) = W0 at *
  have D0 := S0.drew
  obtain ⟨c0, c1, c2, c3, c4, c5, c6, c7⟩ := S0.seen
  go_region_held3 (fun w' => w'.cell? ⟨w.heap.size, 0, none⟩ = some (.string (ofL x.ep)) ∧ w'.cell? ⟨w.heap.size, 1, none⟩ = some (.string (ofL x.ver)) ∧ w'.cell? ⟨w.heap.size, 2, none⟩ = some (.string (ofL x.rel)) ∧ w'.cell? ⟨w.heap.size, 3, none⟩ = some (.bool x.has) ∧ w'.cell? ⟨w.heap.size + 1, 0, none⟩ = some (.string (ofL y.ep)) ∧ w'.cell? ⟨w.heap.size + 1, 1, none⟩ = some (.string (ofL y.ver)) ∧ w'.cell? ⟨w.heap.size + 1, 2, none⟩ = some (.string (ofL y.rel)) ∧ w'.cell? ⟨w.heap.size + 1, 3, none⟩ = some (.bool y.has))
    (go_keep)
    ((first
      | (go_at_call 14; refine (awake_any _).mono ?_; rintro e w7 ⟨rfl, b7⟩; have Q7 := Q6.next b7; obtain ⟨n0, n1, n2, n3, n4, n5, n6, n7⟩ := Q7.seen)
      | (go_at_call 20; refine (O2.out _).mono ?_; rintro e w6 ⟨rfl, b6⟩; have Q6 := Q5.next b6; obtain ⟨m0, m1, m2, m3, m4, m5, m6, m7⟩ := Q6.seen)
      | (go_at_call 19; refine (O1.out _).mono ?_; rintro e w5 ⟨rfl, b5⟩; have Q5 := Q4.next b5; obtain ⟨k0, k1, k2, k3, k4, k5, k6, k7⟩ := Q5.seen)
      | (go_at_call 18; refine (G2.out _).mono ?_; rintro e w4 ⟨rfl, b4⟩; have Q4 := Q3.next b4; obtain ⟨j0, j1, j2, j3, j4, j5, j6, j7⟩ := Q4.seen)
      | (go_at_call 17; refine (G1.out _).mono ?_; rintro e w3 ⟨rfl, b3⟩; have Q3 := Q2.next b3; obtain ⟨i0, i1, i2, i3, i4, i5, i6, i7⟩ := Q3.seen)
      | (go_at_call 16; refine (F2.out _).mono ?_; rintro e w2 ⟨rfl, b2⟩; have Q2 := Q1.next b2; obtain ⟨h0, h1, h2, h3, h4, h5, h6, h7⟩ := Q2.seen)
      | (go_at_call 15; refine (F1.out _).mono ?_; rintro e w1 ⟨rfl, b1⟩; have Q1 := D0.next b1; obtain ⟨g0, g1, g2, g3, g4, g5, g6, g7⟩ := Q1.seen)
      | fail))
  go_wp2_with fail
  go_ret
  exact ⟨rfl, Q7.bel⟩

set_option maxRecDepth 100000 in
theorem lifted (os : Os) (started : os.Started) (H : Type) (enc : TypeId × Value → H) :
    ReturnsInHanded {} Try.checked os 4 .any (Rows.rpmDoesSpec.pre6 enc Try.prog Try.f4 Rows.rpmDoesRow.domain false) (Rows.rpmDoesSpec.post enc Try.prog Try.f4 false true false false) := by
  refine returnsInHanded_of_change_sized (C := Try.checked) own started (by kernel_rfl) Try.func4
    (ChangeSpec.witness6 (enc := enc) (C := Try.checked) false ⟨#[], #[.agg #[.string .empty, .string .empty, .string .empty, .bool false], .agg #[.string .empty, .string .empty, .string .empty, .bool false]], []⟩ 8 (by kernel_rfl) (by kernel_rfl) (by kernel_rfl) (by kernel_rfl)) ?_
  intro W base args ds gs before hval0 hW hcnd hsz0 _
  have hval : ∀ (j : Nat) t v, Try.f4.params[j]? = some t → args[j]? = some v → Value.okWide Try.prog W .any base t v := hval0
  have hsz : (DataW.weightsEach Try.prog (Try.f4.params.toList ++ Rows.rpmDoesSpec.plain.varTypes Try.prog) (ds ++ gs)).all (· ≤ reachBytes) = true := hsz0
  have hW' := hW
  obtain ⟨p, q, hA0, hV, rfl, hfz, hnd⟩ := hW
  have hA : DataW.TrodAll enc Try.prog W 0 (fun _ => true) true Try.f4.params.toList args.toList ds p := hA0
  rw [Try.params4] at hA hval hsz
  obtain ⟨v0, vs0, d0, ds0, p0, q0, hargs, rfl, rfl, h0, r0⟩ := trodAll_cons hA
  obtain ⟨v1, vs1, d1, ds1, p1, q1, rfl, rfl, rfl, h1, r1⟩ := trodAll_cons r0
  obtain ⟨rfl, rfl, rfl⟩ := trodAll_nil r1
  obtain rfl : args = #[v0, v1] := by cases args; simp_all
  obtain ⟨rfl, rfl⟩ := trodVars_none hV
  have k0 := h0
  have lt0 : ∀ x ∈ p0, x.block < W.heap.size := by obtain ⟨m, hm⟩ := k0; exact DataW.trod_lt m _ _ _ hm
  obtain ⟨a0, hv0, hd0⟩ := open_ver (hval 0 23 v0 rfl rfl) h0
  subst hd0
  subst hv0
  have s0 : Sz a0 := sized_ver hsz (j := 0) rfl rfl
  have k1 := h1
  have lt1 : ∀ x ∈ p1, x.block < W.heap.size := by obtain ⟨m, hm⟩ := k1; exact DataW.trod_lt m _ _ _ hm
  obtain ⟨a1, hv1, hd1⟩ := open_ver (hval 1 23 v1 rfl rfl) h1
  subst hd1
  subst hv1
  have s1 : Sz a1 := sized_ver hsz (j := 1) rfl rfl
  clear hA0 hval0 hsz0 hsz
  refine (walk a0 a1 W s0 s1).mono fun e W' ⟨he, bel⟩ => ?_
  subst he
  exact ⟨_, rfl, _, _, _, [], _, [], hW', trodAll_mk1 (shut_bool Try.underlying4 _), (trodAll_cons_mk (Below.trod laidOut (by kernel_rfl) (of_decide_eq_true (by kernel_rfl)) k0 bel lt0) (trodAll_cons_mk (Below.trod laidOut (by kernel_rfl) (of_decide_eq_true (by kernel_rfl)) k1 bel lt1) trodAll_mk0)), rfl, bel.frame _, fun h => by cases h⟩

theorem over : Rows.rpmDoesRow.holds Try.pinned (OpenSpec.ofChange Rows.rpmDoesSpec) :=
  OpenClaim.holds_of_wide 4 Try.f4 rfl rfl rfl rfl rfl rfl rfl ⟨rfl, rfl, rfl, rfl, rfl⟩ rfl rfl rfl rfl rfl (by kernel_rfl) Try.func4 (by kernel_rfl)
    (of_decide_eq_true (by kernel_rfl)) (by unfold Func.isWrapper; first | (rw [if_pos (by decide +kernel)]; kernel_rfl) | (rw [if_neg (by decide +kernel)]; exact ⟨rfl, rfl⟩))
    (fun os started H enc _ => lifted os started H enc)
end RpmDoesP

theorem rpmDoes_holds : Rows.RpmDoesSaid := RpmDoesP.over
#print axioms rpmDoes_holds
end Go.Proofs.Ytmcabgjcppnihaa
