/-
  Proved: for any version, whether it is fit, and its text, are in the program what they are in the document's answer, and chapter 4's examples hold: DebWrites returns true and leaves its argument as it was. No condition but the form's own reach (each string takes at most 2^47 - 4096 bytes).
-/
import Derived.Test.YthojcidbhojlhaaGa
import Derived.Test.YthojcidbhojlhaaDk
import Derived.Test.YthojcidbhojlhaaDx
import Derived.ProofKit
import Derived.OpenShut
import Derived.ShutString
import Derived.ChangeOld
import Derived.Below
import Derived.SizedLaws
namespace Go.Proofs.Ythojcidbhojlhaa
namespace DebWritesP
open Go.ChangeShapes Go.WideShapes Go.ChangeAt Go.RowKit
open Go.ChangeMaps (open_string shut_string)
set_option linter.unusedVariables false

theorem own : ownKnob Try.prog.godebug = none := by kernel_rfl

/-- A version in its box, behind what was there. -/
structure OV (w W : World) (v : DebL) : Prop where
  bel : Below w.heap.size w W
  ea : W.heap[w.heap.size]? = some (.cells #[.string (ofL v.ep), .string (ofL v.up), .string (ofL v.rev)] 23 (0, 0))
theorem OV.next {w W W' : World} {v : DebL} (h : OV w W v) (hb : Below W.heap.size W W') : OV w W' v :=
  ⟨h.bel.trans (hb.mono h.bel.size), (hb.block _ (Array.getElem?_eq_some_iff.1 h.ea).1).trans h.ea⟩
theorem OV.seen {w W : World} {v : DebL} (h : OV w W v) : W.cell? ⟨w.heap.size, 0, none⟩ = some (.string (ofL v.ep)) ∧ W.cell? ⟨w.heap.size, 1, none⟩ = some (.string (ofL v.up)) ∧ W.cell? ⟨w.heap.size, 2, none⟩ = some (.string (ofL v.rev)) :=
  ⟨cell_at 0 h.ea rfl, cell_at 1 h.ea rfl, cell_at 2 h.ea rfl⟩

set_option maxRecDepth 100000 in
set_option maxHeartbeats 4000000 in
theorem walk (v : DebL) (hs : Sz v) (w : World) :
    Calls Try.prog 4 #[verV v] w fun e w' => e = .returned (.bool true) ∧ Below w.heap.size w w' := by
  have F1 := fun w => Fit_any v w hs
  have F2 := fun w => RFit_any v w hs
  have G1 := fun w => Format_any v w hs
  have G2 := fun w => RFormat_any v w hs
  unfold verV at F1 F2 G1 G2 ⊢
  have S0 : OV w (w.alloc (.cells #[.string (ofL v.ep), .string (ofL v.up), .string (ofL v.rev)] 23)) v := ⟨(Below.refl _ w).alloc (Nat.le_refl _) _, World.alloc_heap_new w _⟩
  have F1 := hide F1
  have F2 := hide F2
  have G1 := hide G1
  have G2 := hide G2
  generalize fitB v = fb at *
  generalize formL v = fo at *
  have eb : (fb == fb) = true := by simp
  have eo : ((ofL fo).toList == (ofL fo).toList) = true := by simp
  go_enter Try.func4, Try.ntmps4
  go_wp2_with fail
  generalize w.alloc (.cells #[.string (ofL v.ep), .string (ofL v.up), .string (ofL v.rev)] 23) = W0 at *
  have D0 : OV w W0.drew v := ⟨S0.bel.drew, S0.ea⟩
  obtain ⟨c0, c1, c2⟩ := S0.seen
  go_region_held3 (fun w' => w'.cell? ⟨w.heap.size, 0, none⟩ = some (.string (ofL v.ep)) ∧ w'.cell? ⟨w.heap.size, 1, none⟩ = some (.string (ofL v.up)) ∧ w'.cell? ⟨w.heap.size, 2, none⟩ = some (.string (ofL v.rev)))
    (go_keep)
    ((first
      | (go_at_call 11; refine (awake_any _).mono ?_; rintro e w5 ⟨rfl, b5⟩; have Q5 := Q4.next b5; obtain ⟨k0, k1, k2⟩ := Q5.seen)
      | (go_at_call 15; refine (G2.out _).mono ?_; rintro e w4 ⟨rfl, b4⟩; have Q4 := Q3.next b4; obtain ⟨j0, j1, j2⟩ := Q4.seen)
      | (go_at_call 14; refine (G1.out _).mono ?_; rintro e w3 ⟨rfl, b3⟩; have Q3 := Q2.next b3; obtain ⟨i0, i1, i2⟩ := Q3.seen)
      | (go_at_call 13; refine (F2.out _).mono ?_; rintro e w2 ⟨rfl, b2⟩; have Q2 := Q1.next b2; obtain ⟨h0, h1, h2⟩ := Q2.seen)
      | (go_at_call 12; refine (F1.out _).mono ?_; rintro e w1 ⟨rfl, b1⟩; have Q1 := D0.next b1; obtain ⟨g0, g1, g2⟩ := Q1.seen)
      | fail))
  go_wp2_with fail
  go_ret
  exact ⟨rfl, Q5.bel⟩

set_option maxRecDepth 100000 in
theorem lifted (os : Os) (started : os.Started) (H : Type) (enc : TypeId × Value → H) :
    ReturnsInHanded {} Try.checked os 4 .any (Rows.debWritesSpec.pre6 enc Try.prog Try.f4 Rows.debWritesRow.domain false) (Rows.debWritesSpec.post enc Try.prog Try.f4 false true false false) := by
  refine returnsInHanded_of_change_sized (C := Try.checked) own started (by kernel_rfl) Try.func4
    (ChangeSpec.witness6 (enc := enc) (C := Try.checked) false ⟨#[], #[.agg #[.string .empty, .string .empty, .string .empty]], []⟩ 8 (by kernel_rfl) (by kernel_rfl) (by kernel_rfl) (by kernel_rfl)) ?_
  intro W base args ds gs before hval0 hW hcnd hsz0 _
  have hval : ∀ (j : Nat) t v, Try.f4.params[j]? = some t → args[j]? = some v → Value.okWide Try.prog W .any base t v := hval0
  have hsz : (DataW.weightsEach Try.prog (Try.f4.params.toList ++ Rows.debWritesSpec.plain.varTypes Try.prog) (ds ++ gs)).all (· ≤ reachBytes) = true := hsz0
  have hW' := hW
  obtain ⟨p, q, hA0, hV, rfl, hfz, hnd⟩ := hW
  have hA : DataW.TrodAll enc Try.prog W 0 (fun _ => true) true Try.f4.params.toList args.toList ds p := hA0
  rw [Try.params4] at hA hval hsz
  obtain ⟨v0, vs0, d0, ds0, p0, q0, hargs, rfl, rfl, h0, r0⟩ := trodAll_cons hA
  obtain ⟨rfl, rfl, rfl⟩ := trodAll_nil r0
  obtain rfl : args = #[v0] := by cases args; simp_all
  obtain ⟨rfl, rfl⟩ := trodVars_none hV
  have k0 := h0
  have lt0 : ∀ x ∈ p0, x.block < W.heap.size := by obtain ⟨m, hm⟩ := k0; exact DataW.trod_lt m _ _ _ hm
  obtain ⟨a0, hv0, hd0⟩ := open_ver (hval 0 23 v0 rfl rfl) h0
  subst hd0
  subst hv0
  have s0 : Sz a0 := sized_ver hsz (j := 0) rfl rfl
  clear hA0 hval0 hsz0 hsz
  refine (walk a0 s0 W).mono fun e W' ⟨he, bel⟩ => ?_
  subst he
  exact ⟨_, rfl, _, _, _, [], _, [], hW', trodAll_mk1 (shut_bool Try.underlying4 _), (trodAll_cons_mk (Below.trod laidOut (by kernel_rfl) (of_decide_eq_true (by kernel_rfl)) k0 bel lt0) trodAll_mk0), rfl, bel.frame _, fun h => by cases h⟩

theorem over : Rows.debWritesRow.holds Try.pinned (OpenSpec.ofChange Rows.debWritesSpec) :=
  OpenClaim.holds_of_wide 4 Try.f4 rfl rfl rfl rfl rfl rfl rfl ⟨rfl, rfl, rfl, rfl, rfl⟩ rfl rfl rfl rfl rfl (by kernel_rfl) Try.func4 (by kernel_rfl)
    (of_decide_eq_true (by kernel_rfl)) (by unfold Func.isWrapper; first | (rw [if_pos (by decide +kernel)]; kernel_rfl) | (rw [if_neg (by decide +kernel)]; exact ⟨rfl, rfl⟩))
    (fun os started H enc _ => lifted os started H enc)
end DebWritesP

theorem debWrites_holds : Rows.DebWritesSaid := DebWritesP.over
#print axioms debWrites_holds
end Go.Proofs.Ythojcidbhojlhaa
