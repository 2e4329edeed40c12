/-
  Proved: for any requirement and any text of a version, of bulk at most 1048576 together, whether the requirement is one, its text, and whether it wants the version, are as the document's own answers say, and the requirement stays as it is; and chapter 9's examples hold: MvnspecDoes returns true and leaves its arguments as they were. The variable dovetail/maven.known starts as the program's text lays it (the card ties it to the pruned copy).
-/
import Derived.Test.YtpedljmpobhimaaGreatDoorJr
import Derived.Test.YtpedljmpobhimaaGreatDoorGb
import Derived.Test.YtpedljmpobhimaaGreatDoorCards
import Derived.SevenTiedAt
namespace Go.Proofs.YtpedljmpobhimaaGreatDoor
namespace MvnspecDoesP
open Go.ChangeShapes Go.WideShapes Go.ChangeAt Go.RowKit Go.Shelf
open Go.ChangeMaps (open_string shut_string)
set_option linter.unusedVariables false

set_option maxRecDepth 100000 in
set_option maxHeartbeats 2000000 in
theorem contract (H : Type) (enc : TypeId × Value → H) (W : World) (base : Nat) (args : Array Value) (ds gs : List (DataW H)) (before : List MemPlace)
    (hval : ∀ (j : Nat) t v, Tryz.f4.params[j]? = some t → args[j]? = some v → Value.okWide Tryz.prog W .any base t v)
    (hW : DataW.Whole enc Tryz.prog Tryz.f4.params.toList Rows.mvnspecDoesSpec.vars false W args.toList ds gs before) (hk : Rows.uptoSmall H (ds ++ gs) = true)
    (hL : laidMetH Tryz.prog [("dovetail/maven.known", Rows.laid_dovetail_maven_known)] W) :
    Calls Tryz.prog 4 args W fun e W' => ∃ v, e = .returned v ∧ Rows.mvnspecDoesSpec.post enc Tryz.prog Tryz.f4 false true false false W args v W' := by
  have hW' := hW
  obtain ⟨p, q, hA0, hV, rfl, hfz, hnd⟩ := hW
  have hA : DataW.TrodAll enc Tryz.prog W 0 (fun _ => true) true Tryz.f4.params.toList args.toList ds p := hA0
  rw [Tryz.params4] at hA hval
  obtain ⟨v0, vs0, d0, ds0, p0, q0, hargs, rfl, rfl, h0, r0⟩ := trodAll_cons hA
  obtain ⟨v1, vs1, d1, ds1, p1, q1, rfl, rfl, rfl, h1, r1⟩ := trodAll_cons r0
  obtain ⟨rfl, rfl, rfl⟩ := trodAll_nil r1
  obtain rfl : args = #[v0, v1] := by cases args; simp_all
  obtain ⟨rfl, rfl⟩ := trodVars_none hV
  have hb : Rows.uptoBulk d0 + Rows.uptoBulk d1 ≤ 1048576 := by
    have := of_decide_eq_true hk
    simpa only [List.append_nil, Rows.uptoBulkAll, Nat.add_zero] using this
  have k0 := h0
  have lt0 : ∀ x ∈ p0, x.block < W.heap.size := by obtain ⟨m, hm⟩ := k0; exact DataW.trod_lt m _ _ _ hm
  obtain ⟨t, a, c, ms, rfl, hnil, htl, hM, hl, hx⟩ := open_mav (hval 0 24 v0 rfl rfl) h0
  obtain ⟨a1, rfl, rfl, rfl, w1⟩ := open_string Tryz.underlying9 (hval 1 9 v1 rfl rfl) h1
  clear hA0
  refine (does_walk t a c ms a1 W hM ⟨by omega, fun m hm => by have := hx m hm; exact ⟨by omega, by omega⟩⟩ (by omega) hnil (of_laid hL)).mono fun e W' ⟨he, bel⟩ => ?_
  subst he
  exact ⟨_, rfl, _, _, _, [], _, [], hW', trodAll_mk1 (shut_bool Tryz.underlying4 _), (trodAll_cons_mk (Below.trod laidOut (by kernel_rfl) (of_decide_eq_true (by kernel_rfl)) k0 bel lt0) (trodAll_cons_mk (shut_string Tryz.underlying9 w1) trodAll_mk0)), rfl, bel.frame _, fun h => by cases h⟩

set_option maxRecDepth 100000 in
theorem lifted (os : Os) (started : os.Started) (H : Type) (enc : TypeId × Value → H) (F : Stop.Interp) :
    ReturnsInHanded {} Tryz.checked os 4 .any (fun w args => ((Rows.OpenSpec.upto Rows.mvnspecDoesSpec).pre enc Tryz.prog Tryz.f4 [] false w args ∧ laidMetH Tryz.prog [("dovetail/maven.known", Rows.laid_dovetail_maven_known)] w) ∧ sizedMet enc Tryz.prog Tryz.f4 (Rows.OpenSpec.upto Rows.mvnspecDoesSpec) false w args)
      (((Rows.OpenSpec.upto Rows.mvnspecDoesSpec).at F).post enc Tryz.prog Tryz.f4 false true false false) := by
  refine handed_cond_and (C := Tryz.checked) (s := Rows.OpenSpec.upto Rows.mvnspecDoesSpec) (k := Rows.uptoSmall) rfl (X := fun w => laidMetH Tryz.prog [("dovetail/maven.known", Rows.laid_dovetail_maven_known)] w) (fun _ _ hh h => h.of_heap hh) ownK started (by kernel_rfl) Tryz.func4 ?_ ?_
  · have hok : Input.okWideB Tryz.prog ((World.doorLaid Tryz.prog 400 os).forCall (fun _ _ => 0) ⟨#[], #[.agg #[.string .empty, .slice none 0 0], .string .empty], []⟩) 4 ⟨#[], #[.agg #[.string .empty, .slice none 0 0], .string .empty], []⟩ = true := by kernel_rfl
    refine ⟨World.doorLaid Tryz.prog 400 os, fun _ _ => 0, ⟨#[], #[.agg #[.string .empty, .slice none 0 0], .string .empty], []⟩, rfl, World.shaped_of_RefB (by kernel_rfl) (by kernel_rfl), (Input.okWide_of_okWideB (base := 0) hok).1, (Input.okWide_of_okWideB hok).2, ⟨⟨?_, door_met os _⟩, ?_⟩, ?_⟩
    · exact (OpenSpec.pre_some (k := Rows.uptoSmall) rfl [] false _ _).2 ⟨[.agg [.lit (.string []), .nil], .lit (.string [])], [], [], DataW.Whole_of_whole (fuel := 8) (x := ([.agg [.lit (.string []), .nil], .lit (.string [])], [], [])) (by kernel_rfl), rfl, by kernel_rfl⟩
    · exact sizedMet_of_sizedB (fuel := 8) (by kernel_rfl)
    · simp only [Assume.holds]
      exact ⟨by simp, by simp, fun _ => Modest.zero, by simp, by simp⟩
  · intro W base args ds gs before hval hW hk hL
    exact contract H enc W base args ds gs before hval hW hk hL

theorem over : Rows.mvnspecDoesUptoRow.holds Tryz.pinned (Rows.OpenSpec.upto Rows.mvnspecDoesSpec) :=
  OpenClaim.holds_of_cond 4 Tryz.f4 rfl rfl rfl rfl rfl rfl rfl ⟨rfl, rfl, rfl, rfl, rfl⟩ rfl rfl rfl rfl rfl (by kernel_rfl) Tryz.func4 (by kernel_rfl)
    (of_decide_eq_true (by kernel_rfl)) (by unfold Func.isWrapper; first | (rw [if_pos (by decide +kernel)]; kernel_rfl) | (rw [if_neg (by decide +kernel)]; exact ⟨rfl, rfl⟩))
    (fun os started H enc _ F => lifted os started H enc F)

theorem card : Claim7.holds Tryz.pinned (.plain (Rows.OpenSpec.upto Rows.mvnspecDoesSpec)) Rows.mvnspecDoesUptoCard :=
  Claim7.holds_tied_plain_at .later [] [.data] true (true, "2d1d4f4344d59f3f49697c2efb5e1015fbd8183d16a3ebbe8f89dfce0cd9d6cc") false
    over (fun _ h => by cases h) (by kernel_rfl) (fun _ h => by cases h) mvnspecDoesUpto_row_tie rfl ⟨rfl, rfl⟩ (by kernel_rfl) rfl
    (fun f fn hf hfn => by
      obtain rfl : f = 4 := Option.some.inj ((show Tryz.prog.funcNamed "dovetail/dovetaillaw09.MvnspecDoes" = some 4 by kernel_rfl).symm.trans hf) |>.symm
      obtain rfl : fn = Tryz.f4 := (Option.some.inj (Tryz.func4.symm.trans hfn)).symm
      exact ⟨by kernel_rfl, fun j t ht => by
        rw [Tryz.params4] at ht
        have hm : t ∈ [24, 9] := by simpa using Array.mem_of_getElem? ht
        have hall : ([24, 9].all fun u => !Tryz.prog.wantsStandIn u) = true := by kernel_rfl
        exact (show Tryz.prog.wantsStandIn t = false by simpa using List.all_eq_true.1 hall t hm)⟩)
    (by kernel_rfl)
end MvnspecDoesP

theorem mvnspecDoes_holds : Rows.MvnspecDoesUptoCardSaid := MvnspecDoesP.card
#print axioms mvnspecDoes_holds
end Go.Proofs.YtpedljmpobhimaaGreatDoor
