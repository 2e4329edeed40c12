/-
  Proved: for any two rows of tokens, any two texts and any slice of texts, of bulk at most 1048576 together, Fit, Order, Compare and Sort answer as the document says, what goes in stays, and chapter 6's examples hold: MavenOrders returns true and leaves its arguments as they were. The variable dovetail/maven.known starts as the program's text lays it (the card ties it).
-/
import Derived.Test.YtobcoppbphfcaaaDoorRj
import Derived.Test.YtobcoppbphfcaaaDoorGb
import Derived.Test.YtobcoppbphfcaaaDoorCards
import Derived.SevenTiedAt
namespace Go.Proofs.YtobcoppbphfcaaaDoor
namespace MavenOrdersP
open Go.ChangeShapes Go.WideShapes Go.ChangeAt Go.RowKit Go.Shelf
open Go.ChangeMaps (open_string shut_string)
set_option linter.unusedVariables false

set_option maxRecDepth 100000 in
set_option maxHeartbeats 2000000 in
theorem contract (H : Type) (enc : TypeId × Value → H) (W : World) (base : Nat) (args : Array Value) (ds gs : List (DataW H)) (before : List MemPlace)
    (hval : ∀ (j : Nat) t v, Tryd.f4.params[j]? = some t → args[j]? = some v → Value.okWide Tryd.prog W .any base t v)
    (hW : DataW.Whole enc Tryd.prog Tryd.f4.params.toList Rows.mavenOrdersSpec.vars false W args.toList ds gs before) (hk : Rows.uptoSmall H (ds ++ gs) = true)
    (hL : laidMetH Tryd.prog [("dovetail/maven.known", Rows.laid_dovetail_maven_known)] W) :
    Calls Tryd.prog 4 args W fun e W' => ∃ v, e = .returned v ∧ Rows.mavenOrdersSpec.post enc Tryd.prog Tryd.f4 false true false false W args v W' := by
  have hW' := hW
  obtain ⟨p, q, hA0, hV, rfl, hfz, hnd⟩ := hW
  have hA : DataW.TrodAll enc Tryd.prog W 0 (fun _ => true) true Tryd.f4.params.toList args.toList ds p := hA0
  rw [Tryd.params4] at hA hval
  obtain ⟨v0, vs0, d0, ds0, p0, q0, hargs, rfl, rfl, h0, r0⟩ := trodAll_cons hA
  obtain ⟨v1, vs1, d1, ds1, p1, q1, rfl, rfl, rfl, h1, r1⟩ := trodAll_cons r0
  obtain ⟨v2, vs2, d2, ds2, p2, q2, rfl, rfl, rfl, h2, r2⟩ := trodAll_cons r1
  obtain ⟨v3, vs3, d3, ds3, p3, q3, rfl, rfl, rfl, h3, r3⟩ := trodAll_cons r2
  obtain ⟨v4, vs4, d4, ds4, p4, q4, rfl, rfl, rfl, h4, r4⟩ := trodAll_cons r3
  obtain ⟨rfl, rfl, rfl⟩ := trodAll_nil r4
  obtain rfl : args = #[v0, v1, v2, v3, v4] := by cases args; simp_all
  obtain ⟨rfl, rfl⟩ := trodVars_none hV
  have hb : Rows.uptoBulk d0 + (Rows.uptoBulk d1 + (Rows.uptoBulk d2 + (Rows.uptoBulk d3 + Rows.uptoBulk d4))) ≤ 1048576 := by
    have := of_decide_eq_true hk
    simpa only [List.append_nil, Rows.uptoBulkAll, Nat.add_zero] using this
  have k0 := h0
  have lt0 : ∀ x ∈ p0, x.block < W.heap.size := by obtain ⟨m, hm⟩ := k0; exact DataW.trod_lt m _ _ _ hm
  have k1 := h1
  have lt1 : ∀ x ∈ p1, x.block < W.heap.size := by obtain ⟨m, hm⟩ := k1; exact DataW.trod_lt m _ _ _ hm
  have k4 := h4
  have lt4 : ∀ x ∈ p4, x.block < W.heap.size := by obtain ⟨m, hm⟩ := k4; exact DataW.trod_lt m _ _ _ hm
  obtain ⟨b0, l0, c0, rfl⟩ := okWide_slice Tryd.underlying22 (hval 0 22 v0 rfl rfl)
  obtain ⟨m0, hm0⟩ := h0
  obtain ⟨a0, n0, e0, t0, hv0, hT0, hn0, hl0, hx0⟩ := open_toks (hm0 : DataW.trod enc Tryd.prog W 0 _ true m0 22 [.slice b0 l0 c0] = some (d0, p0))
  cases hv0
  obtain ⟨b1, l1, c1, rfl⟩ := okWide_slice Tryd.underlying22 (hval 1 22 v1 rfl rfl)
  obtain ⟨m1, hm1⟩ := h1
  obtain ⟨a1, n1, e1, t1, hv1, hT1, hn1, hl1, hx1⟩ := open_toks (hm1 : DataW.trod enc Tryd.prog W 0 _ true m1 22 [.slice b1 l1 c1] = some (d1, p1))
  cases hv1
  obtain ⟨a2, rfl, rfl, rfl, w2⟩ := open_string Tryd.underlying9 (hval 2 9 v2 rfl rfl) h2
  obtain ⟨a3, rfl, rfl, rfl, w3⟩ := open_string Tryd.underlying9 (hval 3 9 v3 rfl rfl) h3
  obtain ⟨b4, l4, c4, rfl⟩ := okWide_slice Tryd.underlying33 (hval 4 33 v4 rfl rfl)
  obtain ⟨m4, hm4⟩ := h4
  obtain ⟨a4, n4, e4, ts, hv4, hl, hT4, hn4, hl4⟩ := open_txts (hm4 : DataW.trod enc Tryd.prog W 0 _ true m4 33 [.slice b4 l4 c4] = some (d4, p4))
  cases hv4
  have hl0 : l0 ≤ Rows.uptoBulk d0 := hl0
  have hl1 : l1 ≤ Rows.uptoBulk d1 := hl1
  have hl4 : l4 ≤ Rows.uptoBulk d4 := hl4
  have hx0 : ∀ t ∈ t0, t.text.length ≤ Rows.uptoBulk d0 := hx0
  have hx1 : ∀ t ∈ t1, t.text.length ≤ Rows.uptoBulk d1 := hx1
  clear hA0
  refine (Orders_walk b0 l0 c0 t0 b1 l1 c1 t1 a2 a3 b4 l4 c4 ts W (of_laid hL) hT0 hT1 (by omega) (by omega) (fun t ht => by have := hx0 t ht; omega) (fun t ht => by have := hx1 t ht; omega) hl (by omega) hT4 hn4 hn0).mono fun e W' ⟨he, bel⟩ => ?_
  subst he
  exact ⟨_, rfl, _, _, _, [], _, [], hW', trodAll_mk1 (shut_bool Tryd.underlying4 _), (trodAll_cons_mk (Below.trod laidOut (by kernel_rfl) (of_decide_eq_true (by kernel_rfl)) k0 bel lt0) (trodAll_cons_mk (Below.trod laidOut (by kernel_rfl) (of_decide_eq_true (by kernel_rfl)) k1 bel lt1) (trodAll_cons_mk (shut_string Tryd.underlying9 w2) (trodAll_cons_mk (shut_string Tryd.underlying9 w3) (trodAll_cons_mk (Below.trod laidOut (by kernel_rfl) (of_decide_eq_true (by kernel_rfl)) k4 bel lt4) trodAll_mk0))))), rfl, bel.frame _, fun h => by cases h⟩

set_option maxRecDepth 100000 in
theorem lifted (os : Os) (started : os.Started) (H : Type) (enc : TypeId × Value → H) (F : Stop.Interp) :
    ReturnsInHanded {} Tryd.checked os 4 .any (fun w args => ((Rows.OpenSpec.upto Rows.mavenOrdersSpec).pre enc Tryd.prog Tryd.f4 [] false w args ∧ laidMetH Tryd.prog [("dovetail/maven.known", Rows.laid_dovetail_maven_known)] w) ∧ sizedMet enc Tryd.prog Tryd.f4 (Rows.OpenSpec.upto Rows.mavenOrdersSpec) false w args)
      (((Rows.OpenSpec.upto Rows.mavenOrdersSpec).at F).post enc Tryd.prog Tryd.f4 false true false false) := by
  refine handed_cond_and (C := Tryd.checked) (s := Rows.OpenSpec.upto Rows.mavenOrdersSpec) (k := Rows.uptoSmall) rfl (X := fun w => laidMetH Tryd.prog [("dovetail/maven.known", Rows.laid_dovetail_maven_known)] w) (fun _ _ hh h => h.of_heap hh) ownK started (by kernel_rfl) Tryd.func4 ?_ ?_
  · have hok : Input.okWideB Tryd.prog ((World.doorLaid Tryd.prog 400 os).forCall (fun _ _ => 0) ⟨#[], #[.slice none 0 0, .slice none 0 0, .string .empty, .string .empty, .slice none 0 0], []⟩) 4 ⟨#[], #[.slice none 0 0, .slice none 0 0, .string .empty, .string .empty, .slice none 0 0], []⟩ = true := by kernel_rfl
    refine ⟨World.doorLaid Tryd.prog 400 os, fun _ _ => 0, ⟨#[], #[.slice none 0 0, .slice none 0 0, .string .empty, .string .empty, .slice none 0 0], []⟩, rfl, World.shaped_of_RefB (by kernel_rfl) (by kernel_rfl), (Input.okWide_of_okWideB (base := 0) hok).1, (Input.okWide_of_okWideB hok).2, ⟨⟨?_, door_met os _⟩, ?_⟩, ?_⟩
    · exact (OpenSpec.pre_some (k := Rows.uptoSmall) rfl [] false _ _).2 ⟨[.nil, .nil, .lit (.string []), .lit (.string []), .nil], [], [], DataW.Whole_of_whole (fuel := 8) (x := ([.nil, .nil, .lit (.string []), .lit (.string []), .nil], [], [])) (by kernel_rfl), rfl, by kernel_rfl⟩
    · exact sizedMet_of_sizedB (fuel := 8) (by kernel_rfl)
    · simp only [Assume.holds]
      exact ⟨by simp, by simp, fun _ => Modest.zero, by simp, by simp⟩
  · intro W base args ds gs before hval hW hk hL
    exact contract H enc W base args ds gs before hval hW hk hL

theorem over : Rows.mavenOrdersUptoRow.holds Tryd.pinned (Rows.OpenSpec.upto Rows.mavenOrdersSpec) :=
  OpenClaim.holds_of_cond 4 Tryd.f4 rfl rfl rfl rfl rfl rfl rfl ⟨rfl, rfl, rfl, rfl, rfl⟩ rfl rfl rfl rfl rfl (by kernel_rfl) Tryd.func4 (by kernel_rfl)
    (of_decide_eq_true (by kernel_rfl)) (by unfold Func.isWrapper; first | (rw [if_pos (by decide +kernel)]; kernel_rfl) | (rw [if_neg (by decide +kernel)]; exact ⟨rfl, rfl⟩))
    (fun os started H enc _ F => lifted os started H enc F)

theorem card : Claim7.holds Tryd.pinned (.plain (Rows.OpenSpec.upto Rows.mavenOrdersSpec)) Rows.mavenOrdersUptoCard :=
  Claim7.holds_tied_plain_at .later [] [.data] true (true, "adf3a93007c9289153c9479c6fe9e7fbe64b72e51a43852ac870b6ca0d30064d") false
    over (fun _ h => by cases h) (by kernel_rfl) (fun _ h => by cases h) mavenOrdersUpto_row_tie rfl ⟨rfl, rfl⟩ (by kernel_rfl) rfl
    (fun f fn hf hfn => by
      obtain rfl : f = 4 := Option.some.inj ((show Tryd.prog.funcNamed "dovetail/dovetaillaw06.MavenOrders" = some 4 by kernel_rfl).symm.trans hf) |>.symm
      obtain rfl : fn = Tryd.f4 := (Option.some.inj (Tryd.func4.symm.trans hfn)).symm
      exact ⟨by kernel_rfl, fun j t ht => by
        rw [Tryd.params4] at ht
        have hm : t ∈ [22, 22, 9, 9, 33] := by simpa using Array.mem_of_getElem? ht
        have hall : ([22, 22, 9, 9, 33].all fun u => !Tryd.prog.wantsStandIn u) = true := by kernel_rfl
        exact (show Tryd.prog.wantsStandIn t = false by simpa using List.all_eq_true.1 hall t hm)⟩)
    (by kernel_rfl)
end MavenOrdersP

theorem mavenOrders_holds : Rows.MavenOrdersUptoCardSaid := MavenOrdersP.card
#print axioms mavenOrders_holds
end Go.Proofs.YtobcoppbphfcaaaDoor
