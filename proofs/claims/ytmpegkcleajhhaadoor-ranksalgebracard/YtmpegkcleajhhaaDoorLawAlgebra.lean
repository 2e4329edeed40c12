/-
  Proved: for any number and any three rows of spans, fit sets of ranks below it are a Boolean algebra under Union, Meet and Not: commutative, associative, distributive, with complements, De Morgan's laws, Minus as Meet with Not, Not of Not; and chapter 7's example holds: RanksAlgebra returns true and leaves its arguments as they were. The listed variables start as the program's text lays them (the card ties them); no condition but that and the form's own reach.
-/
import Derived.Test.YtmpegkcleajhhaaDoorDr
import Derived.Test.YtmpegkcleajhhaaDoorDwe
import Derived.Test.YtmpegkcleajhhaaDoorDwf
import Derived.Test.YtmpegkcleajhhaaDoorCards
import Derived.SevenTiedAt
namespace Go.Proofs.YtmpegkcleajhhaaDoor
open Go.ChangeShapes Go.WideShapes Go.ChangeAt Go.RowKit
set_option linter.unusedVariables false

namespace RanksAlgebraP
open Go.ChangeMaps (open_string shut_string)
open Go.Shelf

set_option maxRecDepth 100000 in
set_option maxHeartbeats 4000000 in
theorem walk (n : Int) (va : Value) (a : List Sp) (vb : Value) (b : List Sp) (vc : Value) (c : List Sp) (w : World) (hA : Spans w va a) (zA : a.length ≤ 1000000000000000) (hB : Spans w vb b) (zB : b.length ≤ 1000000000000000) (hC : Spans w vc c) (zC : c.length ≤ 1000000000000000) (hT : Tab w) :
    Calls Tryd.prog 5 #[.int .i64 n, va, vb, vc] w fun e w' => e = .returned (.bool true) ∧ Below w.heap.size w w' := by
  have F1 := fun W (hb : Below w.heap.size w W) => RFit_any n va a W (hA.below hb) zA
  have F2 := fun W (hb : Below w.heap.size w W) => RFit_any n vb b W (hB.below hb) zB
  have F3 := fun W (hb : Below w.heap.size w W) => RFit_any n vc c W (hC.below hb) zC
  have CW := hide (fun W (b : Below w.heap.size w W) => awake_any W (hT.below b))
  have kA := hA
  have kB := hB
  have kC := hC
  obtain ⟨aa, ca, rfl, _⟩ := hA
  obtain ⟨ab, cb, rfl, _⟩ := hB
  obtain ⟨ac, cc, rfl, _⟩ := hC
  have b0 : Below w.heap.size w (w.alloc (.cells #[.int .i64 n] 3)) := (Below.refl _ w).alloc (Nat.le_refl _) _
  have bx0 : Boxed (w.alloc (.cells #[.int .i64 n] 3)) w.heap.size 3 (.int .i64 n) := World.alloc_heap_new w _
  cases ha : fitL n a
  · rw [ha] at F1
    have F1 := hide F1
    clear F2 F3 hT kA kB kC
    go_enter Tryd.func5, Tryd.ntmps5
    go_wp2_with fail
    refine (F1.out _ b0).mono ?_
    rintro e w1 ⟨rfl, k1⟩
    have b1 : Below w.heap.size w w1 := b0.trans (k1.mono b0.size)
    try dsimp only
    go_wp2_with fail
    refine (CW.out _ b1).mono ?_
    rintro e w2 ⟨rfl, k2⟩
    have b2 : Below w.heap.size w w2 := b1.trans (k2.mono b1.size)
    try dsimp only
    go_wp2_with fail
    go_ret
    exact ⟨rfl, b2⟩
  cases hb : fitL n b
  · rw [ha] at F1
    rw [hb] at F2
    have F1 := hide F1
    have F2 := hide F2
    clear F3 hT kA kB kC
    go_enter Tryd.func5, Tryd.ntmps5
    go_wp2_with fail
    refine (F1.out _ b0).mono ?_
    rintro e w1 ⟨rfl, k1⟩
    have b1 : Below w.heap.size w w1 := b0.trans (k1.mono b0.size)
    have bx1 := boxed_below bx0 k1
    have cn1 := bx1.cell
    try dsimp only
    go_wp2_with fail
    refine (F2.out _ b1).mono ?_
    rintro e w2 ⟨rfl, k2⟩
    have b2 : Below w.heap.size w w2 := b1.trans (k2.mono b1.size)
    try dsimp only
    go_wp2_with fail
    refine (CW.out _ b2).mono ?_
    rintro e w3 ⟨rfl, k3⟩
    have b3 : Below w.heap.size w w3 := b2.trans (k3.mono b2.size)
    try dsimp only
    go_wp2_with fail
    go_ret
    exact ⟨rfl, b3⟩
  cases hc : fitL n c
  · rw [ha] at F1
    rw [hb] at F2
    rw [hc] at F3
    have F1 := hide F1
    have F2 := hide F2
    have F3 := hide F3
    clear hT kA kB kC
    go_enter Tryd.func5, Tryd.ntmps5
    go_wp2_with fail
    refine (F1.out _ b0).mono ?_
    rintro e w1 ⟨rfl, k1⟩
    have b1 : Below w.heap.size w w1 := b0.trans (k1.mono b0.size)
    have bx1 := boxed_below bx0 k1
    have cn1 := bx1.cell
    try dsimp only
    go_wp2_with fail
    refine (F2.out _ b1).mono ?_
    rintro e w2 ⟨rfl, k2⟩
    have b2 : Below w.heap.size w w2 := b1.trans (k2.mono b1.size)
    have bx2 := boxed_below bx1 k2
    have cn2 := bx2.cell
    try dsimp only
    go_wp2_with fail
    refine (F3.out _ b2).mono ?_
    rintro e w3 ⟨rfl, k3⟩
    have b3 : Below w.heap.size w w3 := b2.trans (k3.mono b2.size)
    try dsimp only
    go_wp2_with fail
    refine (CW.out _ b3).mono ?_
    rintro e w4 ⟨rfl, k4⟩
    have b4 : Below w.heap.size w w4 := b3.trans (k4.mono b3.size)
    try dsimp only
    go_wp2_with fail
    go_ret
    exact ⟨rfl, b4⟩
  rw [ha] at F1
  rw [hb] at F2
  rw [hc] at F3
  have hn := fitL_iff.1 ha
  exact core n aa ab ac _ _ _ ca cb cc _ _ _ w (SetV.of kA ha) (SetV.of kB hb) (SetV.of kC hc) hT F1 F2 F3 hn.1 hn.2.1 ok_run

set_option maxRecDepth 100000 in
theorem lifted (os : Os) (started : os.Started) (H : Type) (enc : TypeId × Value → H) :
    ReturnsInHanded {} Tryd.checked os 5 .any (fun w args => (Rows.ranksAlgebraSpec.pre enc Tryd.prog Tryd.f5 [] false w args ∧ laidMetH Tryd.prog laidV w) ∧ sizedMet enc Tryd.prog Tryd.f5 (OpenSpec.ofChange Rows.ranksAlgebraSpec) false w args)
      (Rows.ranksAlgebraSpec.post enc Tryd.prog Tryd.f5 false true false false) := by
  refine returnsInHanded_of_change_and (C := Tryd.checked) (X := fun w _ => laidMetH Tryd.prog laidV w) (fun _ _ _ hh h => h.of_heap hh) ownK started (by kernel_rfl) Tryd.func5
    (ChangeSpec.witness_shaped (enc := enc) (C := Tryd.checked) (os := os) (X := fun w _ => laidMetH Tryd.prog laidV w) false (World.doorLaid Tryd.prog 400 os) #[.int .i64 0, .slice none 0 0, .slice none 0 0, .slice none 0 0] 8 rfl (World.shaped_of_RefB (by kernel_rfl) (by kernel_rfl)) (by kernel_rfl) (by kernel_rfl) (by kernel_rfl) (door_met os _)) ?_
  intro W base args ds gs before hval0 hW _ hsz0 hL _
  have hval : ∀ (j : Nat) t v, Tryd.f5.params[j]? = some t → args[j]? = some v → Value.okWide Tryd.prog W .any base t v := hval0
  have hsz : (DataW.weightsEach Tryd.prog (Tryd.f5.params.toList ++ Rows.ranksAlgebraSpec.plain.varTypes Tryd.prog) (ds ++ gs)).all (· ≤ reachBytes) = true := hsz0
  have hW' := hW
  obtain ⟨p, q, hA0, hV, rfl, hfz, hnd⟩ := hW
  have hA : DataW.TrodAll enc Tryd.prog W 0 (fun _ => true) true Tryd.f5.params.toList args.toList ds p := hA0
  rw [Tryd.params5] at hA hval hsz
  obtain ⟨v0, vs0, d0, ds0, p0, q0, hargs, rfl, rfl, h0, r0⟩ := trodAll_cons hA
  obtain ⟨v1, vs1, d1, ds1, p1, q1, rfl, rfl, rfl, h1, r1⟩ := trodAll_cons r0
  obtain ⟨v2, vs2, d2, ds2, p2, q2, rfl, rfl, rfl, h2, r2⟩ := trodAll_cons r1
  obtain ⟨v3, vs3, d3, ds3, p3, q3, rfl, rfl, rfl, h3, r3⟩ := trodAll_cons r2
  obtain ⟨rfl, rfl, rfl⟩ := trodAll_nil r3
  obtain rfl : args = #[v0, v1, v2, v3] := by cases args; simp_all
  obtain ⟨rfl, rfl⟩ := trodVars_none hV
  obtain ⟨a0, rfl, rfl, rfl, w0⟩ := open_int Tryd.underlying3 (hval 0 3 v0 rfl rfl) h0
  have k1 := h1
  have lt1 : ∀ x ∈ p1, x.block < W.heap.size := by obtain ⟨m, hm⟩ := k1; exact DataW.trod_lt m _ _ _ hm
  obtain ⟨b1, l1, c1, rfl⟩ := okWide_slice Tryd.underlying22 (hval 1 22 v1 rfl rfl)
  obtain ⟨m1, hm1⟩ := h1
  obtain ⟨a1, n1, e1, s1, hv1, hl1, hS1, hz1⟩ := open_spans (hm1 : DataW.trod enc Tryd.prog W 0 _ true m1 22 [.slice b1 l1 c1] = some (d1, p1))
  cases hv1
  have hb1 := row_len hsz (j := 1) (t := 22) (e := 45) rfl rfl Tryd.underlying22 (by rw [bytes45]; decide) hz1
  have k2 := h2
  have lt2 : ∀ x ∈ p2, x.block < W.heap.size := by obtain ⟨m, hm⟩ := k2; exact DataW.trod_lt m _ _ _ hm
  obtain ⟨b2, l2, c2, rfl⟩ := okWide_slice Tryd.underlying22 (hval 2 22 v2 rfl rfl)
  obtain ⟨m2, hm2⟩ := h2
  obtain ⟨a2, n2, e2, s2, hv2, hl2, hS2, hz2⟩ := open_spans (hm2 : DataW.trod enc Tryd.prog W 0 _ true m2 22 [.slice b2 l2 c2] = some (d2, p2))
  cases hv2
  have hb2 := row_len hsz (j := 2) (t := 22) (e := 45) rfl rfl Tryd.underlying22 (by rw [bytes45]; decide) hz2
  have k3 := h3
  have lt3 : ∀ x ∈ p3, x.block < W.heap.size := by obtain ⟨m, hm⟩ := k3; exact DataW.trod_lt m _ _ _ hm
  obtain ⟨b3, l3, c3, rfl⟩ := okWide_slice Tryd.underlying22 (hval 3 22 v3 rfl rfl)
  obtain ⟨m3, hm3⟩ := h3
  obtain ⟨a3, n3, e3, s3, hv3, hl3, hS3, hz3⟩ := open_spans (hm3 : DataW.trod enc Tryd.prog W 0 _ true m3 22 [.slice b3 l3 c3] = some (d3, p3))
  cases hv3
  have hb3 := row_len hsz (j := 3) (t := 22) (e := 45) rfl rfl Tryd.underlying22 (by rw [bytes45]; decide) hz3
  have hk := of_laid hL
  clear hA0 hval0 hsz0 hsz
  refine (walk a0 _ s1 _ s2 _ s3 W hS1 (by rw [hl1]; exact hb1) hS2 (by rw [hl2]; exact hb2) hS3 (by rw [hl3]; exact hb3) hk).mono fun e W' ⟨he, bel⟩ => ?_
  subst he
  exact ⟨_, rfl, _, _, _, [], _, [], hW', trodAll_mk1 (shut_bool Tryd.underlying4 _), (trodAll_cons_mk (shut_int Tryd.underlying3 w0) (trodAll_cons_mk (Below.trod laidOut (by kernel_rfl) (of_decide_eq_true (by kernel_rfl)) k1 bel lt1) (trodAll_cons_mk (Below.trod laidOut (by kernel_rfl) (of_decide_eq_true (by kernel_rfl)) k2 bel lt2) (trodAll_cons_mk (Below.trod laidOut (by kernel_rfl) (of_decide_eq_true (by kernel_rfl)) k3 bel lt3) trodAll_mk0)))), rfl, bel.frame _, fun h => by cases h⟩

theorem over : Rows.ranksAlgebraRow.holds Tryd.pinned (OpenSpec.ofChange Rows.ranksAlgebraSpec) :=
  OpenClaim.holds_of_wide 5 Tryd.f5 rfl rfl rfl rfl rfl rfl rfl ⟨rfl, rfl, rfl, rfl, rfl⟩ rfl rfl rfl rfl rfl (by kernel_rfl) Tryd.func5 (by kernel_rfl)
    (of_decide_eq_true (by kernel_rfl)) (by unfold Func.isWrapper; first | (rw [if_pos (by decide +kernel)]; kernel_rfl) | (rw [if_neg (by decide +kernel)]; exact ⟨rfl, rfl⟩))
    (fun os started H enc _ => lifted os started H enc)

theorem card : Claim7.holds Tryd.pinned (.plain (OpenSpec.ofChange Rows.ranksAlgebraSpec)) Rows.ranksAlgebraCard :=
  Claim7.holds_tied_plain_at .later [] [.data, .data, .data] true (true, "7538bfbc963d9866992706910c0bf13ef14b8610dd84b3703efe6427513f24f8") false
    over (fun _ h => by cases h) (by kernel_rfl) (fun _ h => by cases h) ranksAlgebra_row_tie rfl ⟨rfl, rfl⟩ (by kernel_rfl) rfl
    (fun f fn hf hfn => by
      obtain rfl : f = 5 := Option.some.inj ((show Tryd.prog.funcNamed "dovetail/dovetaillaw07.RanksAlgebra" = some 5 by kernel_rfl).symm.trans hf) |>.symm
      obtain rfl : fn = Tryd.f5 := (Option.some.inj (Tryd.func5.symm.trans hfn)).symm
      exact ⟨by kernel_rfl, fun j t ht => by
        rw [Tryd.params5] at ht
        have hm : t ∈ [3, 22, 22, 22] := by simpa using Array.mem_of_getElem? ht
        have hall : ([3, 22, 22, 22].all fun u => !Tryd.prog.wantsStandIn u) = true := by kernel_rfl
        exact (show Tryd.prog.wantsStandIn t = false by simpa using List.all_eq_true.1 hall t hm)⟩)
    (by kernel_rfl)
end RanksAlgebraP

theorem ranksAlgebra_holds : Rows.RanksAlgebraCardSaid := RanksAlgebraP.card
#print axioms ranksAlgebra_holds

end Go.Proofs.YtmpegkcleajhhaaDoor
