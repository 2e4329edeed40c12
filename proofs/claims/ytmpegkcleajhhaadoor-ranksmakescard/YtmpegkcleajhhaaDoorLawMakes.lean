/-
  Proved: for any number, any spans, any numbers and any truths, Fit tells what the document's tells, and Of, Where and All make the document's sets; and chapter 7's example holds: RanksMakes returns true and leaves its arguments as they were. The listed variables start as the program's text lays them (the card ties them); no condition but that and the form's own reach.
-/
import Derived.Test.YtmpegkcleajhhaaDoorCa
import Derived.Test.YtmpegkcleajhhaaDoorCards
import Derived.SevenTiedAt
namespace Go.Proofs.YtmpegkcleajhhaaDoor
open Go.ChangeShapes Go.WideShapes Go.ChangeAt Go.RowKit
set_option linter.unusedVariables false

namespace RanksMakesP
open Go.ChangeMaps (open_string shut_string)
open Go.Shelf

set_option maxRecDepth 100000 in
set_option maxHeartbeats 4000000 in
theorem walk (n : Int) (vs : Value) (s : List Sp) (vl : Value) (l : List Int) (vm : Value) (m : List Bool) (w : World) (hS : Spans w vs s) (zS : s.length ≤ 1000000000000000) (hL : Ints w vl l) (zL : l.length ≤ 1000000000000000) (hM : Bools w vm m) (zM : m.length ≤ 1000000000000000) (hT : Tab w) :
    Calls Tryd.prog 3 #[.int .i64 n, vs, vl, vm] w fun e w' => e = .returned (.bool true) ∧ Below w.heap.size w w' := by
  have C1 := hide (Fit_any n vs s w hS zS)
  have C2 := hide (fun W (b : Below w.heap.size w W) => RFit_any n vs s W (hS.below b) zS)
  have C3 := hide (fun W (b : Below w.heap.size w W) => Of_any n vl l W (hL.below b) zL)
  have C4 := hide (fun W (b : Below w.heap.size w W) => ROf_any n vl l W (hL.below b) zL)
  have C5 := hide (fun W (b : Below w.heap.size w W) => Where_any vm m W (hM.below b) zM)
  have C6 := hide (fun W (b : Below w.heap.size w W) => RWhere_any vm m W (hM.below b) zM)
  have C7 := hide (fun W (b : Below w.heap.size w W) => awake_any W (hT.below b))
  have HS : Hid (∀ W v v' t, Spans W v t → Spans W v' t → t.length ≤ 70000 → Calls Tryd.prog 9 #[v, v'] W fun e w' => e = .returned (.bool true) ∧ Below W.heap.size W w') := fun W v v' t h1 h2 h3 => by
    have := RSame_any v v' t t W h1 h2 (by omega)
    rwa [decide_eq_true rfl] at this
  have L1 : (ofRL n l).length ≤ 70000 := by have := where_len (atP (marksL (cnt n) l)) (cnt n); have := cnt_le n; unfold ofRL; omega
  have L2 : (whereL (atP m) (cnt m.length)).length ≤ 70000 := by have := where_len (atP m) (cnt m.length); have := cnt_le m.length; omega
  have L3 : (allL n).length ≤ 70000 := by unfold allL; split <;> simp
  clear hS hL hM hT zS zL zM
  generalize fitL n s = f at *
  generalize ofRL n l = X at *
  generalize whereL (atP m) (cnt m.length) = Y at *
  have CA := hide (fun W => All_any n W)
  have CB := hide (fun W => RAll_any n W)
  generalize allL n = Z at *
  have hff : (f == f) = true := by simp
  go_enter Tryd.func3, Tryd.ntmps3
  go_wp2_with fail
  refine C1.out.mono ?_
  rintro e w1 ⟨rfl, b1⟩
  go_wp2_with fail
  refine (C2.out _ b1).mono ?_
  rintro e w2 ⟨rfl, k2⟩
  have b2 : Below w.heap.size w w2 := b1.trans (k2.mono b1.size)
  go_wp2_with fail
  refine (C3.out _ b2).mono ?_
  rintro e w3 ⟨v3, rfl, s3, k3⟩
  have b3 : Below w.heap.size w w3 := b2.trans (k3.mono b2.size)
  go_wp2_with fail
  refine (C4.out _ b3).mono ?_
  rintro e w4 ⟨v4, rfl, s4, k4⟩
  have b4 : Below w.heap.size w w4 := b3.trans (k4.mono b3.size)
  go_wp2_with fail
  refine (HS.out _ _ _ _ (s3.below k4) s4 L1).mono ?_
  rintro e w5 ⟨rfl, k5⟩
  have b5 : Below w.heap.size w w5 := b4.trans (k5.mono b4.size)
  go_wp2_with fail
  refine (C5.out _ b5).mono ?_
  rintro e w6 ⟨v6, rfl, s6, k6⟩
  have b6 : Below w.heap.size w w6 := b5.trans (k6.mono b5.size)
  go_wp2_with fail
  refine (C6.out _ b6).mono ?_
  rintro e w7 ⟨v7, rfl, s7, k7⟩
  have b7 : Below w.heap.size w w7 := b6.trans (k7.mono b6.size)
  go_wp2_with fail
  refine (HS.out _ _ _ _ (s6.below k7) s7 L2).mono ?_
  rintro e w8 ⟨rfl, k8⟩
  have b8 : Below w.heap.size w w8 := b7.trans (k8.mono b7.size)
  go_wp2_with fail
  refine (CA.out _).mono ?_
  rintro e w9 ⟨v9, rfl, s9, k9⟩
  have b9 : Below w.heap.size w w9 := b8.trans (k9.mono b8.size)
  go_wp2_with fail
  refine (CB.out _).mono ?_
  rintro e wa ⟨va, rfl, sa, ka⟩
  have ba : Below w.heap.size w wa := b9.trans (ka.mono b9.size)
  go_wp2_with fail
  refine (HS.out _ _ _ _ (s9.below ka) sa L3).mono ?_
  rintro e wb ⟨rfl, kb⟩
  have bb : Below w.heap.size w wb := ba.trans (kb.mono ba.size)
  go_wp2_with fail
  refine (C7.out _ bb).mono ?_
  rintro e wc ⟨rfl, kc⟩
  have bc : Below w.heap.size w wc := bb.trans (kc.mono bb.size)
  go_wp2_with fail
  go_ret
  exact ⟨rfl, bc⟩

set_option maxRecDepth 100000 in
theorem lifted (os : Os) (started : os.Started) (H : Type) (enc : TypeId × Value → H) :
    ReturnsInHanded {} Tryd.checked os 3 .any (fun w args => (Rows.ranksMakesSpec.pre enc Tryd.prog Tryd.f3 [] false w args ∧ laidMetH Tryd.prog laidV w) ∧ sizedMet enc Tryd.prog Tryd.f3 (OpenSpec.ofChange Rows.ranksMakesSpec) false w args)
      (Rows.ranksMakesSpec.post enc Tryd.prog Tryd.f3 false true false false) := by
  refine returnsInHanded_of_change_and (C := Tryd.checked) (X := fun w _ => laidMetH Tryd.prog laidV w) (fun _ _ _ hh h => h.of_heap hh) ownK started (by kernel_rfl) Tryd.func3
    (ChangeSpec.witness_shaped (enc := enc) (C := Tryd.checked) (os := os) (X := fun w _ => laidMetH Tryd.prog laidV w) false (World.doorLaid Tryd.prog 400 os) #[.int .i64 0, .slice none 0 0, .slice none 0 0, .slice none 0 0] 8 rfl (World.shaped_of_RefB (by kernel_rfl) (by kernel_rfl)) (by kernel_rfl) (by kernel_rfl) (by kernel_rfl) (door_met os _)) ?_
  intro W base args ds gs before hval0 hW _ hsz0 hL _
  have hval : ∀ (j : Nat) t v, Tryd.f3.params[j]? = some t → args[j]? = some v → Value.okWide Tryd.prog W .any base t v := hval0
  have hsz : (DataW.weightsEach Tryd.prog (Tryd.f3.params.toList ++ Rows.ranksMakesSpec.plain.varTypes Tryd.prog) (ds ++ gs)).all (· ≤ reachBytes) = true := hsz0
  have hW' := hW
  obtain ⟨p, q, hA0, hV, rfl, hfz, hnd⟩ := hW
  have hA : DataW.TrodAll enc Tryd.prog W 0 (fun _ => true) true Tryd.f3.params.toList args.toList ds p := hA0
  rw [Tryd.params3] at hA hval hsz
  obtain ⟨v0, vs0, d0, ds0, p0, q0, hargs, rfl, rfl, h0, r0⟩ := trodAll_cons hA
  obtain ⟨v1, vs1, d1, ds1, p1, q1, rfl, rfl, rfl, h1, r1⟩ := trodAll_cons r0
  obtain ⟨v2, vs2, d2, ds2, p2, q2, rfl, rfl, rfl, h2, r2⟩ := trodAll_cons r1
  obtain ⟨v3, vs3, d3, ds3, p3, q3, rfl, rfl, rfl, h3, r3⟩ := trodAll_cons r2
  obtain ⟨rfl, rfl, rfl⟩ := trodAll_nil r3
  obtain rfl : args = #[v0, v1, v2, v3] := by cases args; simp_all
  obtain ⟨rfl, rfl⟩ := trodVars_none hV
  obtain ⟨a0, rfl, rfl, rfl, w0⟩ := open_int Tryd.underlying3 (hval 0 3 v0 rfl rfl) h0
  have k1 := h1
  have lt1 : ∀ x ∈ p1, x.block < W.heap.size := by obtain ⟨m, hm⟩ := k1; exact DataW.trod_lt m _ _ _ hm
  obtain ⟨b1, l1, c1, rfl⟩ := okWide_slice Tryd.underlying22 (hval 1 22 v1 rfl rfl)
  obtain ⟨m1, hm1⟩ := h1
  obtain ⟨a1, n1, e1, s1, hv1, hl1, hS1, hz1⟩ := open_spans (hm1 : DataW.trod enc Tryd.prog W 0 _ true m1 22 [.slice b1 l1 c1] = some (d1, p1))
  cases hv1
  have hb1 := row_len hsz (j := 1) (t := 22) (e := 45) rfl rfl Tryd.underlying22 (by rw [bytes45]; decide) hz1
  have k2 := h2
  have lt2 : ∀ x ∈ p2, x.block < W.heap.size := by obtain ⟨m, hm⟩ := k2; exact DataW.trod_lt m _ _ _ hm
  obtain ⟨b2, l2, c2, rfl⟩ := okWide_slice Tryd.underlying23 (hval 2 23 v2 rfl rfl)
  obtain ⟨m2, hm2⟩ := h2
  obtain ⟨a2, n2, e2, s2, hv2, hl2, hS2, hz2⟩ := open_nums (hm2 : DataW.trod enc Tryd.prog W 0 _ true m2 23 [.slice b2 l2 c2] = some (d2, p2))
  cases hv2
  have hb2 := row_len hsz (j := 2) (t := 23) (e := 3) rfl rfl Tryd.underlying23 (by rw [bytes3]; decide) hz2
  have k3 := h3
  have lt3 : ∀ x ∈ p3, x.block < W.heap.size := by obtain ⟨m, hm⟩ := k3; exact DataW.trod_lt m _ _ _ hm
  obtain ⟨b3, l3, c3, rfl⟩ := okWide_slice Tryd.underlying24 (hval 3 24 v3 rfl rfl)
  obtain ⟨m3, hm3⟩ := h3
  obtain ⟨a3, n3, e3, s3, hv3, hl3, hS3, hz3⟩ := open_truths (hm3 : DataW.trod enc Tryd.prog W 0 _ true m3 24 [.slice b3 l3 c3] = some (d3, p3))
  cases hv3
  have hb3 := row_len hsz (j := 3) (t := 24) (e := 4) rfl rfl Tryd.underlying24 (by rw [bytes4]; decide) hz3
  have hk := of_laid hL
  clear hA0 hval0 hsz0 hsz
  refine (walk a0 _ s1 _ s2 _ s3 W hS1 (by rw [hl1]; exact hb1) hS2 (by rw [hl2]; exact hb2) hS3 (by rw [hl3]; exact hb3) hk).mono fun e W' ⟨he, bel⟩ => ?_
  subst he
  exact ⟨_, rfl, _, _, _, [], _, [], hW', trodAll_mk1 (shut_bool Tryd.underlying4 _), (trodAll_cons_mk (shut_int Tryd.underlying3 w0) (trodAll_cons_mk (Below.trod laidOut (by kernel_rfl) (of_decide_eq_true (by kernel_rfl)) k1 bel lt1) (trodAll_cons_mk (Below.trod laidOut (by kernel_rfl) (of_decide_eq_true (by kernel_rfl)) k2 bel lt2) (trodAll_cons_mk (Below.trod laidOut (by kernel_rfl) (of_decide_eq_true (by kernel_rfl)) k3 bel lt3) trodAll_mk0)))), rfl, bel.frame _, fun h => by cases h⟩

theorem over : Rows.ranksMakesRow.holds Tryd.pinned (OpenSpec.ofChange Rows.ranksMakesSpec) :=
  OpenClaim.holds_of_wide 3 Tryd.f3 rfl rfl rfl rfl rfl rfl rfl ⟨rfl, rfl, rfl, rfl, rfl⟩ rfl rfl rfl rfl rfl (by kernel_rfl) Tryd.func3 (by kernel_rfl)
    (of_decide_eq_true (by kernel_rfl)) (by unfold Func.isWrapper; first | (rw [if_pos (by decide +kernel)]; kernel_rfl) | (rw [if_neg (by decide +kernel)]; exact ⟨rfl, rfl⟩))
    (fun os started H enc _ => lifted os started H enc)

theorem card : Claim7.holds Tryd.pinned (.plain (OpenSpec.ofChange Rows.ranksMakesSpec)) Rows.ranksMakesCard :=
  Claim7.holds_tied_plain_at .later [] [.data, .data, .data] true (true, "7538bfbc963d9866992706910c0bf13ef14b8610dd84b3703efe6427513f24f8") false
    over (fun _ h => by cases h) (by kernel_rfl) (fun _ h => by cases h) ranksMakes_row_tie rfl ⟨rfl, rfl⟩ (by kernel_rfl) rfl
    (fun f fn hf hfn => by
      obtain rfl : f = 3 := Option.some.inj ((show Tryd.prog.funcNamed "dovetail/dovetaillaw07.RanksMakes" = some 3 by kernel_rfl).symm.trans hf) |>.symm
      obtain rfl : fn = Tryd.f3 := (Option.some.inj (Tryd.func3.symm.trans hfn)).symm
      exact ⟨by kernel_rfl, fun j t ht => by
        rw [Tryd.params3] at ht
        have hm : t ∈ [3, 22, 23, 24] := by simpa using Array.mem_of_getElem? ht
        have hall : ([3, 22, 23, 24].all fun u => !Tryd.prog.wantsStandIn u) = true := by kernel_rfl
        exact (show Tryd.prog.wantsStandIn t = false by simpa using List.all_eq_true.1 hall t hm)⟩)
    (by kernel_rfl)
end RanksMakesP

theorem ranksMakes_holds : Rows.RanksMakesCardSaid := RanksMakesP.card
#print axioms ranksMakes_holds

end Go.Proofs.YtmpegkcleajhhaaDoor
