/-
  Proved: for any three texts, Compare is an order: turned round it is turned, a text is alike with itself, it is transitive, and what is alike is alike with all; and chapter 6's examples hold: MavenTrue returns true and leaves its arguments as they were. The variable dovetail/maven.known starts as the program's text lays it (the card ties it); no condition but that and the form's own reach (each string takes at most 2^47 - 4096 bytes).
-/
import Derived.Test.YtobcoppbphfcaaaDoorCa
import Derived.Test.YtobcoppbphfcaaaDoorLq
import Derived.Test.YtobcoppbphfcaaaDoorCards
import Derived.SevenTiedAt
namespace Go.Proofs.YtobcoppbphfcaaaDoor
namespace MavenTrueP
open Go.ChangeShapes Go.WideShapes Go.ChangeAt Go.RowKit Go.Shelf
open Go.ChangeMaps (open_string shut_string)
set_option linter.unusedVariables false

set_option maxRecDepth 100000 in
set_option maxHeartbeats 8000000 in
theorem walk (a b c : ByteArray) (w : World) (hk : Kn w) :
    Calls Tryd.prog 5 #[.string a, .string b, .string c] w fun e w' => e = .returned (.bool true) ∧ Below w.heap.size w w' := by
  obtain ⟨x, y, z, h1, h2, h3, h4, rx, ry, rz, t1, t2, t3⟩ := three_of cmpT_cmp3 a.data.toList b.data.toList c.data.toList
  have h5 := cmpT_cmp3.self a.data.toList
  have C1 := hide (show ∀ w, Kn w → Calls Tryd.prog 22 #[.string a, .string b] w fun e w' => e = .returned (.int .i64 x) ∧ Below w.heap.size w w' from fun w h => by rw [← h1]; exact CompareT_any a b w h)
  have C2 := hide (show ∀ w, Kn w → Calls Tryd.prog 22 #[.string b, .string c] w fun e w' => e = .returned (.int .i64 y) ∧ Below w.heap.size w w' from fun w h => by rw [← h2]; exact CompareT_any b c w h)
  have C3 := hide (show ∀ w, Kn w → Calls Tryd.prog 22 #[.string a, .string c] w fun e w' => e = .returned (.int .i64 z) ∧ Below w.heap.size w w' from fun w h => by rw [← h3]; exact CompareT_any a c w h)
  have C4 := hide (show ∀ w, Kn w → Calls Tryd.prog 22 #[.string b, .string a] w fun e w' => e = .returned (.int .i64 (-x)) ∧ Below w.heap.size w w' from fun w h => by rw [← h4]; exact CompareT_any b a w h)
  have C5 := hide (show ∀ w, Kn w → Calls Tryd.prog 22 #[.string a, .string a] w fun e w' => e = .returned (.int .i64 0) ∧ Below w.heap.size w w' from fun w h => by rw [← h5]; exact CompareT_any a a w h)
  have K0 := hide hk
  clear h1 h2 h3 h4 h5 hk
  rcases rx with rfl | rfl | rfl <;> rcases ry with rfl | rfl | rfl <;> rcases rz with rfl | rfl | rfl
  all_goals first
    | (exfalso; omega)
    | (clear t1 t2 t3
       go_enter Tryd.func5, Tryd.ntmps5
       go_wp2_with fail
       refine (C1.out _ K0.out).mono ?_
       rintro e w1 ⟨rfl, b1⟩
       have K1 := hide (K0.out.below K0.out.pos b1)
       go_wp2_with fail
       refine (C2.out _ K1.out).mono ?_
       rintro e w2 ⟨rfl, b2⟩
       have K2 := hide (K1.out.below K1.out.pos b2)
       have b2 := b1.trans (b2.mono b1.size)
       go_wp2_with fail
       refine (C3.out _ K2.out).mono ?_
       rintro e w3 ⟨rfl, b3⟩
       have K3 := hide (K2.out.below K2.out.pos b3)
       have b3 := b2.trans (b3.mono b2.size)
       go_wp2_with fail
       refine (C4.out _ K3.out).mono ?_
       rintro e w4 ⟨rfl, b4⟩
       have K4 := hide (K3.out.below K3.out.pos b4)
       have b4 := b3.trans (b4.mono b3.size)
       go_wp2_with fail
       refine (C5.out _ K4.out).mono ?_
       rintro e w5 ⟨rfl, b5⟩
       have K5 := hide (K4.out.below K4.out.pos b5)
       have b5 := b4.trans (b5.mono b4.size)
       go_wp2_with fail
       refine (awake_any _ K5.out).mono ?_
       rintro e w6 ⟨rfl, b6⟩
       have b6 := b5.trans (b6.mono b5.size)
       go_wp2_with fail
       go_ret
       exact ⟨rfl, b6⟩)

set_option maxRecDepth 100000 in
theorem lifted (os : Os) (started : os.Started) (H : Type) (enc : TypeId × Value → H) :
    ReturnsInHanded {} Tryd.checked os 5 .any (fun w args => (Rows.mavenTrueSpec.pre enc Tryd.prog Tryd.f5 [] false w args ∧ laidMetH Tryd.prog [("dovetail/maven.known", Rows.laid_dovetail_maven_known)] w) ∧ sizedMet enc Tryd.prog Tryd.f5 (OpenSpec.ofChange Rows.mavenTrueSpec) false w args)
      (Rows.mavenTrueSpec.post enc Tryd.prog Tryd.f5 false true false false) := by
  refine returnsInHanded_of_change_and (C := Tryd.checked) (X := fun w _ => laidMetH Tryd.prog [("dovetail/maven.known", Rows.laid_dovetail_maven_known)] w) (fun _ _ _ hh h => h.of_heap hh) ownK started (by kernel_rfl) Tryd.func5
    (ChangeSpec.witness_shaped (enc := enc) (C := Tryd.checked) (os := os) (X := fun w _ => laidMetH Tryd.prog [("dovetail/maven.known", Rows.laid_dovetail_maven_known)] w) false (World.doorLaid Tryd.prog 400 os) #[.string ByteArray.empty, .string ByteArray.empty, .string ByteArray.empty] 8 rfl (World.shaped_of_RefB (by kernel_rfl) (by kernel_rfl)) (by kernel_rfl) (by kernel_rfl) (by kernel_rfl) (door_met os _)) ?_
  intro W base args ds gs before hval0 hW _ hsz0 hL _
  have hval : ∀ (j : Nat) t v, Tryd.f5.params[j]? = some t → args[j]? = some v → Value.okWide Tryd.prog W .any base t v := hval0
  have hsz : (DataW.weightsEach Tryd.prog (Tryd.f5.params.toList ++ Rows.mavenTrueSpec.plain.varTypes Tryd.prog) (ds ++ gs)).all (· ≤ reachBytes) = true := hsz0
  have hW' := hW
  obtain ⟨p, q, hA0, hV, rfl, hfz, hnd⟩ := hW
  have hA : DataW.TrodAll enc Tryd.prog W 0 (fun _ => true) true Tryd.f5.params.toList args.toList ds p := hA0
  rw [Tryd.params5] at hA hval hsz
  obtain ⟨v0, vs0, d0, ds0, p0, q0, hargs, rfl, rfl, h0, r0⟩ := trodAll_cons hA
  obtain ⟨v1, vs1, d1, ds1, p1, q1, rfl, rfl, rfl, h1, r1⟩ := trodAll_cons r0
  obtain ⟨v2, vs2, d2, ds2, p2, q2, rfl, rfl, rfl, h2, r2⟩ := trodAll_cons r1
  obtain ⟨rfl, rfl, rfl⟩ := trodAll_nil r2
  obtain rfl : args = #[v0, v1, v2] := by cases args; simp_all
  obtain ⟨rfl, rfl⟩ := trodVars_none hV
  obtain ⟨a0, rfl, rfl, rfl, w0⟩ := open_string Tryd.underlying9 (hval 0 9 v0 rfl rfl) h0
  have s0 : a0.data.toList.length ≤ reachBytes := sized_string hsz (j := 0) (t := 9) rfl rfl
  rw [len_data] at s0
  have s0 : a0.size ≤ 140737488351232 := s0
  obtain ⟨a1, rfl, rfl, rfl, w1⟩ := open_string Tryd.underlying9 (hval 1 9 v1 rfl rfl) h1
  have s1 : a1.data.toList.length ≤ reachBytes := sized_string hsz (j := 1) (t := 9) rfl rfl
  rw [len_data] at s1
  have s1 : a1.size ≤ 140737488351232 := s1
  obtain ⟨a2, rfl, rfl, rfl, w2⟩ := open_string Tryd.underlying9 (hval 2 9 v2 rfl rfl) h2
  have s2 : a2.data.toList.length ≤ reachBytes := sized_string hsz (j := 2) (t := 9) rfl rfl
  rw [len_data] at s2
  have s2 : a2.size ≤ 140737488351232 := s2
  have hk := of_laid hL
  clear hA0 hval0 hsz0 hsz
  refine (walk a0 a1 a2 W hk).mono fun e W' ⟨he, bel⟩ => ?_
  subst he
  exact ⟨_, rfl, _, _, _, [], _, [], hW', trodAll_mk1 (shut_bool Tryd.underlying4 _), (trodAll_cons_mk (shut_string Tryd.underlying9 w0) (trodAll_cons_mk (shut_string Tryd.underlying9 w1) (trodAll_cons_mk (shut_string Tryd.underlying9 w2) trodAll_mk0))), rfl, bel.frame _, fun h => by cases h⟩

theorem over : Rows.mavenTrueRow.holds Tryd.pinned (OpenSpec.ofChange Rows.mavenTrueSpec) :=
  OpenClaim.holds_of_wide 5 Tryd.f5 rfl rfl rfl rfl rfl rfl rfl ⟨rfl, rfl, rfl, rfl, rfl⟩ rfl rfl rfl rfl rfl (by kernel_rfl) Tryd.func5 (by kernel_rfl)
    (of_decide_eq_true (by kernel_rfl)) (by unfold Func.isWrapper; first | (rw [if_pos (by decide +kernel)]; kernel_rfl) | (rw [if_neg (by decide +kernel)]; exact ⟨rfl, rfl⟩))
    (fun os started H enc _ => lifted os started H enc)

theorem card : Claim7.holds Tryd.pinned (.plain (OpenSpec.ofChange Rows.mavenTrueSpec)) Rows.mavenTrueCard :=
  Claim7.holds_tied_plain_at .later [] [.data] true (true, "adf3a93007c9289153c9479c6fe9e7fbe64b72e51a43852ac870b6ca0d30064d") false
    over (fun _ h => by cases h) (by kernel_rfl) (fun _ h => by cases h) mavenTrue_row_tie rfl ⟨rfl, rfl⟩ (by kernel_rfl) rfl
    (fun f fn hf hfn => by
      obtain rfl : f = 5 := Option.some.inj ((show Tryd.prog.funcNamed "dovetail/dovetaillaw06.MavenTrue" = some 5 by kernel_rfl).symm.trans hf) |>.symm
      obtain rfl : fn = Tryd.f5 := (Option.some.inj (Tryd.func5.symm.trans hfn)).symm
      exact ⟨by kernel_rfl, fun j t ht => by
        rw [Tryd.params5] at ht
        have hm : t ∈ [9, 9, 9] := by simpa using Array.mem_of_getElem? ht
        have hall : ([9, 9, 9].all fun u => !Tryd.prog.wantsStandIn u) = true := by kernel_rfl
        exact (show Tryd.prog.wantsStandIn t = false by simpa using List.all_eq_true.1 hall t hm)⟩)
    (by kernel_rfl)
end MavenTrueP

theorem mavenTrue_holds : Rows.MavenTrueCardSaid := MavenTrueP.card
#print axioms mavenTrue_holds
end Go.Proofs.YtobcoppbphfcaaaDoor
