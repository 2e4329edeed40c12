/-
  Proved: for any two texts, Parse answers as the document says of the first, and Segments and Compare as it says of both; and chapter 5's examples hold: RpmReads returns true and leaves its arguments as they were. No condition but the form's own reach (each string takes at most 2^47 - 4096 bytes).
-/
import Derived.Test.YtmcabgjcppnihaaDz
import Derived.Test.YtmcabgjcppnihaaGa
namespace Go.Proofs.Ytmcabgjcppnihaa
namespace RpmReadsP
open Go.ChangeShapes Go.WideShapes Go.ChangeAt Go.RowKit
open Go.ChangeMaps (open_string shut_string)
set_option linter.unusedVariables false

theorem own : ownKnob Try.prog.godebug = none := by kernel_rfl

set_option maxRecDepth 100000 in
set_option maxHeartbeats 2000000 in
theorem walk_ok (s t : ByteArray) (w : World) (hs : s.size ≤ 140737488351232) (ht : t.size ≤ 140737488351232) (x : RpmL) (hp : parseL s.data.toList = .ok x) :
    Calls Try.prog 3 #[.string s, .string t] w fun e w' => e = .returned (.bool true) ∧ Below w.heap.size w w' := by
  have P1 := fun w => Parse_any s w
  have P2 := fun w => RParse_any s w
  rw [pres_ok hp] at P1 P2
  have S1 := fun w => Segments_any s t w (by omega) (by omega)
  have S2 := fun w => RSegments_any s t w (by omega) (by omega)
  have C1 := fun w => CompareT_any s t w
  have C2 := fun w => RCompare_any s t w
  generalize partO s.data.toList t.data.toList = po at *
  generalize cmpT s.data.toList t.data.toList = ct at *
  have P1 := hide P1
  have P2 := hide P2
  have S1 := hide S1
  have S2 := hide S2
  have C1 := hide C1
  have C2 := hide C2
  have q1 : (po == po) = true := by simp
  have q2 : (ct == ct) = true := by simp
  have ea : ((ofL x.ep).toList == (ofL x.ep).toList) = true := by simp
  have eb : ((ofL x.ver).toList == (ofL x.ver).toList) = true := by simp
  have ec : ((ofL x.rel).toList == (ofL x.rel).toList) = true := by simp
  have ed : (x.has == x.has) = true := by simp
  clear hp
  go_enter Try.func3, Try.ntmps3
  go_wp2_with fail
  refine (P1.out _).mono ?_
  rintro e w1 ⟨rfl, b1⟩
  go_wp2_with fail
  refine (P2.out _).mono ?_
  rintro e w2 ⟨rfl, b2⟩
  obtain ⟨eA, eF⟩ := lies23 b2
  have B2 := step2 b1 b2
  have l1 := (Array.getElem?_eq_some_iff.1 eA).1
  have l2 := (Array.getElem?_eq_some_iff.1 eF).1
  have l3 : w1.heap.size < w2.heap.size + 1 := by omega
  have l4 : w1.heap.size + 1 < w2.heap.size + 1 := by omega
  have a0 := cell_at 0 eA rfl
  have a1 := cell_at 1 eA rfl
  have a2 := cell_at 2 eA rfl
  have a3 := cell_at 3 eA rfl
  have f0 := cell_at 0 eF rfl
  have f1 := cell_at 1 eF rfl
  have B3 := step0 B2 (.cells #[.string (ofL x.ep), .string (ofL x.ver), .string (ofL x.rel), .bool x.has] 23) (.cells #[.int .i64 0, .int .i64 0] 26)
  have B3 := hide B3
  clear b1 b2 B2
  go_wp2_with fail
  refine (S1.out _).mono ?_
  rintro e w4 ⟨rfl, b4⟩
  have b4 := step1 B3.out b4
  go_wp2_with fail
  refine (S2.out _).mono ?_
  rintro e w5 ⟨rfl, b5⟩
  have b5 := step1 b4 b5
  go_wp2_with fail
  refine (C1.out _).mono ?_
  rintro e w6 ⟨rfl, b6⟩
  have b6 := step1 b5 b6
  go_wp2_with fail
  refine (C2.out _).mono ?_
  rintro e w7 ⟨rfl, b7⟩
  have b7 := step1 b6 b7
  go_wp2_with fail
  refine (awake_any _).mono ?_
  rintro e w8 ⟨rfl, b8⟩
  have b8 := step1 b7 b8
  go_wp2_with fail
  go_ret
  exact ⟨rfl, b8⟩

set_option maxRecDepth 100000 in
set_option maxHeartbeats 2000000 in
theorem walk_er (s t : ByteArray) (w : World) (hs : s.size ≤ 140737488351232) (ht : t.size ≤ 140737488351232) (x : Int × Nat) (hp : parseL s.data.toList = .error x) :
    Calls Try.prog 3 #[.string s, .string t] w fun e w' => e = .returned (.bool true) ∧ Below w.heap.size w w' := by
  have P1 := fun w => Parse_any s w
  have P2 := fun w => RParse_any s w
  rw [pres_err hp] at P1 P2
  have S1 := fun w => Segments_any s t w (by omega) (by omega)
  have S2 := fun w => RSegments_any s t w (by omega) (by omega)
  have C1 := fun w => CompareT_any s t w
  have C2 := fun w => RCompare_any s t w
  generalize partO s.data.toList t.data.toList = po at *
  generalize cmpT s.data.toList t.data.toList = ct at *
  have P1 := hide P1
  have P2 := hide P2
  have S1 := hide S1
  have S2 := hide S2
  have C1 := hide C1
  have C2 := hide C2
  have q1 : (po == po) = true := by simp
  have q2 : (ct == ct) = true := by simp
  have ea : (x.1 == x.1) = true := by simp
  have eb : ((x.2 : Int) == (x.2 : Int)) = true := by simp
  clear hp
  go_enter Try.func3, Try.ntmps3
  go_wp2_with fail
  refine (P1.out _).mono ?_
  rintro e w1 ⟨rfl, b1⟩
  go_wp2_with fail
  refine (P2.out _).mono ?_
  rintro e w2 ⟨rfl, b2⟩
  obtain ⟨eA, eF⟩ := lies23 b2
  have B2 := step2 b1 b2
  have l1 := (Array.getElem?_eq_some_iff.1 eA).1
  have l2 := (Array.getElem?_eq_some_iff.1 eF).1
  have l3 : w1.heap.size < w2.heap.size + 1 := by omega
  have l4 : w1.heap.size + 1 < w2.heap.size + 1 := by omega
  have a0 := cell_at 0 eA rfl
  have a1 := cell_at 1 eA rfl
  have a2 := cell_at 2 eA rfl
  have a3 := cell_at 3 eA rfl
  have f0 := cell_at 0 eF rfl
  have f1 := cell_at 1 eF rfl
  have B3 := step0 B2 (.cells #[.string ⟨#[]⟩, .string ⟨#[]⟩, .string ⟨#[]⟩, .bool false] 23) (.cells #[.int .i64 x.1, .int .i64 (x.2 : Int)] 26)
  have B3 := hide B3
  clear b1 b2 B2
  go_wp2_with fail
  refine (S1.out _).mono ?_
  rintro e w4 ⟨rfl, b4⟩
  have b4 := step1 B3.out b4
  go_wp2_with fail
  refine (S2.out _).mono ?_
  rintro e w5 ⟨rfl, b5⟩
  have b5 := step1 b4 b5
  go_wp2_with fail
  refine (C1.out _).mono ?_
  rintro e w6 ⟨rfl, b6⟩
  have b6 := step1 b5 b6
  go_wp2_with fail
  refine (C2.out _).mono ?_
  rintro e w7 ⟨rfl, b7⟩
  have b7 := step1 b6 b7
  go_wp2_with fail
  refine (awake_any _).mono ?_
  rintro e w8 ⟨rfl, b8⟩
  have b8 := step1 b7 b8
  go_wp2_with fail
  go_ret
  exact ⟨rfl, b8⟩

theorem walk (s t : ByteArray) (w : World) (hs : s.size ≤ 140737488351232) (ht : t.size ≤ 140737488351232) :
    Calls Try.prog 3 #[.string s, .string t] w fun e w' => e = .returned (.bool true) ∧ Below w.heap.size w w' := by
  cases hp : parseL s.data.toList with
  | error x => exact walk_er s t w hs ht x hp
  | ok x => exact walk_ok s t w hs ht x hp

set_option maxRecDepth 100000 in
theorem lifted (os : Os) (started : os.Started) (H : Type) (enc : TypeId × Value → H) :
    ReturnsInHanded {} Try.checked os 3 .any (Rows.rpmReadsSpec.pre6 enc Try.prog Try.f3 Rows.rpmReadsRow.domain false) (Rows.rpmReadsSpec.post enc Try.prog Try.f3 false true false false) := by
  refine returnsInHanded_of_change_sized (C := Try.checked) own started (by kernel_rfl) Try.func3
    (ChangeSpec.witness6 (enc := enc) (C := Try.checked) false ⟨#[], #[.string ByteArray.empty, .string ByteArray.empty], []⟩ 8 (by kernel_rfl) (by kernel_rfl) (by kernel_rfl) (by kernel_rfl)) ?_
  intro W base args ds gs before hval0 hW hcnd hsz0 _
  have hval : ∀ (j : Nat) t v, Try.f3.params[j]? = some t → args[j]? = some v → Value.okWide Try.prog W .any base t v := hval0
  have hsz : (DataW.weightsEach Try.prog (Try.f3.params.toList ++ Rows.rpmReadsSpec.plain.varTypes Try.prog) (ds ++ gs)).all (· ≤ reachBytes) = true := hsz0
  have hW' := hW
  obtain ⟨p, q, hA0, hV, rfl, hfz, hnd⟩ := hW
  have hA : DataW.TrodAll enc Try.prog W 0 (fun _ => true) true Try.f3.params.toList args.toList ds p := hA0
  rw [Try.params3] at hA hval hsz
  obtain ⟨v0, vs0, d0, ds0, p0, q0, hargs, rfl, rfl, h0, r0⟩ := trodAll_cons hA
  obtain ⟨v1, vs1, d1, ds1, p1, q1, rfl, rfl, rfl, h1, r1⟩ := trodAll_cons r0
  obtain ⟨rfl, rfl, rfl⟩ := trodAll_nil r1
  obtain rfl : args = #[v0, v1] := by cases args; simp_all
  obtain ⟨rfl, rfl⟩ := trodVars_none hV
  obtain ⟨a0, rfl, rfl, rfl, w0⟩ := open_string Try.underlying9 (hval 0 9 v0 rfl rfl) h0
  have s0 : a0.data.toList.length ≤ reachBytes := sized_string hsz (j := 0) (t := 9) rfl rfl
  rw [len_data] at s0
  have s0 : a0.size ≤ 140737488351232 := s0
  obtain ⟨a1, rfl, rfl, rfl, w1⟩ := open_string Try.underlying9 (hval 1 9 v1 rfl rfl) h1
  have s1 : a1.data.toList.length ≤ reachBytes := sized_string hsz (j := 1) (t := 9) rfl rfl
  rw [len_data] at s1
  have s1 : a1.size ≤ 140737488351232 := s1
  clear hA0 hval0 hsz0 hsz
  refine (walk a0 a1 W s0 s1).mono fun e W' ⟨he, bel⟩ => ?_
  subst he
  exact ⟨_, rfl, _, _, _, [], _, [], hW', trodAll_mk1 (shut_bool Try.underlying4 _), (trodAll_cons_mk (shut_string Try.underlying9 w0) (trodAll_cons_mk (shut_string Try.underlying9 w1) trodAll_mk0)), rfl, bel.frame _, fun h => by cases h⟩

theorem over : Rows.rpmReadsRow.holds Try.pinned (OpenSpec.ofChange Rows.rpmReadsSpec) :=
  OpenClaim.holds_of_wide 3 Try.f3 rfl rfl rfl rfl rfl rfl rfl ⟨rfl, rfl, rfl, rfl, rfl⟩ rfl rfl rfl rfl rfl (by kernel_rfl) Try.func3 (by kernel_rfl)
    (of_decide_eq_true (by kernel_rfl)) (by unfold Func.isWrapper; first | (rw [if_pos (by decide +kernel)]; kernel_rfl) | (rw [if_neg (by decide +kernel)]; exact ⟨rfl, rfl⟩))
    (fun os started H enc _ => lifted os started H enc)
end RpmReadsP

theorem rpmReads_holds : Rows.RpmReadsSaid := RpmReadsP.over
#print axioms rpmReads_holds
end Go.Proofs.Ytmcabgjcppnihaa
