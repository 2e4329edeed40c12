/-
  Proved: for any two texts, behind a text that is a row of segments a tilde makes it less, a caret greater, and less than with one more part; and chapter 5's examples hold: RpmSigns returns true and leaves its arguments as they were. No condition but the form's own reach (each string takes at most 2^47 - 4096 bytes).
-/
import Derived.Test.YtmcabgjcppnihaaDxf
import Derived.Test.YtmcabgjcppnihaaGa
namespace Go.Proofs.Ytmcabgjcppnihaa
namespace RpmSignsP
open Go.ChangeShapes Go.WideShapes Go.ChangeAt Go.RowKit
open Go.ChangeMaps (open_string shut_string)
set_option linter.unusedVariables false

theorem own : ownKnob Try.prog.godebug = none := by kernel_rfl

/-- A version of segments alone. -/
def v0 (l : List UInt8) : RpmL := ⟨[48], l, [], false⟩
theorem rfit0 (s : ByteArray) (w : World) (hs : s.size ≤ 140737488351232) :
    Calls Try.prog 16 #[.agg #[.string ⟨#[48]⟩, .string s, .string ⟨#[]⟩, .bool false]] w fun e w' => e = .returned (.bool (fitB (v0 s.data.toList))) ∧ Below w.heap.size w w' := by
  have := RFit_any (v0 s.data.toList) w ⟨by simp [v0], by rw [show (v0 s.data.toList).ver = s.data.toList from rfl, len_data]; exact hs, by simp [v0]⟩
  have e : verV (v0 s.data.toList) = .agg #[.string ⟨#[48]⟩, .string s, .string ⟨#[]⟩, .bool false] := by unfold verV v0; dsimp only; rw [ofL_self]; rfl
  rwa [e] at this

theorem seg_of (a b : ByteArray) (x : Int) (h : partO a.data.toList b.data.toList = x) (ha : a.size ≤ 9223372036854775000) (hb : b.size ≤ 9223372036854775000) (w : World) :
    Calls Try.prog 10 #[.string a, .string b] w fun e w' => e = .returned (.int .i64 x) ∧ Below w.heap.size w w' := by
  subst h
  exact Segments_any a b w ha hb

set_option maxRecDepth 100000 in
set_option maxHeartbeats 2000000 in
theorem walk_a (s m : ByteArray) (w : World) (hs : s.size ≤ 140737488351232) (hm : m.size ≤ 140737488351232) (h1 : fitB (v0 s.data.toList) = false) :
    Calls Try.prog 7 #[.string s, .string m] w fun e w' => e = .returned (.bool true) ∧ Below w.heap.size w w' := by
  have F1 := fun w => rfit0 s w hs
  have F2 := fun w => rfit0 m w hm
  rw [h1] at F1
  clear h1
  have F1 := hide F1
  have F2 := hide F2
  go_enter Try.func7, Try.ntmps7
  go_wp2_with fail
  refine (F1.out _).mono ?_
  rintro e w1 ⟨rfl, b1⟩
  go_wp2_with fail
  refine (awake_any _).mono ?_
  rintro e w2 ⟨rfl, b2⟩
  have b2 := step1 b1 b2
  go_wp2_with fail
  go_ret
  exact ⟨rfl, b2⟩

set_option maxRecDepth 100000 in
set_option maxHeartbeats 2000000 in
theorem walk_b (s m : ByteArray) (w : World) (hs : s.size ≤ 140737488351232) (hm : m.size ≤ 140737488351232) (h1 : fitB (v0 s.data.toList) = true) (h2 : (30 : Int) < (s.size : Int)) :
    Calls Try.prog 7 #[.string s, .string m] w fun e w' => e = .returned (.bool true) ∧ Below w.heap.size w w' := by
  have F1 := fun w => rfit0 s w hs
  have F2 := fun w => rfit0 m w hm
  rw [h1] at F1
  clear h1
  have F1 := hide F1
  have F2 := hide F2
  go_enter Try.func7, Try.ntmps7
  go_wp2_with fail
  refine (F1.out _).mono ?_
  rintro e w1 ⟨rfl, b1⟩
  go_wp2_with fail
  refine (awake_any _).mono ?_
  rintro e w2 ⟨rfl, b2⟩
  have b2 := step1 b1 b2
  go_wp2_with fail
  go_ret
  exact ⟨rfl, b2⟩

set_option maxRecDepth 100000 in
set_option maxHeartbeats 2000000 in
theorem walk_c (s m : ByteArray) (w : World) (hs : s.size ≤ 140737488351232) (hm : m.size ≤ 140737488351232) (h1 : fitB (v0 s.data.toList) = true) (h2 : ¬ (30 : Int) < (s.size : Int)) (h3 : (30 : Int) < (m.size : Int)) :
    Calls Try.prog 7 #[.string s, .string m] w fun e w' => e = .returned (.bool true) ∧ Below w.heap.size w w' := by
  have F1 := fun w => rfit0 s w hs
  have F2 := fun w => rfit0 m w hm
  rw [h1] at F1
  clear h1
  have F1 := hide F1
  have F2 := hide F2
  go_enter Try.func7, Try.ntmps7
  go_wp2_with fail
  refine (F1.out _).mono ?_
  rintro e w1 ⟨rfl, b1⟩
  go_wp2_with fail
  refine (awake_any _).mono ?_
  rintro e w2 ⟨rfl, b2⟩
  have b2 := step1 b1 b2
  go_wp2_with fail
  go_ret
  exact ⟨rfl, b2⟩

set_option maxRecDepth 100000 in
set_option maxHeartbeats 2000000 in
theorem walk_d (s m : ByteArray) (w : World) (hs : s.size ≤ 140737488351232) (hm : m.size ≤ 140737488351232) (h1 : fitB (v0 s.data.toList) = true) (h2 : ¬ (30 : Int) < (s.size : Int)) (h3 : ¬ (30 : Int) < (m.size : Int)) (h4 : (m.toList == []) = false) (h5 : fitB (v0 m.data.toList) = false) :
    Calls Try.prog 7 #[.string s, .string m] w fun e w' => e = .returned (.bool true) ∧ Below w.heap.size w w' := by
  have F1 := fun w => rfit0 s w hs
  have F2 := fun w => rfit0 m w hm
  rw [h1] at F1
  rw [h5] at F2
  clear h1 h5
  have F1 := hide F1
  have F2 := hide F2
  go_enter Try.func7, Try.ntmps7
  go_wp2_with fail
  refine (F1.out _).mono ?_
  rintro e w1 ⟨rfl, b1⟩
  go_wp2_with fail
  refine (F2.out _).mono ?_
  rintro e w2 ⟨rfl, b2⟩
  have b2 := step1 b1 b2
  go_wp2_with fail
  refine (awake_any _).mono ?_
  rintro e w3 ⟨rfl, b3⟩
  have b3 := step1 b2 b3
  go_wp2_with fail
  go_ret
  exact ⟨rfl, b3⟩

set_option maxRecDepth 100000 in
set_option maxHeartbeats 2000000 in
theorem walk_e (s m : ByteArray) (w : World) (hs : s.size ≤ 140737488351232) (hm : m.size ≤ 140737488351232) (h1 : fitB (v0 s.data.toList) = true) (h2 : ¬ (30 : Int) < (s.size : Int)) (h3 : ¬ (30 : Int) < (m.size : Int)) (h4 : (m.toList == []) = true) :
    Calls Try.prog 7 #[.string s, .string m] w fun e w' => e = .returned (.bool true) ∧ Below w.heap.size w w' := by
  have F1 := fun w => rfit0 s w hs
  have F2 := fun w => rfit0 m w hm
  rw [h1] at F1
  clear h1
  obtain ⟨t1, e1, z1, d1⟩ := cat_step s ⟨#[126]⟩
  obtain ⟨t2, e2, z2, d2⟩ := cat_step t1 m
  obtain ⟨t3, e3, z3, d3⟩ := cat_step s ⟨#[94]⟩
  obtain ⟨t4, e4, z4, d4⟩ := cat_step t3 m
  obtain ⟨t5, e5, z5, d5⟩ := cat_step s ⟨#[46, 49]⟩
  have y1 : (⟨#[126]⟩ : ByteArray).size = 1 := rfl
  have y3 : (⟨#[94]⟩ : ByteArray).size = 1 := rfl
  have y5 : (⟨#[46, 49]⟩ : ByteArray).size = 2 := rfl
  rw [y1] at z1
  rw [y3] at z3
  rw [y5] at z5
  clear y1 y3 y5
  have S1 := hide (seg_of t2 s (-1) (by rw [d2, d1]; simpa using sign_tilde s.data.toList m.data.toList) (by omega) (by omega))
  have S2 := hide (seg_of t4 s 1 (by rw [d4, d3]; simpa using sign_caret s.data.toList m.data.toList) (by omega) (by omega))
  have S3 := hide (seg_of t4 t5 (-1) (by rw [d4, d3, d5]; simpa using sign_more s.data.toList m.data.toList) (by omega) (by omega))
  clear d1 d2 d3 d4 d5
  have F1 := hide F1
  have F2 := hide F2
  go_enter Try.func7, Try.ntmps7
  go_wp2_with fail
  refine (F1.out _).mono ?_
  rintro e w1 ⟨rfl, b1⟩
  go_wp2_with fail
  refine (S1.out _).mono ?_
  rintro e w2 ⟨rfl, b2⟩
  have b2 := step1 b1 b2
  go_wp2_with fail
  refine (S2.out _).mono ?_
  rintro e w3 ⟨rfl, b3⟩
  have b3 := step1 b2 b3
  go_wp2_with fail
  refine (S3.out _).mono ?_
  rintro e w4 ⟨rfl, b4⟩
  have b4 := step1 b3 b4
  go_wp2_with fail
  refine (awake_any _).mono ?_
  rintro e w5 ⟨rfl, b5⟩
  have b5 := step1 b4 b5
  go_wp2_with fail
  go_ret
  exact ⟨rfl, b5⟩

set_option maxRecDepth 100000 in
set_option maxHeartbeats 2000000 in
theorem walk_f (s m : ByteArray) (w : World) (hs : s.size ≤ 140737488351232) (hm : m.size ≤ 140737488351232) (h1 : fitB (v0 s.data.toList) = true) (h2 : ¬ (30 : Int) < (s.size : Int)) (h3 : ¬ (30 : Int) < (m.size : Int)) (h4 : (m.toList == []) = false) (h5 : fitB (v0 m.data.toList) = true) :
    Calls Try.prog 7 #[.string s, .string m] w fun e w' => e = .returned (.bool true) ∧ Below w.heap.size w w' := by
  have F1 := fun w => rfit0 s w hs
  have F2 := fun w => rfit0 m w hm
  rw [h1] at F1
  rw [h5] at F2
  clear h1 h5
  obtain ⟨t1, e1, z1, d1⟩ := cat_step s ⟨#[126]⟩
  obtain ⟨t2, e2, z2, d2⟩ := cat_step t1 m
  obtain ⟨t3, e3, z3, d3⟩ := cat_step s ⟨#[94]⟩
  obtain ⟨t4, e4, z4, d4⟩ := cat_step t3 m
  obtain ⟨t5, e5, z5, d5⟩ := cat_step s ⟨#[46, 49]⟩
  have y1 : (⟨#[126]⟩ : ByteArray).size = 1 := rfl
  have y3 : (⟨#[94]⟩ : ByteArray).size = 1 := rfl
  have y5 : (⟨#[46, 49]⟩ : ByteArray).size = 2 := rfl
  rw [y1] at z1
  rw [y3] at z3
  rw [y5] at z5
  clear y1 y3 y5
  have S1 := hide (seg_of t2 s (-1) (by rw [d2, d1]; simpa using sign_tilde s.data.toList m.data.toList) (by omega) (by omega))
  have S2 := hide (seg_of t4 s 1 (by rw [d4, d3]; simpa using sign_caret s.data.toList m.data.toList) (by omega) (by omega))
  have S3 := hide (seg_of t4 t5 (-1) (by rw [d4, d3, d5]; simpa using sign_more s.data.toList m.data.toList) (by omega) (by omega))
  clear d1 d2 d3 d4 d5
  have F1 := hide F1
  have F2 := hide F2
  go_enter Try.func7, Try.ntmps7
  go_wp2_with fail
  refine (F1.out _).mono ?_
  rintro e w1 ⟨rfl, b1⟩
  go_wp2_with fail
  refine (F2.out _).mono ?_
  rintro e w2 ⟨rfl, b2⟩
  have b2 := step1 b1 b2
  go_wp2_with fail
  refine (S1.out _).mono ?_
  rintro e w3 ⟨rfl, b3⟩
  have b3 := step1 b2 b3
  go_wp2_with fail
  refine (S2.out _).mono ?_
  rintro e w4 ⟨rfl, b4⟩
  have b4 := step1 b3 b4
  go_wp2_with fail
  refine (S3.out _).mono ?_
  rintro e w5 ⟨rfl, b5⟩
  have b5 := step1 b4 b5
  go_wp2_with fail
  refine (awake_any _).mono ?_
  rintro e w6 ⟨rfl, b6⟩
  have b6 := step1 b5 b6
  go_wp2_with fail
  go_ret
  exact ⟨rfl, b6⟩

theorem walk (s m : ByteArray) (w : World) (hs : s.size ≤ 140737488351232) (hm : m.size ≤ 140737488351232) :
    Calls Try.prog 7 #[.string s, .string m] w fun e w' => e = .returned (.bool true) ∧ Below w.heap.size w w' := by
  cases h1 : fitB (v0 s.data.toList)
  · exact walk_a s m w hs hm h1
  by_cases h2 : (30 : Int) < (s.size : Int)
  · exact walk_b s m w hs hm h1 h2
  by_cases h3 : (30 : Int) < (m.size : Int)
  · exact walk_c s m w hs hm h1 h2 h3
  cases h4 : (m.toList == [])
  · cases h5 : fitB (v0 m.data.toList)
    · exact walk_d s m w hs hm h1 h2 h3 h4 h5
    · exact walk_f s m w hs hm h1 h2 h3 h4 h5
  · exact walk_e s m w hs hm h1 h2 h3 h4

set_option maxRecDepth 100000 in
theorem lifted (os : Os) (started : os.Started) (H : Type) (enc : TypeId × Value → H) :
    ReturnsInHanded {} Try.checked os 7 .any (Rows.rpmSignsSpec.pre6 enc Try.prog Try.f7 Rows.rpmSignsRow.domain false) (Rows.rpmSignsSpec.post enc Try.prog Try.f7 false true false false) := by
  refine returnsInHanded_of_change_sized (C := Try.checked) own started (by kernel_rfl) Try.func7
    (ChangeSpec.witness6 (enc := enc) (C := Try.checked) false ⟨#[], #[.string ByteArray.empty, .string ByteArray.empty], []⟩ 8 (by kernel_rfl) (by kernel_rfl) (by kernel_rfl) (by kernel_rfl)) ?_
  intro W base args ds gs before hval0 hW hcnd hsz0 _
  have hval : ∀ (j : Nat) t v, Try.f7.params[j]? = some t → args[j]? = some v → Value.okWide Try.prog W .any base t v := hval0
  have hsz : (DataW.weightsEach Try.prog (Try.f7.params.toList ++ Rows.rpmSignsSpec.plain.varTypes Try.prog) (ds ++ gs)).all (· ≤ reachBytes) = true := hsz0
  have hW' := hW
  obtain ⟨p, q, hA0, hV, rfl, hfz, hnd⟩ := hW
  have hA : DataW.TrodAll enc Try.prog W 0 (fun _ => true) true Try.f7.params.toList args.toList ds p := hA0
  rw [Try.params7] at hA hval hsz
  obtain ⟨v0, vs0, d0, ds0, p0, q0, hargs, rfl, rfl, h0, r0⟩ := trodAll_cons hA
  obtain ⟨v1, vs1, d1, ds1, p1, q1, rfl, rfl, rfl, h1, r1⟩ := trodAll_cons r0
  obtain ⟨rfl, rfl, rfl⟩ := trodAll_nil r1
  obtain rfl : args = #[v0, v1] := by cases args; simp_all
  obtain ⟨rfl, rfl⟩ := trodVars_none hV
  obtain ⟨a0, rfl, rfl, rfl, w0⟩ := open_string Try.underlying9 (hval 0 9 v0 rfl rfl) h0
  have s0 : a0.data.toList.length ≤ reachBytes := sized_string hsz (j := 0) (t := 9) rfl rfl
  rw [len_data] at s0
  have s0 : a0.size ≤ 140737488351232 := s0
  obtain ⟨a1, rfl, rfl, rfl, w1⟩ := open_string Try.underlying9 (hval 1 9 v1 rfl rfl) h1
  have s1 : a1.data.toList.length ≤ reachBytes := sized_string hsz (j := 1) (t := 9) rfl rfl
  rw [len_data] at s1
  have s1 : a1.size ≤ 140737488351232 := s1
  clear hA0 hval0 hsz0 hsz
  refine (walk a0 a1 W s0 s1).mono fun e W' ⟨he, bel⟩ => ?_
  subst he
  exact ⟨_, rfl, _, _, _, [], _, [], hW', trodAll_mk1 (shut_bool Try.underlying4 _), (trodAll_cons_mk (shut_string Try.underlying9 w0) (trodAll_cons_mk (shut_string Try.underlying9 w1) trodAll_mk0)), rfl, bel.frame _, fun h => by cases h⟩

theorem over : Rows.rpmSignsRow.holds Try.pinned (OpenSpec.ofChange Rows.rpmSignsSpec) :=
  OpenClaim.holds_of_wide 7 Try.f7 rfl rfl rfl rfl rfl rfl rfl ⟨rfl, rfl, rfl, rfl, rfl⟩ rfl rfl rfl rfl rfl (by kernel_rfl) Try.func7 (by kernel_rfl)
    (of_decide_eq_true (by kernel_rfl)) (by unfold Func.isWrapper; first | (rw [if_pos (by decide +kernel)]; kernel_rfl) | (rw [if_neg (by decide +kernel)]; exact ⟨rfl, rfl⟩))
    (fun os started H enc _ => lifted os started H enc)
end RpmSignsP

theorem rpmSigns_holds : Rows.RpmSignsSaid := RpmSignsP.over
#print axioms rpmSigns_holds
end Go.Proofs.Ytmcabgjcppnihaa
