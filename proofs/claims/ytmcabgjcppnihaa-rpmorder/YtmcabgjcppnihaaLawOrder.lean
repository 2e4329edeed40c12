/-
  Proved: for any three texts, Segments and Compare are orders: turned round they are turned, what is alike is alike with all, they are transitive; and chapter 5's examples hold: RpmOrder returns true and leaves its arguments as they were. No condition but the form's own reach (each string takes at most 2^47 - 4096 bytes).
-/
import Derived.Test.YtmcabgjcppnihaaDk
import Derived.Test.YtmcabgjcppnihaaLq
import Derived.ProofKit
import Derived.OpenShut
import Derived.ShutString
import Derived.ChangeOld
import Derived.Below
import Derived.SizedLaws
namespace Go.Proofs.Ytmcabgjcppnihaa
namespace RpmOrderP
open Go.ChangeShapes Go.WideShapes Go.ChangeAt Go.RowKit
open Go.ChangeMaps (open_string shut_string)
set_option linter.unusedVariables false

theorem own : ownKnob Try.prog.godebug = none := by kernel_rfl

theorem six {x y z : Int} (rx : x = -1 ∨ x = 0 ∨ x = 1) (t1 : x ≤ 0 → y ≤ 0 → z ≤ 0) (t3 : x = 0 → z = y) :
    (x = -1 ∧ y ≤ 0 ∧ ¬ 0 < y ∧ z ≤ 0 ∧ ¬ 0 < z) ∨ (x = -1 ∧ 0 < y ∧ ¬ y ≤ 0) ∨ (x = 0 ∧ y = 0 ∧ z = 0) ∨ (x = 0 ∧ y ≤ 0 ∧ ¬ 0 < y ∧ (y == 0) = false ∧ (y != 0) = true ∧ z ≤ 0 ∧ ¬ 0 < z) ∨ (x = 0 ∧ 0 < y ∧ ¬ y ≤ 0 ∧ (y == 0) = false ∧ (y != 0) = true) ∨ x = 1 := by
  have hb : ¬ y = 0 → (y == 0) = false := fun h => by simpa using h
  rcases rx with rfl | rfl | rfl
  · by_cases hy : y ≤ 0
    · have := t1 (by omega) hy
      exact .inl ⟨rfl, hy, by omega, this, by omega⟩
    · exact .inr (.inl ⟨rfl, by omega, hy⟩)
  · have e := t3 rfl
    by_cases h0 : y = 0
    · exact .inr (.inr (.inl ⟨rfl, h0, by omega⟩))
    · by_cases hy : y ≤ 0
      · exact .inr (.inr (.inr (.inl ⟨rfl, hy, by omega, hb h0, by simpa using h0, by omega, by omega⟩)))
      · exact .inr (.inr (.inr (.inr (.inl ⟨rfl, by omega, hy, hb h0, by simpa using h0⟩))))
  · exact .inr (.inr (.inr (.inr (.inr rfl))))

set_option maxRecDepth 100000 in
set_option maxHeartbeats 4000000 in
theorem walk (a b c : ByteArray) (w : World) (ha : a.size ≤ 140737488351232) (hb : b.size ≤ 140737488351232) (hc : c.size ≤ 140737488351232) :
    Calls Try.prog 5 #[.string a, .string b, .string c] w fun e w' => e = .returned (.bool true) ∧ Below w.heap.size w w' := by
  obtain ⟨x, y, z, h1, h2, h3, h4, rx, ry, rz, t1, t2, t3⟩ := three_of cmpT_cmp3 a.data.toList b.data.toList c.data.toList
  obtain ⟨x', y', z', h1', h2', h3', h4', rx', ry', rz', t1', t2', t3'⟩ := three_of partO_cmp3 a.data.toList b.data.toList c.data.toList
  have h5' := partO_cmp3.self a.data.toList
  have C1 := hide (show ∀ w, Calls Try.prog 12 #[.string a, .string b] w fun e w' => e = .returned (.int .i64 x) ∧ Below w.heap.size w w' from fun w => by rw [← h1]; exact CompareT_any a b w)
  have C2 := hide (show ∀ w, Calls Try.prog 12 #[.string b, .string c] w fun e w' => e = .returned (.int .i64 y) ∧ Below w.heap.size w w' from fun w => by rw [← h2]; exact CompareT_any b c w)
  have C3 := hide (show ∀ w, Calls Try.prog 12 #[.string a, .string c] w fun e w' => e = .returned (.int .i64 z) ∧ Below w.heap.size w w' from fun w => by rw [← h3]; exact CompareT_any a c w)
  have C4 := hide (show ∀ w, Calls Try.prog 12 #[.string b, .string a] w fun e w' => e = .returned (.int .i64 (-x)) ∧ Below w.heap.size w w' from fun w => by rw [← h4]; exact CompareT_any b a w)
  have D1 := hide (show ∀ w, Calls Try.prog 10 #[.string a, .string b] w fun e w' => e = .returned (.int .i64 x') ∧ Below w.heap.size w w' from fun w => by rw [← h1']; exact Segments_any a b w (by omega) (by omega))
  have D2 := hide (show ∀ w, Calls Try.prog 10 #[.string b, .string c] w fun e w' => e = .returned (.int .i64 y') ∧ Below w.heap.size w w' from fun w => by rw [← h2']; exact Segments_any b c w (by omega) (by omega))
  have D3 := hide (show ∀ w, Calls Try.prog 10 #[.string a, .string c] w fun e w' => e = .returned (.int .i64 z') ∧ Below w.heap.size w w' from fun w => by rw [← h3']; exact Segments_any a c w (by omega) (by omega))
  have D4 := hide (show ∀ w, Calls Try.prog 10 #[.string b, .string a] w fun e w' => e = .returned (.int .i64 (-x')) ∧ Below w.heap.size w w' from fun w => by rw [← h4']; exact Segments_any b a w (by omega) (by omega))
  have D5 := hide (show ∀ w, Calls Try.prog 10 #[.string a, .string a] w fun e w' => e = .returned (.int .i64 0) ∧ Below w.heap.size w w' from fun w => by rw [← h5']; exact Segments_any a a w (by omega) (by omega))
  have S1 := six rx t1 t3
  have S2 := six rx' t1' t3'
  clear h1 h2 h3 h4 h1' h2' h3' h4' h5' rx ry rz t1 t2 t3 rx' ry' rz' t1' t2' t3' ha hb hc
  have S1 := hide S1
  rcases S2 with ⟨rfl, p1, p2, p3, p4⟩ | ⟨rfl, p1, p2⟩ | ⟨rfl, rfl, rfl⟩ | ⟨rfl, p1, p2, p3, p4, p5, p6⟩ | ⟨rfl, p1, p2, p3, p4⟩ | rfl
  all_goals
    go_enter Try.func5, Try.ntmps5
    go_wp2_with fail
    refine (D1.out _).mono ?_
    rintro e w1 ⟨rfl, b1⟩
    go_wp2_with fail
    refine (D2.out _).mono ?_
    rintro e w2 ⟨rfl, b2⟩
    have b2 := step1 b1 b2
    go_wp2_with fail
    refine (D3.out _).mono ?_
    rintro e w3 ⟨rfl, b3⟩
    have b3 := step1 b2 b3
    go_wp2_with fail
    refine (D5.out _).mono ?_
    rintro e w4 ⟨rfl, b4⟩
    have b4 := step1 b3 b4
    go_wp2_with fail
    refine (D4.out _).mono ?_
    rintro e w5 ⟨rfl, b5⟩
    have b5 := step1 b4 b5
    clear b1 b2 b3 b4 D1 D2 D3 D4 D5
    go_wp2_with fail
    refine (C1.out _).mono ?_
    rintro e w6 ⟨rfl, b6⟩
    have b6 := step1 b5 b6
    go_wp2_with fail
    refine (C2.out _).mono ?_
    rintro e w7 ⟨rfl, b7⟩
    have b7 := step1 b6 b7
    go_wp2_with fail
    refine (C3.out _).mono ?_
    rintro e w8 ⟨rfl, b8⟩
    have b8 := step1 b7 b8
    clear b5 b6 b7 C1 C2 C3
    rcases S1.out with ⟨rfl, q1, q2, q3, q4⟩ | ⟨rfl, q1, q2⟩ | ⟨rfl, rfl, rfl⟩ | ⟨rfl, q1, q2, q3, q4, q5, q6⟩ | ⟨rfl, q1, q2, q3, q4⟩ | rfl
  all_goals
    clear S1
    go_wp2_with fail
    refine (C4.out _).mono ?_
    rintro e w9 ⟨rfl, b9⟩
    have b9 := step1 b8 b9
    go_wp2_with fail
    refine (awake_any _).mono ?_
    rintro e w10 ⟨rfl, b10⟩
    have b10 := step1 b9 b10
    go_wp2_with fail
    go_ret
    exact ⟨rfl, b10⟩

set_option maxRecDepth 100000 in
theorem lifted (os : Os) (started : os.Started) (H : Type) (enc : TypeId × Value → H) :
    ReturnsInHanded {} Try.checked os 5 .any (Rows.rpmOrderSpec.pre6 enc Try.prog Try.f5 Rows.rpmOrderRow.domain false) (Rows.rpmOrderSpec.post enc Try.prog Try.f5 false true false false) := by
  refine returnsInHanded_of_change_sized (C := Try.checked) own started (by kernel_rfl) Try.func5
    (ChangeSpec.witness6 (enc := enc) (C := Try.checked) false ⟨#[], #[.string ByteArray.empty, .string ByteArray.empty, .string ByteArray.empty], []⟩ 8 (by kernel_rfl) (by kernel_rfl) (by kernel_rfl) (by kernel_rfl)) ?_
  intro W base args ds gs before hval0 hW hcnd hsz0 _
  have hval : ∀ (j : Nat) t v, Try.f5.params[j]? = some t → args[j]? = some v → Value.okWide Try.prog W .any base t v := hval0
  have hsz : (DataW.weightsEach Try.prog (Try.f5.params.toList ++ Rows.rpmOrderSpec.plain.varTypes Try.prog) (ds ++ gs)).all (· ≤ reachBytes) = true := hsz0
  have hW' := hW
  obtain ⟨p, q, hA0, hV, rfl, hfz, hnd⟩ := hW
  have hA : DataW.TrodAll enc Try.prog W 0 (fun _ => true) true Try.f5.params.toList args.toList ds p := hA0
  rw [Try.params5] at hA hval hsz
  obtain ⟨v0, vs0, d0, ds0, p0, q0, hargs, rfl, rfl, h0, r0⟩ := trodAll_cons hA
  obtain ⟨v1, vs1, d1, ds1, p1, q1, rfl, rfl, rfl, h1, r1⟩ := trodAll_cons r0
  obtain ⟨v2, vs2, d2, ds2, p2, q2, rfl, rfl, rfl, h2, r2⟩ := trodAll_cons r1
  obtain ⟨rfl, rfl, rfl⟩ := trodAll_nil r2
  obtain rfl : args = #[v0, v1, v2] := by cases args; simp_all
  obtain ⟨rfl, rfl⟩ := trodVars_none hV
  obtain ⟨a0, rfl, rfl, rfl, w0⟩ := open_string Try.underlying9 (hval 0 9 v0 rfl rfl) h0
  have s0 : a0.data.toList.length ≤ reachBytes := sized_string hsz (j := 0) (t := 9) rfl rfl
  rw [len_data] at s0
  have s0 : a0.size ≤ 140737488351232 := s0
  obtain ⟨a1, rfl, rfl, rfl, w1⟩ := open_string Try.underlying9 (hval 1 9 v1 rfl rfl) h1
  have s1 : a1.data.toList.length ≤ reachBytes := sized_string hsz (j := 1) (t := 9) rfl rfl
  rw [len_data] at s1
  have s1 : a1.size ≤ 140737488351232 := s1
  obtain ⟨a2, rfl, rfl, rfl, w2⟩ := open_string Try.underlying9 (hval 2 9 v2 rfl rfl) h2
  have s2 : a2.data.toList.length ≤ reachBytes := sized_string hsz (j := 2) (t := 9) rfl rfl
  rw [len_data] at s2
  have s2 : a2.size ≤ 140737488351232 := s2
  clear hA0 hval0 hsz0 hsz
  refine (walk a0 a1 a2 W s0 s1 s2).mono fun e W' ⟨he, bel⟩ => ?_
  subst he
  exact ⟨_, rfl, _, _, _, [], _, [], hW', trodAll_mk1 (shut_bool Try.underlying4 _), (trodAll_cons_mk (shut_string Try.underlying9 w0) (trodAll_cons_mk (shut_string Try.underlying9 w1) (trodAll_cons_mk (shut_string Try.underlying9 w2) trodAll_mk0))), rfl, bel.frame _, fun h => by cases h⟩

theorem over : Rows.rpmOrderRow.holds Try.pinned (OpenSpec.ofChange Rows.rpmOrderSpec) :=
  OpenClaim.holds_of_wide 5 Try.f5 rfl rfl rfl rfl rfl rfl rfl ⟨rfl, rfl, rfl, rfl, rfl⟩ rfl rfl rfl rfl rfl (by kernel_rfl) Try.func5 (by kernel_rfl)
    (of_decide_eq_true (by kernel_rfl)) (by unfold Func.isWrapper; first | (rw [if_pos (by decide +kernel)]; kernel_rfl) | (rw [if_neg (by decide +kernel)]; exact ⟨rfl, rfl⟩))
    (fun os started H enc _ => lifted os started H enc)
end RpmOrderP

theorem rpmOrder_holds : Rows.RpmOrderSaid := RpmOrderP.over
#print axioms rpmOrder_holds
end Go.Proofs.Ytmcabgjcppnihaa
