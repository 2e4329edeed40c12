/-
  Proved: for any three texts, Compare and Part are orders: turned round they are turned, a text is alike with itself, they are transitive, and what is alike is alike with all; and chapter 4's examples hold: DebTrue returns true and leaves its arguments as they were. No condition but the form's own reach (each string takes at most 2^47 - 4096 bytes).
-/
import Derived.Test.YthojcidbhojlhaaDk
import Derived.Test.YthojcidbhojlhaaLq
import Derived.ProofKit
import Derived.OpenShut
import Derived.ShutString
import Derived.ChangeOld
import Derived.Below
import Derived.SizedLaws
namespace Go.Proofs.Ythojcidbhojlhaa
namespace DebTrueP
open Go.ChangeShapes Go.WideShapes Go.ChangeAt Go.RowKit
open Go.ChangeMaps (open_string shut_string)
set_option linter.unusedVariables false

theorem own : ownKnob Try.prog.godebug = none := by kernel_rfl

set_option maxHeartbeats 2000000 in
theorem order3_any (x y z : Int) (w : World) (rx : x = -1 ∨ x = 0 ∨ x = 1) (ry : y = -1 ∨ y = 0 ∨ y = 1) (rz : z = -1 ∨ z = 0 ∨ z = 1)
    (t1 : x ≤ 0 → y ≤ 0 → z ≤ 0) (t2 : 0 ≤ x → 0 ≤ y → 0 ≤ z) (t3 : x = 0 → z = y) :
    Calls Try.prog 27 #[.int .i64 x, .int .i64 y, .int .i64 z] w fun e w' => e = .returned (.bool true) ∧ w' = w := by
  rcases rx with rfl | rfl | rfl <;> rcases ry with rfl | rfl | rfl <;> rcases rz with rfl | rfl | rfl
  all_goals first
    | (exfalso; omega)
    | (clear t1 t2 t3
       go_enter Try.func27, Try.ntmps27
       go_wp2_with fail
       go_ret
       exact ⟨rfl, rfl⟩)

set_option maxRecDepth 100000 in
set_option maxHeartbeats 4000000 in
theorem walk (a b c : ByteArray) (w : World) (ha : a.size ≤ 140737488351232) (hb : b.size ≤ 140737488351232) (hc : c.size ≤ 140737488351232) :
    Calls Try.prog 7 #[.string a, .string b, .string c] w fun e w' => e = .returned (.bool true) ∧ Below w.heap.size w w' := by
  obtain ⟨x, y, z, h1, h2, h3, h4, rx, ry, rz, t1, t2, t3⟩ := three_of cmpT_cmp3 a.data.toList b.data.toList c.data.toList
  obtain ⟨x', y', z', h1', h2', h3', h4', rx', ry', rz', t1', t2', t3'⟩ := three_of partO_cmp3 a.data.toList b.data.toList c.data.toList
  have h5 := cmpT_cmp3.self a.data.toList
  have h5' := partO_cmp3.self c.data.toList
  have C1 := hide (show ∀ w, Calls Try.prog 20 #[.string a, .string b] w fun e w' => e = .returned (.int .i64 x) ∧ Below w.heap.size w w' from fun w => by rw [← h1]; exact CompareT_any a b w)
  have C2 := hide (show ∀ w, Calls Try.prog 20 #[.string b, .string c] w fun e w' => e = .returned (.int .i64 y) ∧ Below w.heap.size w w' from fun w => by rw [← h2]; exact CompareT_any b c w)
  have C3 := hide (show ∀ w, Calls Try.prog 20 #[.string a, .string c] w fun e w' => e = .returned (.int .i64 z) ∧ Below w.heap.size w w' from fun w => by rw [← h3]; exact CompareT_any a c w)
  have C4 := hide (show ∀ w, Calls Try.prog 20 #[.string b, .string a] w fun e w' => e = .returned (.int .i64 (-x)) ∧ Below w.heap.size w w' from fun w => by rw [← h4]; exact CompareT_any b a w)
  have C5 := hide (show ∀ w, Calls Try.prog 20 #[.string a, .string a] w fun e w' => e = .returned (.int .i64 0) ∧ Below w.heap.size w w' from fun w => by rw [← h5]; exact CompareT_any a a w)
  have D1 := hide (show ∀ w, Calls Try.prog 16 #[.string a, .string b] w fun e w' => e = .returned (.int .i64 x') ∧ Below w.heap.size w w' from fun w => by rw [← h1']; exact Part_any a b w (by omega) (by omega))
  have D2 := hide (show ∀ w, Calls Try.prog 16 #[.string b, .string c] w fun e w' => e = .returned (.int .i64 y') ∧ Below w.heap.size w w' from fun w => by rw [← h2']; exact Part_any b c w (by omega) (by omega))
  have D3 := hide (show ∀ w, Calls Try.prog 16 #[.string a, .string c] w fun e w' => e = .returned (.int .i64 z') ∧ Below w.heap.size w w' from fun w => by rw [← h3']; exact Part_any a c w (by omega) (by omega))
  have D4 := hide (show ∀ w, Calls Try.prog 16 #[.string b, .string a] w fun e w' => e = .returned (.int .i64 (-x')) ∧ Below w.heap.size w w' from fun w => by rw [← h4']; exact Part_any b a w (by omega) (by omega))
  have D5 := hide (show ∀ w, Calls Try.prog 16 #[.string c, .string c] w fun e w' => e = .returned (.int .i64 0) ∧ Below w.heap.size w w' from fun w => by rw [← h5']; exact Part_any c c w (by omega) (by omega))
  have O1 := hide (fun w => order3_any x y z w rx ry rz t1 t2 t3)
  have O2 := hide (fun w => order3_any x' y' z' w rx' ry' rz' t1' t2' t3')
  clear h1 h2 h3 h4 h5 h1' h2' h3' h4' h5' ry rz t1 t2 t3 ry' rz' t1' t2' t3' ha hb hc
  rcases rx with rfl | rfl | rfl <;> rcases rx' with rfl | rfl | rfl
  all_goals
    go_enter Try.func7, Try.ntmps7
    go_wp2_with fail
    refine (C4.out _).mono ?_
    rintro e w1 ⟨rfl, b1⟩
    go_wp2_with fail
    refine (C1.out _).mono ?_
    rintro e w2 ⟨rfl, b2⟩
    have b2 := b1.trans (b2.mono b1.size)
    go_wp2_with fail
    refine (D4.out _).mono ?_
    rintro e w3 ⟨rfl, b3⟩
    have b3 := b2.trans (b3.mono b2.size)
    go_wp2_with fail
    refine (D1.out _).mono ?_
    rintro e w4 ⟨rfl, b4⟩
    have b4 := b3.trans (b4.mono b3.size)
    go_wp2_with fail
    refine (C5.out _).mono ?_
    rintro e w5 ⟨rfl, b5⟩
    have b5 := b4.trans (b5.mono b4.size)
    go_wp2_with fail
    refine (D5.out _).mono ?_
    rintro e w6 ⟨rfl, b6⟩
    have b6 := b5.trans (b6.mono b5.size)
    go_wp2_with fail
    refine (C1.out _).mono ?_
    rintro e w7 ⟨rfl, b7⟩
    have b7 := b6.trans (b7.mono b6.size)
    go_wp2_with fail
    refine (C2.out _).mono ?_
    rintro e w8 ⟨rfl, b8⟩
    have b8 := b7.trans (b8.mono b7.size)
    go_wp2_with fail
    refine (C3.out _).mono ?_
    rintro e w9 ⟨rfl, b9⟩
    have b9 := b8.trans (b9.mono b8.size)
    go_wp2_with fail
    refine (O1.out _).mono ?_
    rintro e u ⟨rfl, hu⟩
    rw [hu]
    clear hu u
    go_wp2_with fail
    refine (D1.out _).mono ?_
    rintro e w10 ⟨rfl, b10⟩
    have b10 := b9.trans (b10.mono b9.size)
    go_wp2_with fail
    refine (D2.out _).mono ?_
    rintro e w11 ⟨rfl, b11⟩
    have b11 := b10.trans (b11.mono b10.size)
    go_wp2_with fail
    refine (D3.out _).mono ?_
    rintro e w12 ⟨rfl, b12⟩
    have b12 := b11.trans (b12.mono b11.size)
    go_wp2_with fail
    refine (O2.out _).mono ?_
    rintro e u ⟨rfl, hu⟩
    rw [hu]
    clear hu u
    go_wp2_with fail
    refine (awake_any _).mono ?_
    rintro e w99 ⟨rfl, b99⟩
    have b99 := b12.trans (b99.mono b12.size)
    go_wp2_with fail
    go_ret
    exact ⟨rfl, b99⟩

set_option maxRecDepth 100000 in
theorem lifted (os : Os) (started : os.Started) (H : Type) (enc : TypeId × Value → H) :
    ReturnsInHanded {} Try.checked os 7 .any (Rows.debTrueSpec.pre6 enc Try.prog Try.f7 Rows.debTrueRow.domain false) (Rows.debTrueSpec.post enc Try.prog Try.f7 false true false false) := by
  refine returnsInHanded_of_change_sized (C := Try.checked) own started (by kernel_rfl) Try.func7
    (ChangeSpec.witness6 (enc := enc) (C := Try.checked) false ⟨#[], #[.string ByteArray.empty, .string ByteArray.empty, .string ByteArray.empty], []⟩ 8 (by kernel_rfl) (by kernel_rfl) (by kernel_rfl) (by kernel_rfl)) ?_
  intro W base args ds gs before hval0 hW hcnd hsz0 _
  have hval : ∀ (j : Nat) t v, Try.f7.params[j]? = some t → args[j]? = some v → Value.okWide Try.prog W .any base t v := hval0
  have hsz : (DataW.weightsEach Try.prog (Try.f7.params.toList ++ Rows.debTrueSpec.plain.varTypes Try.prog) (ds ++ gs)).all (· ≤ reachBytes) = true := hsz0
  have hW' := hW
  obtain ⟨p, q, hA0, hV, rfl, hfz, hnd⟩ := hW
  have hA : DataW.TrodAll enc Try.prog W 0 (fun _ => true) true Try.f7.params.toList args.toList ds p := hA0
  rw [Try.params7] at hA hval hsz
  obtain ⟨v0, vs0, d0, ds0, p0, q0, hargs, rfl, rfl, h0, r0⟩ := trodAll_cons hA
  obtain ⟨v1, vs1, d1, ds1, p1, q1, rfl, rfl, rfl, h1, r1⟩ := trodAll_cons r0
  obtain ⟨v2, vs2, d2, ds2, p2, q2, rfl, rfl, rfl, h2, r2⟩ := trodAll_cons r1
  obtain ⟨rfl, rfl, rfl⟩ := trodAll_nil r2
  obtain rfl : args = #[v0, v1, v2] := by cases args; simp_all
  obtain ⟨rfl, rfl⟩ := trodVars_none hV
  obtain ⟨a0, rfl, rfl, rfl, w0⟩ := open_string Try.underlying9 (hval 0 9 v0 rfl rfl) h0
  have s0 : a0.data.toList.length ≤ reachBytes := sized_string hsz (j := 0) (t := 9) rfl rfl
  rw [len_data] at s0
  have s0 : a0.size ≤ 140737488351232 := s0
  obtain ⟨a1, rfl, rfl, rfl, w1⟩ := open_string Try.underlying9 (hval 1 9 v1 rfl rfl) h1
  have s1 : a1.data.toList.length ≤ reachBytes := sized_string hsz (j := 1) (t := 9) rfl rfl
  rw [len_data] at s1
  have s1 : a1.size ≤ 140737488351232 := s1
  obtain ⟨a2, rfl, rfl, rfl, w2⟩ := open_string Try.underlying9 (hval 2 9 v2 rfl rfl) h2
  have s2 : a2.data.toList.length ≤ reachBytes := sized_string hsz (j := 2) (t := 9) rfl rfl
  rw [len_data] at s2
  have s2 : a2.size ≤ 140737488351232 := s2
  clear hA0 hval0 hsz0 hsz
  refine (walk a0 a1 a2 W s0 s1 s2).mono fun e W' ⟨he, bel⟩ => ?_
  subst he
  exact ⟨_, rfl, _, _, _, [], _, [], hW', trodAll_mk1 (shut_bool Try.underlying4 _), (trodAll_cons_mk (shut_string Try.underlying9 w0) (trodAll_cons_mk (shut_string Try.underlying9 w1) (trodAll_cons_mk (shut_string Try.underlying9 w2) trodAll_mk0))), rfl, bel.frame _, fun h => by cases h⟩

theorem over : Rows.debTrueRow.holds Try.pinned (OpenSpec.ofChange Rows.debTrueSpec) :=
  OpenClaim.holds_of_wide 7 Try.f7 rfl rfl rfl rfl rfl rfl rfl ⟨rfl, rfl, rfl, rfl, rfl⟩ rfl rfl rfl rfl rfl (by kernel_rfl) Try.func7 (by kernel_rfl)
    (of_decide_eq_true (by kernel_rfl)) (by unfold Func.isWrapper; first | (rw [if_pos (by decide +kernel)]; kernel_rfl) | (rw [if_neg (by decide +kernel)]; exact ⟨rfl, rfl⟩))
    (fun os started H enc _ => lifted os started H enc)
end DebTrueP

theorem debTrue_holds : Rows.DebTrueSaid := DebTrueP.over
#print axioms debTrue_holds
end Go.Proofs.Ythojcidbhojlhaa
