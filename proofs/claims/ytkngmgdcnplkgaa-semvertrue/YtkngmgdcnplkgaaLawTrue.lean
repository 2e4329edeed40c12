/-
  Proved: for any three texts, Compare is an order: its answers are -1, 0 and 1, turned round it is turned, a text is alike with itself, it is transitive, and what is alike is alike with all; and chapter 2's examples hold: SemverTrue returns true and leaves its arguments as they were. No condition but the form's own reach (each string takes at most 2^47 - 4096 bytes).
-/
import Derived.Test.YtkngmgdcnplkgaaSe
import Derived.Test.YtkngmgdcnplkgaaSh
import Derived.Test.YtkngmgdcnplkgaaPlainT
import Derived.ProofKit
import Derived.OpenShut
import Derived.ShutString
import Derived.ChangeOld
import Derived.Below
import Derived.SizedLaws
namespace Go.Proofs.Ytkngmgdcnplkgaa
namespace SemverTrueP
open Go.ChangeShapes Go.WideShapes Go.ChangeAt Go.RowKit
open Go.ChangeMaps (open_string shut_string)
set_option linter.unusedVariables false

theorem own : ownKnob Try.prog.godebug = none := by kernel_rfl

/-- The answers that three comparisons can have. -/
theorem three (a b c : List UInt8) : ∃ x y z : Int, cmpT a b = x ∧ cmpT b c = y ∧ cmpT a c = z ∧ cmpT b a = -x ∧ cmpT a a = 0 ∧ (x = -1 ∨ x = 0 ∨ x = 1) ∧ (y = -1 ∨ y = 0 ∨ y = 1) ∧ (z = -1 ∨ z = 0 ∨ z = 1) ∧
    (x ≤ 0 → y ≤ 0 → z ≤ 0) ∧ (0 ≤ x → 0 ≤ y → 0 ≤ z) ∧ (x = 0 → z = y) := by
  have h := cmpT_cmp3
  refine ⟨_, _, _, rfl, rfl, rfl, h.anti a b, h.self a, h.rng a b, h.rng b c, h.rng a c, h.trans a b c, fun h1 h2 => ?_, h.eqv a b c⟩
  have e1 := h.anti a b
  have e2 := h.anti b c
  have e3 := h.anti a c
  have := h.trans c b a (by omega) (by omega)
  omega

set_option maxRecDepth 100000 in
set_option maxHeartbeats 4000000 in
theorem walk (a b c : ByteArray) (w : World) :
    Calls Try.prog 7 #[.string a, .string b, .string c] w fun e w' => e = .returned (.bool true) ∧ Below w.heap.size w w' := by
  obtain ⟨x, y, z, h1, h2, h3, h4, h5, rx, ry, rz, t1, t2, t3⟩ := three a.data.toList b.data.toList c.data.toList
  have C1 := hide (show ∀ w, Calls Try.prog 23 #[.string a, .string b] w fun e w' => e = .returned (.int .i64 x) ∧ Below w.heap.size w w' from fun w => by rw [← h1]; exact CompareT_any Parse_any a b w)
  have C2 := hide (show ∀ w, Calls Try.prog 23 #[.string b, .string c] w fun e w' => e = .returned (.int .i64 y) ∧ Below w.heap.size w w' from fun w => by rw [← h2]; exact CompareT_any Parse_any b c w)
  have C3 := hide (show ∀ w, Calls Try.prog 23 #[.string a, .string c] w fun e w' => e = .returned (.int .i64 z) ∧ Below w.heap.size w w' from fun w => by rw [← h3]; exact CompareT_any Parse_any a c w)
  have C4 := hide (show ∀ w, Calls Try.prog 23 #[.string b, .string a] w fun e w' => e = .returned (.int .i64 (-x)) ∧ Below w.heap.size w w' from fun w => by rw [← h4]; exact CompareT_any Parse_any b a w)
  have C5 := hide (show ∀ w, Calls Try.prog 23 #[.string a, .string a] w fun e w' => e = .returned (.int .i64 0) ∧ Below w.heap.size w w' from fun w => by rw [← h5]; exact CompareT_any Parse_any a a w)
  clear h1 h2 h3 h4 h5
  rcases rx with rfl | rfl | rfl <;> rcases ry with rfl | rfl | rfl <;> rcases rz with rfl | rfl | rfl
  all_goals first
    | (exfalso; omega)
    | (go_enter Try.func7, Try.ntmps7
       go_wp2_with fail
       refine (C1.out _).mono ?_
       rintro e w1 ⟨rfl, b1⟩
       go_wp2_with fail
       refine (C2.out _).mono ?_
       rintro e w2 ⟨rfl, b2⟩
       go_wp2_with fail
       refine (C3.out _).mono ?_
       rintro e w3 ⟨rfl, b3⟩
       go_wp2_with fail
       refine (C4.out _).mono ?_
       rintro e w4 ⟨rfl, b4⟩
       go_wp2_with fail
       refine (C5.out _).mono ?_
       rintro e w5 ⟨rfl, b5⟩
       go_wp2_with fail
       refine (awake_any Parse_any _).mono ?_
       rintro e w6 ⟨rfl, b6⟩
       go_wp2_with fail
       go_ret
       have s1 := b1.size
       have s2 := b2.size
       have s3 := b3.size
       have s4 := b4.size
       have s5 := b5.size
       exact ⟨rfl, b1.trans ((b2.mono (by omega)).trans ((b3.mono (by omega)).trans ((b4.mono (by omega)).trans ((b5.mono (by omega)).trans (b6.mono (by omega))))))⟩)

set_option maxRecDepth 100000 in
theorem lifted (os : Os) (started : os.Started) (H : Type) (enc : TypeId × Value → H) :
    ReturnsInHanded {} Try.checked os 7 .any (Rows.semverTrueSpec.pre6 enc Try.prog Try.f7 Rows.semverTrueRow.domain false) (Rows.semverTrueSpec.post enc Try.prog Try.f7 false true false false) := by
  refine returnsInHanded_of_change (C := Try.checked) own started (by kernel_rfl) Try.func7
    (ChangeSpec.witness6 (enc := enc) (C := Try.checked) false ⟨#[], #[.string ByteArray.empty, .string ByteArray.empty, .string ByteArray.empty], []⟩ 8 (by kernel_rfl) (by kernel_rfl) (by kernel_rfl) (by kernel_rfl)) ?_
  intro W base args ds gs before hval0 hW hcnd _
  have hval : ∀ (j : Nat) t v, Try.f7.params[j]? = some t → args[j]? = some v → Value.okWide Try.prog W .any base t v := hval0
  have hW' := hW
  obtain ⟨p, q, hA0, hV, rfl, hfz, hnd⟩ := hW
  have hA : DataW.TrodAll enc Try.prog W 0 (fun _ => true) true Try.f7.params.toList args.toList ds p := hA0
  rw [Try.params7] at hA hval
  obtain ⟨v0, vs0, d0, ds0, p0, q0, hargs, rfl, rfl, h0, r0⟩ := trodAll_cons hA
  obtain ⟨v1, vs1, d1, ds1, p1, q1, rfl, rfl, rfl, h1, r1⟩ := trodAll_cons r0
  obtain ⟨v2, vs2, d2, ds2, p2, q2, rfl, rfl, rfl, h2, r2⟩ := trodAll_cons r1
  obtain ⟨rfl, rfl, rfl⟩ := trodAll_nil r2
  obtain rfl : args = #[v0, v1, v2] := by cases args; simp_all
  obtain ⟨rfl, rfl⟩ := trodVars_none hV
  obtain ⟨a0, rfl, rfl, rfl, w0⟩ := open_string Try.underlying9 (hval 0 9 v0 rfl rfl) h0
  obtain ⟨a1, rfl, rfl, rfl, w1⟩ := open_string Try.underlying9 (hval 1 9 v1 rfl rfl) h1
  obtain ⟨a2, rfl, rfl, rfl, w2⟩ := open_string Try.underlying9 (hval 2 9 v2 rfl rfl) h2
  clear hA0 hval0
  refine (walk a0 a1 a2 W).mono fun e W' ⟨he, bel⟩ => ?_
  subst he
  exact ⟨_, rfl, _, _, _, [], _, [], hW', trodAll_mk1 (shut_bool Try.underlying4 _), (trodAll_cons_mk (shut_string Try.underlying9 w0) (trodAll_cons_mk (shut_string Try.underlying9 w1) (trodAll_cons_mk (shut_string Try.underlying9 w2) trodAll_mk0))), rfl, bel.frame _, fun h => by cases h⟩

theorem over : Rows.semverTrueRow.holds Try.pinned (OpenSpec.ofChange Rows.semverTrueSpec) :=
  OpenClaim.holds_of_wide 7 Try.f7 rfl rfl rfl rfl rfl rfl rfl ⟨rfl, rfl, rfl, rfl, rfl⟩ rfl rfl rfl rfl rfl (by kernel_rfl) Try.func7 (by kernel_rfl)
    (of_decide_eq_true (by kernel_rfl)) (by unfold Func.isWrapper; first | (rw [if_pos (by decide +kernel)]; kernel_rfl) | (rw [if_neg (by decide +kernel)]; exact ⟨rfl, rfl⟩))
    (fun os started H enc _ => lifted os started H enc)
end SemverTrueP

theorem semverTrue_holds : Rows.SemverTrueSaid := SemverTrueP.over
#print axioms semverTrue_holds
end Go.Proofs.Ytkngmgdcnplkgaa
