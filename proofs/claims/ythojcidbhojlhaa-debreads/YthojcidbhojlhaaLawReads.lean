/-
  Proved: for any text, what is a version, and where a text goes wrong, is in the program what it is in the document's answer, and chapter 4's examples hold: DebReads returns true and leaves its argument as it was. No condition but the form's own reach (each string takes at most 2^47 - 4096 bytes).
-/
import Derived.Test.YthojcidbhojlhaaDt
import Derived.Test.YthojcidbhojlhaaDk
import Derived.ProofKit
import Derived.OpenShut
import Derived.ShutString
import Derived.ChangeOld
import Derived.Below
import Derived.SizedLaws
namespace Go.Proofs.Ythojcidbhojlhaa
namespace DebReadsP
open Go.ChangeShapes Go.WideShapes Go.ChangeAt Go.RowKit
open Go.ChangeMaps (open_string shut_string)
set_option linter.unusedVariables false

theorem own : ownKnob Try.prog.godebug = none := by kernel_rfl

set_option maxRecDepth 100000 in
set_option maxHeartbeats 2000000 in
theorem walk (s : ByteArray) (w : World) :
    Calls Try.prog 3 #[.string s] w fun e w' => e = .returned (.bool true) ∧ Below w.heap.size w w' := by
  obtain ⟨a, b, c, x, p, h1, h2⟩ := parts_of s.data.toList
  have P1 := fun w => Parse_any s w
  have P2 := fun w => RParse_any s w
  rw [h1] at P1 P2
  have P1 := hide P1
  have P2 := hide P2
  clear h1 h2
  have ea : (a.toList == a.toList) = true := by simp
  have eb : (b.toList == b.toList) = true := by simp
  have ec : (c.toList == c.toList) = true := by simp
  have ex : (x == x) = true := by simp
  have ep : (p == p) = true := by simp
  go_enter Try.func3, Try.ntmps3
  go_wp2_with fail
  refine (P1.out _).mono ?_
  rintro e w1 ⟨rfl, b1⟩
  go_wp2_with fail
  refine (P2.out _).mono ?_
  rintro e w2 ⟨rfl, b2⟩
  obtain ⟨eA, eF⟩ := lies23 b2
  have hl1 := (Array.getElem?_eq_some_iff.1 eA).1
  have hl2 := (Array.getElem?_eq_some_iff.1 eF).1
  have hl3 : w1.heap.size < w2.heap.size + 1 := by omega
  have hl4 : w1.heap.size + 1 < w2.heap.size + 1 := by omega
  have q0 := cell_at 0 eA rfl
  have q1 := cell_at 1 eA rfl
  have q2 := cell_at 2 eA rfl
  have p0 := cell_at 0 eF rfl
  have p1 := cell_at 1 eF rfl
  have B0 := b1.alloc b1.size (.cells #[.string a, .string b, .string c] 23)
  have B1 := B0.alloc B0.size (.cells #[.int .i64 x, .int .i64 p] 26)
  have B2 := B1.trans (b2.mono B1.size)
  have B3 := B2.alloc B2.size (.cells #[.string a, .string b, .string c] 23)
  have B4 := B3.alloc B3.size (.cells #[.int .i64 x, .int .i64 p] 26)
  have B4 := hide B4
  clear b1 b2 B0 B1 B2 B3
  go_wp2_with fail
  refine (awake_any _).mono ?_
  rintro e w3 ⟨rfl, b3⟩
  go_wp2_with fail
  go_ret
  exact ⟨rfl, B4.out.trans (b3.mono B4.out.size)⟩

set_option maxRecDepth 100000 in
theorem lifted (os : Os) (started : os.Started) (H : Type) (enc : TypeId × Value → H) :
    ReturnsInHanded {} Try.checked os 3 .any (Rows.debReadsSpec.pre6 enc Try.prog Try.f3 Rows.debReadsRow.domain false) (Rows.debReadsSpec.post enc Try.prog Try.f3 false true false false) := by
  refine returnsInHanded_of_change_sized (C := Try.checked) own started (by kernel_rfl) Try.func3
    (ChangeSpec.witness6 (enc := enc) (C := Try.checked) false ⟨#[], #[.string ByteArray.empty], []⟩ 8 (by kernel_rfl) (by kernel_rfl) (by kernel_rfl) (by kernel_rfl)) ?_
  intro W base args ds gs before hval0 hW hcnd hsz0 _
  have hval : ∀ (j : Nat) t v, Try.f3.params[j]? = some t → args[j]? = some v → Value.okWide Try.prog W .any base t v := hval0
  have hsz : (DataW.weightsEach Try.prog (Try.f3.params.toList ++ Rows.debReadsSpec.plain.varTypes Try.prog) (ds ++ gs)).all (· ≤ reachBytes) = true := hsz0
  have hW' := hW
  obtain ⟨p, q, hA0, hV, rfl, hfz, hnd⟩ := hW
  have hA : DataW.TrodAll enc Try.prog W 0 (fun _ => true) true Try.f3.params.toList args.toList ds p := hA0
  rw [Try.params3] at hA hval hsz
  obtain ⟨v0, vs0, d0, ds0, p0, q0, hargs, rfl, rfl, h0, r0⟩ := trodAll_cons hA
  obtain ⟨rfl, rfl, rfl⟩ := trodAll_nil r0
  obtain rfl : args = #[v0] := by cases args; simp_all
  obtain ⟨rfl, rfl⟩ := trodVars_none hV
  obtain ⟨a0, rfl, rfl, rfl, w0⟩ := open_string Try.underlying9 (hval 0 9 v0 rfl rfl) h0
  have s0 : a0.data.toList.length ≤ reachBytes := sized_string hsz (j := 0) (t := 9) rfl rfl
  rw [len_data] at s0
  have s0 : a0.size ≤ 140737488351232 := s0
  clear hA0 hval0 hsz0 hsz
  refine (walk a0 W).mono fun e W' ⟨he, bel⟩ => ?_
  subst he
  exact ⟨_, rfl, _, _, _, [], _, [], hW', trodAll_mk1 (shut_bool Try.underlying4 _), (trodAll_cons_mk (shut_string Try.underlying9 w0) trodAll_mk0), rfl, bel.frame _, fun h => by cases h⟩

theorem over : Rows.debReadsRow.holds Try.pinned (OpenSpec.ofChange Rows.debReadsSpec) :=
  OpenClaim.holds_of_wide 3 Try.f3 rfl rfl rfl rfl rfl rfl rfl ⟨rfl, rfl, rfl, rfl, rfl⟩ rfl rfl rfl rfl rfl (by kernel_rfl) Try.func3 (by kernel_rfl)
    (of_decide_eq_true (by kernel_rfl)) (by unfold Func.isWrapper; first | (rw [if_pos (by decide +kernel)]; kernel_rfl) | (rw [if_neg (by decide +kernel)]; exact ⟨rfl, rfl⟩))
    (fun os started H enc _ => lifted os started H enc)
end DebReadsP

theorem debReads_holds : Rows.DebReadsSaid := DebReadsP.over
#print axioms debReads_holds
end Go.Proofs.Ythojcidbhojlhaa
