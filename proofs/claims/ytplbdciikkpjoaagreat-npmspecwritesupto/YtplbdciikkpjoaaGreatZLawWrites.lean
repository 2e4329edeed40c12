/-
  Proved: for any sets of comparators, any comparator and any version that hold together at most 1,048,576 values and letters, a range's text, whether a version is what a comparator asks for, and whether it is in a set, are in the program what they are in the document's answer, and chapter 8's examples hold: NpmspecWrites returns true and leaves its arguments as they were. The condition: the bulk of the arguments is at most 1,048,576 (the program adds the lengths of a version's parts in an int, which wraps at versions that no machine holds).
-/
import Derived.Test.YtplbdciikkpjoaaGreatZKf
import Derived.ProofKit
import Derived.OpenShut
import Derived.ShutString
import Derived.ChangeOld
import Derived.Below
import Derived.JoinedCond
import Derived.SliceStrings
import Derived.Deep.Fields
namespace Go.Proofs.YtplbdciikkpjoaaGreat
namespace NpmspecWritesP
open Go.ChangeShapes Go.WideShapes Go.ChangeAt Go.RowKit
open Go.ChangeMaps (open_string shut_string)
set_option linter.unusedVariables false

theorem own : ownKnob Tryz.prog.godebug = none := by kernel_rfl
theorem laidOut : laidOutB Tryz.prog = true := by kernel_rfl

theorem short {H : Type} {d0 d1 d2 : DataW H} (hk : Rows.uptoSmall H [d0, d1, d2] = true) : Rows.uptoBulk d0 ≤ 1048576 ∧ Rows.uptoBulk d1 ≤ 1048576 ∧ Rows.uptoBulk d2 ≤ 1048576 := by
  have h : Rows.uptoBulkAll [d0, d1, d2] ≤ 1048576 := of_decide_eq_true hk
  simp only [Rows.uptoBulkAll] at h
  omega

set_option maxRecDepth 100000 in
theorem contract (H : Type) (enc : TypeId × Value → H) (W : World) (base : Nat) (args : Array Value) (ds gs : List (DataW H)) (before : List MemPlace)
    (hval : ∀ (j : Nat) t v, Tryz.f4.params[j]? = some t → args[j]? = some v → Value.okWide Tryz.prog W .any base t v)
    (hW : DataW.Whole enc Tryz.prog Tryz.f4.params.toList Rows.npmspecWritesSpec.vars false W args.toList ds gs before) (hk : Rows.uptoSmall H (ds ++ gs) = true) :
    Calls Tryz.prog 4 args W fun e W' => ∃ v, e = .returned v ∧ Rows.npmspecWritesSpec.post enc Tryz.prog Tryz.f4 false true false false W args v W' := by
  have hW' := hW
  obtain ⟨p, q, hA0, hV, rfl, hfz, hnd⟩ := hW
  have hA : DataW.TrodAll enc Tryz.prog W 0 (fun _ => true) true Tryz.f4.params.toList args.toList ds p := hA0
  rw [Tryz.params4] at hA hval
  obtain ⟨v0, vs0, d0, ds0, p0, q0, hargs, rfl, rfl, h0, r0⟩ := trodAll_cons hA
  obtain ⟨v1, vs1, d1, ds1, p1, q1, rfl, rfl, rfl, h1, r1⟩ := trodAll_cons r0
  obtain ⟨v2, vs2, d2, ds2, p2, q2, rfl, rfl, rfl, h2, r2⟩ := trodAll_cons r1
  obtain ⟨rfl, rfl, rfl⟩ := trodAll_nil r2
  obtain rfl : args = #[v0, v1, v2] := by cases args; simp_all
  obtain ⟨rfl, rfl⟩ := trodVars_none hV
  have k0 := h0
  have k1 := h1
  have k2 := h2
  have lt0 : ∀ x ∈ p0, x.block < W.heap.size := by obtain ⟨m, hm⟩ := k0; exact DataW.trod_lt m _ _ _ hm
  have lt1 : ∀ x ∈ p1, x.block < W.heap.size := by obtain ⟨m, hm⟩ := k1; exact DataW.trod_lt m _ _ _ hm
  have lt2 : ∀ x ∈ p2, x.block < W.heap.size := by obtain ⟨m, hm⟩ := k2; exact DataW.trod_lt m _ _ _ hm
  obtain ⟨s0, s1, s2⟩ := short hk
  obtain ⟨y, hy, ly⟩ := open_sem (hval 2 33 v2 rfl rfl) h2
  obtain ⟨l, hl, hln, hsz, htot⟩ : ∃ l : List (List Comp), SetsAt W v0 l ∧ l.length ≤ Rows.uptoBulk d0 ∧ (∀ cs ∈ l, cs.length ≤ Rows.uptoBulk d0 ∧ ∀ x ∈ cs, lenS x.2 ≤ Rows.uptoBulk d0) ∧ totS l ≤ 8 * Rows.uptoBulk d0 := by
    obtain ⟨m, hm⟩ := h0
    obtain ⟨a, i, c, rfl⟩ := okWide_slice Tryz.underlying22 (hval 0 22 v0 rfl rfl)
    exact open_sets hm
  obtain ⟨op, x, vp, vb, rfl, t1, t2, lx⟩ : ∃ (op : Int) (x : SemL) (vp vb : Value), v1 = .agg #[.int .i64 op, .string (ofL x.maj), .string (ofL x.min), .string (ofL x.pat), vp, vb] ∧ Txt W vp x.pre ∧ Txt W vb x.bld ∧ lenS x ≤ Rows.uptoBulk d1 := by
    obtain ⟨m, hm⟩ := h1
    obtain ⟨cs, rfl, hcs⟩ := okWide_struct Tryz.underlying35 (hval 1 35 v1 rfl rfl)
    rw [Tryz.cells35] at hcs
    obtain ⟨c0, c1, c2, c3, c4, c5, rfl⟩ : ∃ c0 c1 c2 c3 c4 c5, cs = #[c0, c1, c2, c3, c4, c5] := by
      rcases cs with ⟨l⟩
      match l, hcs with
      | [c0, c1, c2, c3, c4, c5], _ => exact ⟨c0, c1, c2, c3, c4, c5, rfl⟩
    obtain ⟨op, x, rfl, hX, lx⟩ := open_compC hm
    obtain ⟨rfl, rfl, rfl, t3, t4, _, _⟩ := hX
    exact ⟨op, x, c4, c5, rfl, t3, t4, by dsimp only at lx; omega⟩
  clear hA0
  refine (writes_walk l v0 op x y vp vb v2 W hl (fun cs hc => ⟨by have := (hsz cs hc).1; omega, fun c hcc => by have := (hsz cs hc).2 c hcc; omega⟩) (by omega) (by omega) t1 t2 hy (by omega) (by omega)).mono fun e W' ⟨he, bel⟩ => ?_
  subst he
  exact ⟨_, rfl, _, _, _, [], _, [], hW', trodAll_mk1 (shut_bool Tryz.underlying4 _), (trodAll_cons_mk (Below.trod laidOut (by kernel_rfl) (of_decide_eq_true (by kernel_rfl)) k0 bel lt0) (trodAll_cons_mk (Below.trod laidOut (by kernel_rfl) (of_decide_eq_true (by kernel_rfl)) k1 bel lt1) (trodAll_cons_mk (Below.trod laidOut (by kernel_rfl) (of_decide_eq_true (by kernel_rfl)) k2 bel lt2) trodAll_mk0))), rfl, bel.frame _, fun h => by cases h⟩

set_option maxRecDepth 100000 in
theorem lifted (os : Os) (started : os.Started) (H : Type) (enc : TypeId × Value → H) (F : Stop.Interp) :
    ReturnsInHanded {} Tryz.checked os 4 .any ((Rows.OpenSpec.upto Rows.npmspecWritesSpec).pre6 enc Tryz.prog Tryz.f4 Rows.npmspecWritesUptoRow.domain false) (((Rows.OpenSpec.upto Rows.npmspecWritesSpec).at F).post enc Tryz.prog Tryz.f4 false true false false) := by
  refine returnsInHanded_of_cond (C := Tryz.checked) (s := Rows.OpenSpec.upto Rows.npmspecWritesSpec) (k := Rows.uptoSmall) rfl own started (by kernel_rfl) Tryz.func4
    (OpenSpec.witness (enc := enc) (C := Tryz.checked) (s := Rows.OpenSpec.upto Rows.npmspecWritesSpec) (k := Rows.uptoSmall) rfl false ⟨#[], #[.slice none 0 0, .agg #[.int .i64 0, .string .empty, .string .empty, .string .empty, .slice none 0 0, .slice none 0 0], .agg #[.string .empty, .string .empty, .string .empty, .slice none 0 0, .slice none 0 0]], []⟩ 8 (by kernel_rfl) (by kernel_rfl) (by kernel_rfl)
      (x := ([.nil, .agg [.lit (.int .i64 0), .agg [.lit (.string []), .lit (.string []), .lit (.string []), .nil, .nil]], .agg [.lit (.string []), .lit (.string []), .lit (.string []), .nil, .nil]], [], [])) (by kernel_rfl) rfl (by kernel_rfl)) ?_
  intro W base args ds gs before hval hW _ hk _
  exact contract H enc W base args ds gs before hval hW hk

theorem over : Rows.npmspecWritesUptoRow.holds Tryz.pinned (Rows.OpenSpec.upto Rows.npmspecWritesSpec) :=
  OpenClaim.holds_of_cond 4 Tryz.f4 rfl rfl rfl rfl rfl rfl rfl ⟨rfl, rfl, rfl, rfl, rfl⟩ rfl rfl rfl rfl rfl (by kernel_rfl) Tryz.func4 (by kernel_rfl)
    (of_decide_eq_true (by kernel_rfl)) (by unfold Func.isWrapper; first | (rw [if_pos (by decide +kernel)]; kernel_rfl) | (rw [if_neg (by decide +kernel)]; exact ⟨rfl, rfl⟩))
    (fun os started H enc _ F => lifted os started H enc F)
end NpmspecWritesP

theorem npmspecWrites_holds : Rows.NpmspecWritesUptoSaid := NpmspecWritesP.over
#print axioms npmspecWrites_holds
end Go.Proofs.YtplbdciikkpjoaaGreat
