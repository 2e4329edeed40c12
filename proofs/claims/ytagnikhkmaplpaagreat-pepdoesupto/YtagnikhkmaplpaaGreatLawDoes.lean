/-
  Proved: for any two versions that hold together at most 1,048,576 values and letters, Fit, Text, Order and Pre answer as the document's do, Public is the version without its local part, and what is changed in it stays there: PepDoes returns true and leaves its arguments as they were. The condition: the bulk of the arguments is at most 1048576.
-/
import Derived.Test.YtagnikhkmaplpaaGreatZj
import Derived.ProofKit
import Derived.OpenShut
import Derived.ShutString
import Derived.ChangeOld
import Derived.Below
import Derived.JoinedCond
import Derived.SliceStrings
import Derived.Deep.Fields
namespace Go.Proofs.YtagnikhkmaplpaaGreat
namespace PepDoesP
open Go.ChangeShapes Go.WideShapes Go.ChangeAt Go.RowKit
open Go.ChangeMaps (open_string shut_string)
set_option linter.unusedVariables false

theorem own : ownKnob Tryz.prog.godebug = none := by kernel_rfl
theorem laidOut : laidOutB Tryz.prog = true := by kernel_rfl

theorem open_cap {H : Type} {enc : TypeId × Value → H} {W : World} {fuel : Nat} {c : Value} {y : DataW H × List MemPlace} (h : DataW.trod enc Tryz.prog W 0 (fun _ => true) true fuel 22 [c] = some y) : Cap c ∧ ∀ n k, c = .slice none n k → k = 0 := by
  rcases open_strings Tryz.underlying22 Tryz.underlying9 Tryz.cells9 h with ⟨hcs, _⟩ | ⟨a, len, cap, ss, hcs, _, hl, _, _, _, _, _⟩
  · obtain rfl : c = .slice none 0 0 := by simpa using hcs
    exact ⟨cap_nil, fun n k h => by cases h; rfl⟩
  · obtain rfl : c = .slice (some a) len cap := by simpa using hcs
    exact ⟨by rintro a' n' c' h'; cases h'; exact hl, fun n k h => by cases h⟩
set_option maxRecDepth 100000 in
theorem open_caps {H : Type} {enc : TypeId × Value → H} {W : World} {base : Nat} {v : Value} {d : DataW H} {p : List MemPlace} (hok : Value.okWide Tryz.prog W .any base 24 v)
    (h : ∃ m, DataW.trod enc Tryz.prog W 0 (fun _ => true) true m 24 v.cells.toList = some (d, p)) : ∀ c0 c1 c2 c3 c4 c5 c6 c7 c8, v = .agg #[c0, c1, c2, c3, c4, c5, c6, c7, c8] → (Cap c1 ∧ ∀ n k, c1 = .slice none n k → k = 0) ∧ (Cap c8 ∧ ∀ n k, c8 = .slice none n k → k = 0) := by
  rintro c0 c1 c2 c3 c4 c5 c6 c7 c8 rfl
  obtain ⟨m, hm⟩ := h
  obtain ⟨xs, n, _, hx, _, hxl, hf⟩ := DataW.trod_struct Tryz.underlying24 hm
  obtain ⟨y0, y1, y2, y3, y4, y5, y6, y7, y8, rfl⟩ : ∃ y0 y1 y2 y3 y4 y5 y6 y7 y8, xs = [y0, y1, y2, y3, y4, y5, y6, y7, y8] := by
    match xs, hxl with
    | [y0, y1, y2, y3, y4, y5, y6, y7, y8], _ => exact ⟨y0, y1, y2, y3, y4, y5, y6, y7, y8, rfl⟩
  have e4 := Tryz.cells4
  have e5 := Tryz.cells5
  have e9 := Tryz.cells9
  have e23 := Tryz.cells22
  have f1 := hf 1 _ rfl
  have f8 := hf 8 _ rfl
  simp only [Value.cells] at f1 f8
  exact ⟨open_cap (f1 : DataW.trod enc Tryz.prog W 0 _ true n 22 [c1] = some y1), open_cap (f8 : DataW.trod enc Tryz.prog W 0 _ true n 22 [c8] = some y8)⟩
theorem short {H : Type} {d0 d1 : DataW H} (hk : Rows.uptoSmall H [d0, d1] = true) : Rows.uptoBulk d0 ≤ 1048576 ∧ Rows.uptoBulk d1 ≤ 1048576 := by
  have h : Rows.uptoBulkAll [d0, d1] ≤ 1048576 := of_decide_eq_true hk
  simp only [Rows.uptoBulkAll] at h
  omega

set_option maxRecDepth 100000 in
theorem contract (H : Type) (enc : TypeId × Value → H) (W : World) (base : Nat) (args : Array Value) (ds gs : List (DataW H)) (before : List MemPlace)
    (hval : ∀ (j : Nat) t v, Tryz.f4.params[j]? = some t → args[j]? = some v → Value.okWide Tryz.prog W .any base t v)
    (hW : DataW.Whole enc Tryz.prog Tryz.f4.params.toList Rows.pepDoesSpec.vars false W args.toList ds gs before) (hk : Rows.uptoSmall H (ds ++ gs) = true) :
    Calls Tryz.prog 4 args W fun e W' => ∃ v, e = .returned v ∧ Rows.pepDoesSpec.post enc Tryz.prog Tryz.f4 false true false false W args v W' := by
  have hW' := hW
  obtain ⟨p, q, hA0, hV, rfl, hfz, hnd⟩ := hW
  have hA : DataW.TrodAll enc Tryz.prog W 0 (fun _ => true) true Tryz.f4.params.toList args.toList ds p := hA0
  rw [Tryz.params4] at hA hval
  obtain ⟨v0, vs0, d0, ds0, p0, q0, hargs, rfl, rfl, h0, r0⟩ := trodAll_cons hA
  obtain ⟨v1, vs1, d1, ds1, p1, q1, rfl, rfl, rfl, h1, r1⟩ := trodAll_cons r0
  obtain ⟨rfl, rfl, rfl⟩ := trodAll_nil r1
  obtain rfl : args = #[v0, v1] := by cases args; simp_all
  obtain ⟨rfl, rfl⟩ := trodVars_none hV
  have k0 := h0
  have k1 := h1
  have lt0 : ∀ x ∈ p0, x.block < W.heap.size := by obtain ⟨m, hm⟩ := k0; exact DataW.trod_lt m _ _ _ hm
  have lt1 : ∀ x ∈ p1, x.block < W.heap.size := by obtain ⟨m, hm⟩ := k1; exact DataW.trod_lt m _ _ _ hm
  have hcap := open_caps (hval 0 24 v0 rfl rfl) h0
  obtain ⟨x, r, q, c, d, rfl, rr, ll, lx⟩ := open_pep (hval 0 24 v0 rfl rfl) h0
  obtain ⟨y, r2, q2, c2, d2, rfl, rr2, ll2, ly⟩ := open_pep (hval 1 24 v1 rfl rfl) h1
  obtain ⟨⟨_, n1⟩, ⟨_, n2⟩⟩ := hcap _ _ _ _ _ _ _ _ _ rfl
  clear hA0
  refine (does_walk x y r r2 q q2 c c2 d d2 W rr rr2 ll ll2 (Nat.le_trans lx (short hk).1) (Nat.le_trans ly (short hk).2) (by rintro rfl; exact n1 _ _ rfl) (by rintro rfl; exact n2 _ _ rfl)).mono fun e W' ⟨he, bel⟩ => ?_
  subst he
  exact ⟨_, rfl, _, _, _, [], _, [], hW', trodAll_mk1 (shut_bool Tryz.underlying4 _), (trodAll_cons_mk (Below.trod laidOut (by kernel_rfl) (of_decide_eq_true (by kernel_rfl)) k0 bel lt0) (trodAll_cons_mk (Below.trod laidOut (by kernel_rfl) (of_decide_eq_true (by kernel_rfl)) k1 bel lt1) trodAll_mk0)), rfl, bel.frame _, fun h => by cases h⟩

set_option maxRecDepth 100000 in
theorem lifted (os : Os) (started : os.Started) (H : Type) (enc : TypeId × Value → H) (F : Stop.Interp) :
    ReturnsInHanded {} Tryz.checked os 4 .any ((Rows.OpenSpec.upto Rows.pepDoesSpec).pre6 enc Tryz.prog Tryz.f4 Rows.pepDoesUptoRow.domain false) (((Rows.OpenSpec.upto Rows.pepDoesSpec).at F).post enc Tryz.prog Tryz.f4 false true false false) := by
  refine returnsInHanded_of_cond (C := Tryz.checked) (s := Rows.OpenSpec.upto Rows.pepDoesSpec) (k := Rows.uptoSmall) rfl own started (by kernel_rfl) Tryz.func4
    (OpenSpec.witness (enc := enc) (C := Tryz.checked) (s := Rows.OpenSpec.upto Rows.pepDoesSpec) (k := Rows.uptoSmall) rfl false ⟨#[], #[.agg #[.string .empty, .slice none 0 0, .int .u8 0, .string .empty, .bool false, .string .empty, .bool false, .string .empty, .slice none 0 0], .agg #[.string .empty, .slice none 0 0, .int .u8 0, .string .empty, .bool false, .string .empty, .bool false, .string .empty, .slice none 0 0]], []⟩ 8 (by kernel_rfl) (by kernel_rfl) (by kernel_rfl)
      (x := ([.agg [.lit (.string []), .nil, .lit (.int .u8 0), .lit (.string []), .lit (.bool false), .lit (.string []), .lit (.bool false), .lit (.string []), .nil], .agg [.lit (.string []), .nil, .lit (.int .u8 0), .lit (.string []), .lit (.bool false), .lit (.string []), .lit (.bool false), .lit (.string []), .nil]], [], [])) (by kernel_rfl) rfl (by kernel_rfl)) ?_
  intro W base args ds gs before hval hW _ hk _
  exact contract H enc W base args ds gs before hval hW hk

theorem over : Rows.pepDoesUptoRow.holds Tryz.pinned (Rows.OpenSpec.upto Rows.pepDoesSpec) :=
  OpenClaim.holds_of_cond 4 Tryz.f4 rfl rfl rfl rfl rfl rfl rfl ⟨rfl, rfl, rfl, rfl, rfl⟩ rfl rfl rfl rfl rfl (by kernel_rfl) Tryz.func4 (by kernel_rfl)
    (of_decide_eq_true (by kernel_rfl)) (by unfold Func.isWrapper; first | (rw [if_pos (by decide +kernel)]; kernel_rfl) | (rw [if_neg (by decide +kernel)]; exact ⟨rfl, rfl⟩))
    (fun os started H enc _ F => lifted os started H enc F)
end PepDoesP

theorem pepDoes_holds : Rows.PepDoesUptoSaid := PepDoesP.over
#print axioms pepDoes_holds
end Go.Proofs.YtagnikhkmaplpaaGreat
