/-
  A version that came in, opened: its parts, and how long they are.
-/
import Derived.Test.YthojcidbhojlhaaDv
import Derived.ProofKit
import Derived.OpenShut
import Derived.ShutString
import Derived.ChangeOld
import Derived.Below
import Derived.SizedLaws
import Derived.Deep.Fields
namespace Go.Proofs.Ythojcidbhojlhaa
open Go.ChangeShapes Go.WideShapes Go.ChangeAt Go.RowKit
set_option linter.unusedVariables false

theorem Try.cells9 : Try.prog.cellsOf 9 = 1 := by kernel_rfl
theorem Try.cells23 : Try.prog.cellsOf 23 = 3 := by kernel_rfl

/-- A version as data. -/
def verD {H : Type} (v : DebL) : DataW H := .agg [.lit (.string v.ep), .lit (.string v.up), .lit (.string v.rev)]

set_option maxRecDepth 100000 in
theorem open_ver {H : Type} {enc : TypeId × Value → H} {W : World} {base : Nat} {v : Value} {d : DataW H} {p : List MemPlace} (hok : Value.okWide Try.prog W .any base 23 v)
    (h : ∃ m, DataW.trod enc Try.prog W 0 (fun _ => true) true m 23 v.cells.toList = some (d, p)) : ∃ x : DebL, v = verV x ∧ d = verD x := by
  obtain ⟨m, hm⟩ := h
  obtain ⟨cs, rfl, hsz⟩ := okWide_struct Try.underlying23 hok
  rw [Try.cells23] at hsz
  obtain ⟨xs, n, _, hx, _, hxl, hf⟩ := DataW.trod_struct Try.underlying23 hm
  obtain ⟨c0, c1, c2, rfl⟩ : ∃ c0 c1 c2, cs = #[c0, c1, c2] := by
    rcases cs with ⟨l⟩
    match l, hsz with
    | [c0, c1, c2], _ => exact ⟨c0, c1, c2, rfl⟩
  obtain ⟨y0, y1, y2, rfl⟩ : ∃ y0 y1 y2, xs = [y0, y1, y2] := by
    match xs, hxl with
    | [y0, y1, y2], _ => exact ⟨y0, y1, y2, rfl⟩
  have e9 := Try.cells9
  have f0 := hf 0 _ rfl
  have f1 := hf 1 _ rfl
  have f2 := hf 2 _ rfl
  simp only [Value.cells] at f0 f1 f2
  obtain ⟨s0, g0, hy0, _⟩ := DataW.trod_string (cs := [c0]) Try.underlying9 (f0 : DataW.trod enc Try.prog W 0 _ true n 9 [c0] = some y0)
  obtain ⟨s1, g1, hy1, _⟩ := DataW.trod_string (cs := [c1]) Try.underlying9 (f1 : DataW.trod enc Try.prog W 0 _ true n 9 [c1] = some y1)
  obtain ⟨s2, g2, hy2, _⟩ := DataW.trod_string (cs := [c2]) Try.underlying9 (f2 : DataW.trod enc Try.prog W 0 _ true n 9 [c2] = some y2)
  obtain rfl : c0 = .string s0 := by simpa using g0
  obtain rfl : c1 = .string s1 := by simpa using g1
  obtain rfl : c2 = .string s2 := by simpa using g2
  subst hy0 hy1 hy2
  refine ⟨⟨s0.data.toList, s1.data.toList, s2.data.toList⟩, by simp only [verV, ofL_self], ?_⟩
  cases hx
  rfl

theorem sized_ver {H : Type} {ts : List TypeId} {ds : List (DataW H)} (h : (DataW.weightsEach Try.prog ts ds).all (· ≤ reachBytes) = true) {j : Nat} {v : DebL} (ht : ts[j]? = some 23) (hd : ds[j]? = some (verD v)) : Sz v := by
  have hw : (verD v : DataW H).weights Try.prog 23 = [v.ep.length, v.up.length, v.rev.length] := by
    simp [verD, DataW.weights, Try.underlying23, DataW.weightsEach]
  have hm := DataW.weights_mem_each (P := Try.prog) ht hd
  rw [hw] at hm
  have a0 := List.all_eq_true.1 h _ (hm v.ep.length (by simp))
  have a1 := List.all_eq_true.1 h _ (hm v.up.length (by simp))
  have a2 := List.all_eq_true.1 h _ (hm v.rev.length (by simp))
  exact ⟨of_decide_eq_true a0, of_decide_eq_true a1, of_decide_eq_true a2⟩

theorem laidOut : laidOutB Try.prog = true := by kernel_rfl

end Go.Proofs.Ythojcidbhojlhaa
