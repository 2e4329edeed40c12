/-
  What the listed variable gives the walks: the known qualifiers lie in their cells.
-/
import Derived.Test.YtpedljmpobhimaaGreatDoorDn
import Derived.Test.YtpedljmpobhimaaGreatDoorTie
import Derived.ProofKit
import Derived.LaidMore
import Derived.OpenShut
import Derived.ShutString
import Derived.ChangeOld
import Derived.Below
import Derived.SizedLaws
import Derived.Stop.Joined
namespace Go.Proofs.YtpedljmpobhimaaGreatDoor
open Go.ChangeShapes Go.WideShapes Go.ChangeAt Go.WideMaps Go.WideElems Go.RowKit
set_option linter.unusedVariables false

theorem ownK : ownKnob Tryz.prog.godebug = none := by kernel_rfl
theorem gKn : Tryz.prog.globalNamed "dovetail/maven.known" = some 1 := by kernel_rfl
theorem tKn : (Tryz.prog.globals[1]?).map (·.type) = some 146 := by kernel_rfl
theorem c9 : Tryz.prog.cellsOf 9 = 1 := by kernel_rfl

theorem one_known {H : Type} {enc : TypeId × Value → H} {W : World} {base : Nat} {sp : Nat → Bool} {held : Bool} {m i : Nat} {cs : List Value} {x : DataW H × List MemPlace} {k : List UInt8}
    (h : DataW.trod enc Tryz.prog W base sp held m 9 ((cs.drop (i * 1)).take 1) = some x) (hx : DataW.lit (.string k) = x.1) : cs[i]? = some (.string ⟨k.toArray⟩) := by
  obtain ⟨s, e1, e2, _⟩ := DataW.trod_string Tryz.underlying9 h
  rw [e2] at hx
  simp only [DataW.lit.injEq, Lit.string.injEq] at hx
  have hs : s = ⟨k.toArray⟩ := by rw [hx]
  have e3 := congrArg (fun l => l[0]?) e1
  simp only [List.getElem?_take, Nat.mul_one, List.getElem?_drop, Nat.add_zero] at e3
  rw [hs] at e3
  simpa using e3

theorem of_laid {W : World} (h : laidMetH Tryz.prog [("dovetail/maven.known", Rows.laid_dovetail_maven_known)] W) : Kn W := by
  rw [MakeChecks.laidMetH_plain _ _ _ (by kernel_rfl)] at h
  obtain ⟨ps, ⟨g0, t0, cs0, f0, p0, q0, hg0, ht0, hv0, hd0, hr⟩, _⟩ := h
  obtain rfl := Option.some.inj (gKn.symm.trans hg0)
  obtain rfl := Option.some.inj (tKn.symm.trans ht0)
  have hcell := fun i => World.var?_cell hg0 hv0 i
  have hpos : 1 < W.heap.size := by
    rcases Nat.lt_or_ge 1 W.heap.size with h0 | h0; rotate_left
    · simp only [World.var?, hg0, Option.bind_some] at hv0
      rw [Array.getElem?_eq_none (by omega)] at hv0
      cases hv0
    · exact h0
  obtain ⟨xs, m1, rfl, hx1, hlen, hn7, hel⟩ := DataW.trod_array Tryz.underlying146 hd0
  rw [c9] at hel
  simp only [Prod.mk.injEq, Rows.laid_dovetail_maven_known, DataW.agg.injEq] at hx1
  refine ⟨hpos, fun i v hv => ?_⟩
  rw [hcell i]
  match xs, hn7, hx1, hel with
  | [x0, x1, x2, x3, x4, x5, x6], _, hx1, hel =>
    obtain ⟨hx1, _⟩ := hx1
    simp only [List.map_cons, List.map_nil, List.cons.injEq] at hx1
    obtain ⟨y0, y1, y2, y3, y4, y5, y6, _⟩ := hx1
    have z : ∀ j w', cs0.toList[j]? = some w' → cs0[j]? = some w' := fun j w' h => by rw [← Array.getElem?_toList]; exact h
    match i, hv with
    | 0, hv => cases hv; exact z 0 _ (one_known (hel 0 (by decide)) y0)
    | 1, hv => cases hv; exact z 1 _ (one_known (hel 1 (by decide)) y1)
    | 2, hv => cases hv; exact z 2 _ (one_known (hel 2 (by decide)) y2)
    | 3, hv => cases hv; exact z 3 _ (one_known (hel 3 (by decide)) y3)
    | 4, hv => cases hv; exact z 4 _ (one_known (hel 4 (by decide)) y4)
    | 5, hv => cases hv; exact z 5 _ (one_known (hel 5 (by decide)) y5)
    | 6, hv => cases hv; exact z 6 _ (one_known (hel 6 (by decide)) y6)
    | i + 7, hv => simp [knA] at hv

theorem door_met (os : Os) (args : Array Value) : laidMetH Tryz.prog [("dovetail/maven.known", Rows.laid_dovetail_maven_known)] ((World.doorLaid Tryz.prog 400 os).forCall (fun _ _ => 0) ⟨#[], args, []⟩).memory :=
  laidMetH_of_parts3 (fuel := 8) (laidMet_of_run' 8 (by kernel_rfl) (by kernel_rfl)) (by kernel_rfl) (by kernel_rfl)

end Go.Proofs.YtpedljmpobhimaaGreatDoor
