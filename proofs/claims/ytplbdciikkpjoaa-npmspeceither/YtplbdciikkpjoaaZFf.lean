/-
  The document's answer: which versions are fit.
-/
import Derived.Test.YtplbdciikkpjoaaZRh
import Derived.Test.YtplbdciikkpjoaaZPlainV
namespace Go.Proofs.Ytplbdciikkpjoaa
open Go.RowKit Go.Shelf
set_option linter.unusedVariables false

/-- An identifier that may stand. -/
def mayB (p : Bool) (t : List UInt8) : Bool := idB t && !(p && zeroB t)
theorem mayB_pre (ts : List (List UInt8)) : ts.all (mayB true) = ts.all preB := by
  congr 1
theorem mayB_bld (ts : List (List UInt8)) : ts.all (mayB false) = ts.all idB := by
  congr 1
  funext t
  simp [mayB]
theorem all_take (P : List UInt8 → Bool) (ts : List (List UInt8)) (k : Nat) (h : k < ts.length) (h1 : (ts.take k).all P = true) (h2 : P ts[k] = true) : (ts.take (k + 1)).all P = true := by
  rw [List.take_succ_eq_append_getElem h, List.all_append, h1]
  simpa using h2
theorem all_not (P : List UInt8 → Bool) (ts : List (List UInt8)) (k : Nat) (h : k < ts.length) (h2 : P ts[k] = false) : ts.all P = false := by
  rw [List.all_eq_false]
  exact ⟨ts[k], List.getElem_mem h, by simp [h2]⟩

theorem fitW_eq (x : SemL) (hl : lenS x ≤ 1048576) : fitW x = (numB x.maj && numB x.min && numB x.pat && x.pre.all (mayB true) && x.bld.all (mayB false) && decide ((textL x).length ≤ 64)) := by
  rw [mayB_pre, mayB_bld, textL_length]
  unfold fitW
  rw [len_wrap x hl]
  have e : decide ((lenS x : Int) ≤ 64) = decide (lenS x ≤ 64) := by rw [decide_eq_decide]; omega
  rw [e]
  cases numB x.maj <;> cases numB x.min <;> cases numB x.pat <;> cases x.pre.all preB <;> cases x.bld.all idB <;> simp

end Go.Proofs.Ytplbdciikkpjoaa
