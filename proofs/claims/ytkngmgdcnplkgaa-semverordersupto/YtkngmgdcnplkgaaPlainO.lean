/-
  Plain functions of versions' order; no program is named here.
-/
import Derived.Test.YtkngmgdcnplkgaaPlainS
namespace Go.Proofs.Ytkngmgdcnplkgaa

/-- A version's parts. -/
structure SemL where
  maj : List UInt8
  min : List UInt8
  pat : List UInt8
  pre : List (List UInt8)
  bld : List (List UInt8)

/-- The order of two identifiers. -/
def oneO (a b : List UInt8) : Int :=
  if digB a then (if digB b then cmpD a b else -1) else if digB b then 1 else Lib.compareBytes a b
/-- The order of two lists of identifiers, one ahead of what goes on with it. -/
def lexO : List (List UInt8) → List (List UInt8) → Int
  | [], [] => 0
  | [], _ :: _ => -1
  | _ :: _, [] => 1
  | x :: a, y :: b => if oneO x y = 0 then lexO a b else oneO x y
/-- The order of two lists of identifiers: none behind any. -/
def preO (a b : List (List UInt8)) : Int :=
  if a = [] ∨ b = [] then (if b.length < a.length then -1 else if a.length < b.length then 1 else 0) else lexO a b
/-- The first of four that is not nought. -/
def or4 (x y z u : Int) : Int := if x ≠ 0 then x else if y ≠ 0 then y else if z ≠ 0 then z else u
/-- The order of two versions. -/
def ordO (a b : SemL) : Int := or4 (cmpD a.maj b.maj) (cmpD a.min b.min) (cmpD a.pat b.pat) (preO a.pre b.pre)
/-- The version of a text's parts. -/
def semOf (l : List UInt8) (c : Cuts) : SemL := ⟨seg l 0 c.a, seg l c.b c.c, seg l c.d c.e, c.pre.map fun x => seg l x.1 x.2, c.bld.map fun x => seg l x.1 x.2⟩
/-- The order of two texts. -/
def cmpT (a b : List UInt8) : Int :=
  match parseR a, parseR b with
  | .ok x, .ok y => ordO (semOf a x) (semOf b y)
  | .ok _, .error _ => 1
  | .error _, .ok _ => -1
  | .error _, .error _ => Lib.compareBytes a b

theorem lexO_drop (a b : List (List UInt8)) (i : Nat) (ha : i < a.length) (hb : i < b.length) : lexO (a.drop i) (b.drop i) = if oneO a[i] b[i] = 0 then lexO (a.drop (i + 1)) (b.drop (i + 1)) else oneO a[i] b[i] := by
  rw [List.drop_eq_getElem_cons ha, List.drop_eq_getElem_cons hb, lexO]
theorem lexO_endb (a b : List (List UInt8)) (i : Nat) (ha : i < a.length) (hb : b.length ≤ i) : lexO (a.drop i) (b.drop i) = 1 := by
  rw [List.drop_eq_getElem_cons ha, List.drop_eq_nil_of_le hb, lexO]
theorem lexO_enda (a b : List (List UInt8)) (i : Nat) (ha : a.length ≤ i) (hb : i < b.length) : lexO (a.drop i) (b.drop i) = -1 := by
  rw [List.drop_eq_getElem_cons hb, List.drop_eq_nil_of_le ha, lexO]
theorem lexO_end (a b : List (List UInt8)) (i : Nat) (ha : a.length ≤ i) (hb : b.length ≤ i) : lexO (a.drop i) (b.drop i) = 0 := by
  rw [List.drop_eq_nil_of_le ha, List.drop_eq_nil_of_le hb, lexO]

end Go.Proofs.Ytkngmgdcnplkgaa
