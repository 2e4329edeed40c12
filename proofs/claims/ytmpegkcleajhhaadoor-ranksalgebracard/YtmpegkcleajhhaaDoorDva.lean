/-
  A region's operations gone through by a plain interpreter: sets of ranks as expressions.
-/
import Derived.Test.YtmpegkcleajhhaaDoorDr
import Derived.Deep.RegionHeld3
namespace Go.Proofs.YtmpegkcleajhhaaDoor.RanksAlgebraP
open Go.RowKit Go.Shelf Go
set_option linter.unusedVariables false

/-- A set of ranks, as it is made out of three. -/
inductive SE where
  | a | b | c | all
  | u (x y : SE) | m (x y : SE) | d (x y : SE) | no (x : SE)
def SE.den (fa fb fc i : Bool) : SE → Bool
  | .a => fa
  | .b => fb
  | .c => fc
  | .all => i
  | .u x y => x.den fa fb fc i || y.den fa fb fc i
  | .m x y => x.den fa fb fc i && y.den fa fb fc i
  | .d x y => x.den fa fb fc i && !y.den fa fb fc i
  | .no x => i && !x.den fa fb fc i
/-- Two are alike, whatever the three are. -/
def SE.taut (x y : SE) : Bool := [true, false].all fun fa => [true, false].all fun fb => [true, false].all fun fc => [true, false].all fun i => (fa && !i) || (fb && !i) || (fc && !i) || x.den fa fb fc i == y.den fa fb fc i
theorem SE.taut_out {x y : SE} (h : x.taut y = true) (fa fb fc i : Bool) (ha : fa = true → i = true) (hb : fb = true → i = true) (hc : fc = true → i = true) : x.den fa fb fc i = y.den fa fb fc i := by
  have hm : ∀ z : Bool, z ∈ [true, false] := fun z => by cases z <;> simp
  have h1 := List.all_eq_true.1 (List.all_eq_true.1 (List.all_eq_true.1 (List.all_eq_true.1 h fa (hm fa)) fb (hm fb)) fc (hm fc)) i (hm i)
  have e1 : (fa && !i) = false := by cases fa <;> cases i <;> simp_all
  have e2 : (fb && !i) = false := by cases fb <;> cases i <;> simp_all
  have e3 : (fc && !i) = false := by cases fc <;> cases i <;> simp_all
  rw [e1, e2, e3] at h1
  simpa using h1
/-- One is empty, whatever the three are. -/
def SE.none (x : SE) : Bool := x.taut (.d .all .all)

/-- What a slot holds. -/
inductive AV where
  | fn (k : Nat) | notK | set (e : SE) | tt | n | box | zero

/-- So much of a slot's value is known. -/
def Rep (n : Int) (B : Nat) (fa fb fc : Int → Bool) (W : World) : AV → Value → Prop
  | .fn k, v => v = .func (.func k) #[] #[]
  | .notK, v => v = .func (.func 38) #[] #[.pointer (some ⟨B, 0, Option.none⟩)]
  | .set e, v => SetV n W v (fun r => e.den (fa r) (fb r) (fc r) (inR n r))
  | .tt, v => v = .bool true
  | .n, v => v = .int .i64 n
  | .box, v => v = .pointer (some ⟨B, 0, Option.none⟩)
  | .zero, v => v = .int .i64 0

theorem Rep.below {n : Int} {B : Nat} {fa fb fc : Int → Bool} {W W' : World} {x : AV} {v : Value} (h : Rep n B fa fb fc W x v) (hb : Below W.heap.size W W') : Rep n B fa fb fc W' x v := by
  cases x <;> first | exact h | exact SetV.below h hb

abbrev St := List (Nat × AV)
def look : St → Nat → Option AV
  | [], _ => Option.none
  | (j, x) :: l, d => if j = d then some x else look l d

/-- The frame holds what is known, and the world the box. -/
structure Inv (n : Int) (B : Nat) (fa fb fc : Int → Bool) (w0 : World) (σ : St) (a : Act) (w : World) : Prop where
  size : a.tmps.size = 203
  defers : a.defers = []
  slots : ∀ d x, look σ d = some x → ∃ v, a.tmps[d]? = some v ∧ Rep n B fa fb fc w x v
  below : Below w0.heap.size w0 w
  box : Boxed w B 3 (.int .i64 n)

theorem Inv.put {n : Int} {B : Nat} {fa fb fc : Int → Bool} {w0 : World} {σ : St} {a : Act} {w w' : World} (h : Inv n B fa fb fc w0 σ a w) (hb : Below w.heap.size w w') {d : Nat} (hd : d < 203) {x : AV} {v : Value} (hx : Rep n B fa fb fc w' x v) :
    Inv n B fa fb fc w0 ((d, x) :: σ) (a.put (some d) v) w' where
  size := by show (a.tmps.setIfInBounds d v).size = 203; rw [Array.size_setIfInBounds]; exact h.size
  defers := h.defers
  slots := fun e y hy => by
    show ∃ u, (a.tmps.setIfInBounds d v)[e]? = some u ∧ _
    unfold look at hy
    by_cases hde : d = e
    · rw [if_pos hde] at hy
      cases hy
      subst hde
      exact ⟨v, Array.getElem?_setIfInBounds_self_of_lt (by rw [h.size]; exact hd), hx⟩
    · rw [if_neg hde] at hy
      obtain ⟨u, hu, hr⟩ := h.slots e y hy
      exact ⟨u, by rw [Array.getElem?_setIfInBounds_ne hde]; exact hu, hr.below hb⟩
  below := h.below.trans (hb.mono h.below.size)
  box := boxed_below h.box hb

theorem Inv.eval {n : Int} {B : Nat} {fa fb fc : Int → Bool} {w0 : World} {σ : St} {a : Act} {w : World} (h : Inv n B fa fb fc w0 σ a w) {d : Nat} {x : AV} (hx : look σ d = some x) : Rep n B fa fb fc w x (a.eval (.tmp d)) := by
  obtain ⟨v, hv, hr⟩ := h.slots d x hx
  have : a.eval (.tmp d) = v := by show a.tmps.getD d undef = v; rw [Array.getD_eq_getD_getElem?, hv]; rfl
  rw [this]; exact hr

/-- What an operand is. -/
def argA (σ : St) : Operand → Option AV
  | .tmp j => look σ j
  | .func k => some (.fn k)
  | _ => Option.none
theorem Inv.arg {n : Int} {B : Nat} {fa fb fc : Int → Bool} {w0 : World} {σ : St} {a : Act} {w : World} (h : Inv n B fa fb fc w0 σ a w) {o : Operand} {x : AV} (hx : argA σ o = some x) : Rep n B fa fb fc w x (a.eval o) := by
  cases o with
  | tmp j => exact h.eval hx
  | func k => cases hx; rfl
  | const v => cases hx
  | global g => cases hx

/-- What a call makes. -/
def callA : AV → List AV → Option AV
  | .fn 19, [.set x, .set y] => some (.set (.u x y))
  | .fn 21, [.set x, .set y] => some (.set (.m x y))
  | .fn 23, [.set x, .set y] => some (.set (.d x y))
  | .notK, [.set x] => some (.set (.no x))
  | .fn 14, [.n] => some (.set .all)
  | .fn 9, [.set x, .set y] => if x.taut y then some .tt else Option.none
  | .fn 16, [] => some .tt
  | _, _ => Option.none

/-- What an operation that is no call of a Go function yields. -/
def opA (σ : St) : Op → Option AV
  | .move x => argA σ x
  | .assign x => argA σ x
  | .load 3 x => match argA σ x with | some .box => some .n | _ => Option.none
  | .pick c x _ => match argA σ c with | some .tt => argA σ x | _ => Option.none
  | .binOp .eql 3 x (.const (.int .i64 0)) 3 => match argA σ x with | some .zero => some .tt | _ => Option.none
  | _ => Option.none

def guardA (ops : Array Oper) (σ : St) (o : Oper) : Bool :=
  match o.guard with
  | Option.none => true
  | some (j, want) => want && match (ops[j]?).bind (·.dst) with | some d => (match look σ d with | some .tt => true | _ => false) | Option.none => false

theorem guard_out {n : Int} {B : Nat} {fa fb fc : Int → Bool} {w0 : World} {ops : Array Oper} {σ : St} {o : Oper} {a : Act} {w : World} (hi : Inv n B fa fb fc w0 σ a w) (h : guardA ops σ o = true) : Region.wanted o (yielded ops a.tmps) = true := by
  unfold guardA at h
  unfold Region.wanted
  split at h
  · rename_i hg; rw [hg]
  · rename_i j want hg
    rw [hg]
    rw [Bool.and_eq_true] at h
    obtain ⟨h1, h2⟩ := h
    subst h1
    split at h2
    · rename_i d hd
      split at h2
      · rename_i hl
        obtain ⟨v, hv, hr⟩ := hi.slots d _ hl
        cases hr
        show (yielded ops a.tmps j == some true) = true
        unfold yielded
        rw [hd]
        show ((match a.tmps[d]? with | some (.bool b) => some b | _ => Option.none) == some true) = true
        rw [hv]; rfl
      · cases h2
    · cases h2

end Go.Proofs.YtmpegkcleajhhaaDoor.RanksAlgebraP
