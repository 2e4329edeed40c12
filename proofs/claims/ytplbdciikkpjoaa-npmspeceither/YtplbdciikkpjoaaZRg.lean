/-
  The document's parse: the walk.
-/
import Derived.Test.YtplbdciikkpjoaaZRf
namespace Go.Proofs.Ytplbdciikkpjoaa
open Go.RowKit Go.Shelf
set_option linter.unusedVariables false

theorem five_turn {W W' : World} {B : Nat} {a b c d e : Value} (h : W' = ((((W.setCell ⟨B, 0, none⟩ a).setCell ⟨B, 1, none⟩ b).setCell ⟨B, 2, none⟩ c).setCell ⟨B, 3, none⟩ d).setCell ⟨B, 4, none⟩ e) : Turn B W W' := by
  rw [h]
  exact ((((Turn.set B 0 W a).trans (Turn.set B 1 _ b)).trans (Turn.set B 2 _ c)).trans (Turn.set B 3 _ d)).trans (Turn.set B 4 _ e)

theorem rpost_err {l : List UInt8} {w w' : World} {x : Nat × Int} (h : parseR l = .error (x.2, x.1)) (hb : Below w.heap.size w w') : RPost l w (.returned (.tuple #[semZ, .int .i64 x.2, .int .i64 (x.1 : Int)])) w' := by
  unfold RPost; rw [h]; exact ⟨hb, rfl⟩
theorem rpost_ok {l : List UInt8} {w w' : World} {v : Value} {c : Cuts} (h : parseR l = .ok c) (hb : Below w.heap.size w w') (hv : SemF w.heap.size w' v (semOf l c)) : RPost l w (.returned (.tuple #[v, .int .i64 0, .int .i64 0])) w' := by
  unfold RPost; rw [h]; exact ⟨hb, v, rfl, hv⟩
theorem parse_nums {l : List UInt8} (h : l.length ≤ 64) {y : Int × Nat} (hn : numsR l = .error y) : parseR l = .error y := by
  unfold parseR; rw [if_neg (by omega), hn]
theorem parse_tail {l : List UInt8} (h : l.length ≤ 64) {a b c d e : Nat} (hn : numsR l = .ok (a, b, c, d, e)) : parseR l = match tailR l e with | .error x => .error x | .ok (pre, bld) => .ok ⟨a, b, c, d, e, pre, bld⟩ := by
  unfold parseR; rw [if_neg (by omega), hn]; rfl

end Go.Proofs.Ytplbdciikkpjoaa
