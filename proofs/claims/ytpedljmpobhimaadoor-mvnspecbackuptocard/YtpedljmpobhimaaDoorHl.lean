/-
  Walks: a requirement's text.
-/
import Derived.Test.YtpedljmpobhimaaDoorHk
import Derived.Test.YtpedljmpobhimaaDoorJoin
namespace Go.Proofs.YtpedljmpobhimaaDoor
open Go.RowKit Go.Shelf
set_option linter.unusedVariables false

theorem ofL_app (a b : List UInt8) : ofL a ++ ofL b = ofL (a ++ b) := by
  apply ba_ext
  rw [ByteArray.data_append, Array.toList_append, ofL_data, ofL_data, ofL_data]
theorem lit_ofL (c : UInt8) : (⟨#[c]⟩ : ByteArray) = ofL [c] := rfl

set_option maxRecDepth 100000 in
set_option maxHeartbeats 4000000 in
theorem writeRange_any (m : Mr) (w : World) (hlo : m.lo.length ≤ 10000000) (hhi : m.hi.length ≤ 10000000) :
    Calls Tryd.prog 16 #[mV m] w fun e w' => e = .returned (.string (ofL (wrR m))) ∧ Below w.heap.size w w' := by
  obtain ⟨hl, lo, li, hh, hi, hin⟩ := m
  dsimp only at hlo hhi
  have s1 := ofL_size lo
  have s2 := ofL_size hi
  have b0 := hide (fun o => (Below.refl _ w).alloc (Nat.le_refl _) o)
  have heq : ((ofL lo).toList == (ofL hi).toList) = (lo == hi) := by rw [toL, toL, ofL_data, ofL_data]
  have HW : Hid (∀ t, ofL t = ofL (wrR ⟨hl, lo, li, hh, hi, hin⟩) ↔ ofL t = ofL (wrR ⟨hl, lo, li, hh, hi, hin⟩)) := fun t => Iff.rfl
  generalize hE : (lo == hi) = E at *
  unfold mV wrR
  dsimp only
  rw [hE]
  clear HW hE
  cases hl <;> cases hh <;> cases li <;> cases hin <;> cases E
  all_goals
    go_enter Tryd.func16, Tryd.ntmps16
    go_wp2_with fail
    go_ret
    refine ⟨?_, b0.out _⟩
    simp [lit_ofL, ofL_app]

end Go.Proofs.YtpedljmpobhimaaDoor
