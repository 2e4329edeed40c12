/-
  The law's last statement, as a region: its operations, the order in which they are gone through, what they make.
-/
import Derived.Test.YtmpegkcleajhhaaDoorDvc
namespace Go.Proofs.YtmpegkcleajhhaaDoor.RanksAlgebraP
open Go.RowKit Go.Shelf Go
set_option linter.unusedVariables false
set_option maxRecDepth 100000

/-- The operations of a function's statement. -/
def opsAt : Nat → Code → Array Oper
  | 0, .seq (.region _ ops _) _ => ops
  | n + 1, .seq _ b => opsAt n b
  | _, _ => #[]
/-- The order. -/
def order : List (Bool × Nat) := [(true, 0), (true, 1), (true, 2), (true, 4), (true, 5), (true, 6), (false, 3), (false, 7), (false, 8), (true, 9), (true, 10), (true, 11), (true, 12), (true, 14), (true, 15), (true, 16), (false, 13), (false, 17), (false, 18), (true, 19), (true, 20), (true, 21), (true, 22), (true, 23), (true, 24), (true, 25), (true, 28), (true, 29), (true, 30), (true, 31), (true, 33), (false, 26), (false, 27), (false, 32), (false, 34), (false, 35), (true, 36), (true, 37), (true, 38), (true, 39), (true, 40), (true, 41), (true, 42), (true, 45), (true, 46), (true, 47), (true, 48), (true, 50), (false, 43), (false, 44), (false, 49), (false, 51), (false, 52), (true, 53), (true, 54), (true, 55), (true, 56), (true, 57), (true, 58), (true, 59), (true, 62), (true, 63), (true, 64), (true, 65), (true, 67), (true, 68), (true, 69), (false, 60), (false, 61), (false, 66), (false, 70), (false, 71), (false, 72), (true, 73), (true, 74), (true, 75), (true, 76), (true, 77), (true, 78), (true, 79), (true, 82), (true, 83), (true, 84), (true, 85), (true, 87), (true, 88), (true, 89), (false, 80), (false, 81), (false, 86), (false, 90), (false, 91), (false, 92), (true, 93), (true, 94), (true, 95), (true, 96), (true, 97), (true, 98), (false, 99), (false, 100), (false, 101), (true, 102), (true, 103), (true, 104), (true, 105), (true, 106), (true, 107), (true, 108), (true, 111), (false, 109), (false, 110), (false, 112), (false, 113), (true, 114), (true, 115), (true, 116), (true, 117), (true, 118), (true, 119), (true, 122), (true, 123), (true, 124), (true, 126), (true, 127), (false, 120), (false, 121), (false, 125), (false, 128), (false, 129), (false, 130), (true, 131), (true, 132), (true, 133), (true, 134), (true, 135), (true, 136), (true, 139), (true, 140), (true, 141), (true, 143), (true, 144), (false, 137), (false, 138), (false, 142), (false, 145), (false, 146), (false, 147), (true, 148), (true, 149), (true, 150), (true, 151), (true, 153), (true, 154), (true, 155), (true, 156), (false, 152), (false, 157), (false, 158), (false, 159), (true, 160), (true, 161), (true, 162), (true, 163), (true, 164), (true, 167), (false, 165), (false, 166), (false, 168), (true, 169), (true, 170), (false, 171), (true, 172), (true, 173)]
/-- What is known ahead. -/
def start : St := [(1, .set .a), (2, .set .b), (3, .set .c), (4, .box), (9, .fn 19), (10, .fn 21), (11, .notK)]
/-- Slot 8 is true. -/
def isTrue : Option St → Bool
  | some s => (match look s 8 with | some .tt => true | _ => false)
  | Option.none => false
theorem order_len : order.length = 174 := by kernel_rfl
theorem ops_size : (opsAt 3 (Tryd.f5.body.getD .skip)).size = 174 := by kernel_rfl
theorem no_select : Region.noSelect (opsAt 3 (Tryd.f5.body.getD .skip)) = true := by kernel_rfl
theorem run_true : isTrue (runA (opsAt 3 (Tryd.f5.body.getD .skip)) order start) = true := by kernel_rfl
theorem run_out : ∃ s, runA (opsAt 3 (Tryd.f5.body.getD .skip)) order start = some s ∧ look s 8 = some .tt := by
  have h := run_true
  unfold isTrue at h
  split at h
  · rename_i s hs
    split at h
    · rename_i hl; exact ⟨s, hs, hl⟩
    · cases h
  · cases h

end Go.Proofs.YtmpegkcleajhhaaDoor.RanksAlgebraP
