/-
  Plain laws of lines.
-/
import Derived.Test.YtglceodiajbhiaaPlainC
namespace Go.Proofs.Ytglceodiajbhiaa

/-- A line's end, without the byte 13 ahead of it. -/
def crEnd (l : List UInt8) (a b : Nat) : Nat := if a < b ∧ l.getD (b - 1) 0 = 13 then b - 1 else b

/-- Lines out of pieces: where each begins and ends, and its number; none begins at the text's end. -/
def lns (l : List UInt8) (n : Nat) : List (Nat × Nat) → Nat → List (Nat × Nat × Nat)
  | [], _ => []
  | (a, b) :: r, k => if a = n then [] else (a, crEnd l a b, k) :: lns l n r (k + 1)

/-- A text's lines. -/
def linesL (l : List UInt8) : List (Nat × Nat × Nat) := lns l l.length (cuts 10 l) 1

def lnCells (s : ByteArray) (ls : List (Nat × Nat × Nat)) : List Value := ls.flatMap fun p => [.string (s.extract p.1 p.2.1), .int .i64 (p.1 : Int), .int .i64 (p.2.2 : Int)]
theorem lnCells_snoc (s : ByteArray) (ls : List (Nat × Nat × Nat)) (a z k : Nat) : lnCells s (ls ++ [(a, z, k)]) = lnCells s ls ++ [.string (s.extract a z), .int .i64 (a : Int), .int .i64 (k : Int)] := by
  simp [lnCells]

theorem lns_mid (l : List UInt8) (n a b k : Nat) (r : List (Nat × Nat)) (h : a ≠ n) : lns l n ((a, b) :: r) k = (a, crEnd l a b, k) :: lns l n r (k + 1) := by
  rw [lns, if_neg h]
theorem lns_stop (l : List UInt8) (n b k : Nat) (r : List (Nat × Nat)) : lns l n ((n, b) :: r) k = [] := by
  rw [lns, if_pos rfl]

end Go.Proofs.Ytglceodiajbhiaa
