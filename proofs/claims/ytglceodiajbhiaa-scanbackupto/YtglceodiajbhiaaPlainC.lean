/-
  Plain laws of pieces: where a text is cut at a byte; its lines.
-/
import Derived.Test.YtglceodiajbhiaaPlain
namespace Go.Proofs.Ytglceodiajbhiaa

/-- The pieces of what is left of a text, at place i, where a piece has begun at place a: where each begins and ends. -/
def cutsA (sep : UInt8) : List UInt8 → Nat → Nat → List (Nat × Nat)
  | [], a, i => [(a, i)]
  | c :: r, a, i => if c = sep then (a, i) :: cutsA sep r (i + 1) (i + 1) else cutsA sep r a (i + 1)

/-- All pieces of a text. -/
def cuts (sep : UInt8) (l : List UInt8) : List (Nat × Nat) := cutsA sep l 0 0

theorem cutsA_hit (sep : UInt8) (s : ByteArray) (a i : Nat) (h : i < s.size) (hc : s[i] = sep) :
    cutsA sep (s.data.toList.drop i) a i = (a, i) :: cutsA sep (s.data.toList.drop (i + 1)) (i + 1) (i + 1) := by
  rw [drop_at s i h, cutsA, if_pos hc]
theorem cutsA_miss (sep : UInt8) (s : ByteArray) (a i : Nat) (h : i < s.size) (hc : s[i] ≠ sep) :
    cutsA sep (s.data.toList.drop i) a i = cutsA sep (s.data.toList.drop (i + 1)) a (i + 1) := by
  rw [drop_at s i h, cutsA, if_neg hc]
theorem cutsA_end (sep : UInt8) (s : ByteArray) (a i : Nat) (h : s.size ≤ i) : cutsA sep (s.data.toList.drop i) a i = [(a, i)] := by
  rw [drop_end s i h, cutsA]
theorem cutsA_len (sep : UInt8) : ∀ (l : List UInt8) (a i : Nat), (cutsA sep l a i).length ≤ l.length + 1
  | [], _, _ => by simp [cutsA]
  | c :: r, a, i => by
    unfold cutsA
    split
    · have := cutsA_len sep r (i + 1) (i + 1); simp; omega
    · have := cutsA_len sep r a (i + 1); simp; omega

/-- The cells of the pieces of a text. -/
def cutCells (s : ByteArray) (cs : List (Nat × Nat)) : List Value := cs.flatMap fun p => [.string (s.extract p.1 p.2), .int .i64 (p.1 : Int), .int .i64 0]
theorem cutCells_snoc (s : ByteArray) (cs : List (Nat × Nat)) (a i : Nat) : cutCells s (cs ++ [(a, i)]) = cutCells s cs ++ [.string (s.extract a i), .int .i64 (a : Int), .int .i64 0] := by
  simp [cutCells]
theorem cutCells_len (s : ByteArray) (cs : List (Nat × Nat)) : (cutCells s cs).length = cs.length * 3 := by
  induction cs with
  | nil => rfl
  | cons p r ih => simp [cutCells] at ih ⊢; omega

end Go.Proofs.Ytglceodiajbhiaa
