/-
  The plain functions that the walks of this seat answer with (bytes as numbers, texts as lists of bytes), and their laws: no program is named here.
-/
import Derived.WalkKit
import Derived.Lib.Bytealg
namespace Go.Proofs.YtaflflelcdcanaaGreat

/-- Is a byte of a class? -/
def isC (c k : Int) : Bool :=
  if k = 1 then decide (48 ≤ c) && decide (c ≤ 57)
  else if k = 2 then decide (97 ≤ c) && decide (c ≤ 122)
  else if k = 3 then decide (65 ≤ c) && decide (c ≤ 90)
  else if k = 4 then (decide (97 ≤ c) && decide (c ≤ 122)) || (decide (65 ≤ c) && decide (c ≤ 90))
  else if k = 5 then (decide (97 ≤ c) && decide (c ≤ 122)) || (decide (65 ≤ c) && decide (c ≤ 90)) || (decide (48 ≤ c) && decide (c ≤ 57))
  else if k = 6 then decide (c = 32) || decide (c = 9)
  else if k = 7 then decide (c = 32) || decide (c = 9) || decide (c = 10) || decide (c = 13)
  else false

/-- How many bytes of a class a list begins with. -/
def runL (k : Int) : List UInt8 → Nat
  | [] => 0
  | c :: r => if isC (c.toNat : Int) k then runL k r + 1 else 0

theorem runL_le (k : Int) : ∀ l : List UInt8, runL k l ≤ l.length
  | [] => Nat.le_refl _
  | c :: r => by
    unfold runL
    have := runL_le k r
    split <;> simp <;> omega

/-- The end of the bytes of a class, from a place on. -/
def runI (l : List UInt8) (at' k : Int) : Int :=
  if 0 ≤ at' ∧ at' ≤ (l.length : Int) then at' + (runL k (l.drop at'.toNat) : Int) else at'

/-- Digits without noughts ahead. -/
def trimL : List UInt8 → List UInt8
  | [] => [48]
  | c :: r => if c = 48 then trimL r else c :: r

/-- The order of two texts of digits. -/
def cmpD (a b : List UInt8) : Int :=
  if (trimL a).length < (trimL b).length then -1 else if (trimL b).length < (trimL a).length then 1 else Lib.compareBytes (trimL a) (trimL b)

/-- A text out of its bytes. -/
def ofL (l : List UInt8) : ByteArray := ⟨l.toArray⟩
theorem ofL_data (l : List UInt8) : (ofL l).data.toList = l := by simp [ofL]
theorem ofL_size (l : List UInt8) : (ofL l).size = l.length := by simp [ofL, ByteArray.size]
theorem ofL_self (s : ByteArray) : ofL s.data.toList = s := by cases s; simp [ofL]
theorem len_data (s : ByteArray) : s.data.toList.length = s.size := by rw [Array.length_toList]; rfl
theorem ba_ext {a b : ByteArray} (h : a.data.toList = b.data.toList) : a = b := by rw [← ofL_self a, ← ofL_self b, h]

/-- What stands from a place on begins with the byte at that place. -/
theorem drop_at (s : ByteArray) (i : Nat) (h : i < s.size) : s.data.toList.drop i = s[i] :: s.data.toList.drop (i + 1) := by
  rw [List.drop_eq_getElem_cons (by rw [len_data]; exact h)]; rfl
theorem drop_end (s : ByteArray) (i : Nat) (h : s.size ≤ i) : s.data.toList.drop i = [] := List.drop_eq_nil_of_le (by rw [len_data]; exact h)
theorem extract_ofL (s : ByteArray) (i j : Nat) : s.extract i j = ofL ((s.data.toList.take j).drop i) := by
  apply ba_ext
  rw [ofL_data]
  simp [ByteArray.data_extract, List.drop_take, List.extract_eq_take_drop]
theorem extract_end (s : ByteArray) (i : Nat) : s.extract i s.size = ofL (s.data.toList.drop i) := by
  rw [extract_ofL, List.take_of_length_le (by rw [len_data]; exact Nat.le_refl _)]

theorem runL_hit (k : Int) (s : ByteArray) (i : Nat) (h : i < s.size) (hc : isC (s[i].toNat : Int) k = true) : runL k (s.data.toList.drop i) = runL k (s.data.toList.drop (i + 1)) + 1 := by
  rw [drop_at s i h, runL, if_pos hc]
theorem runL_miss (k : Int) (s : ByteArray) (i : Nat) (h : i < s.size) (hc : isC (s[i].toNat : Int) k = false) : runL k (s.data.toList.drop i) = 0 := by
  rw [drop_at s i h, runL, if_neg (by simp [hc])]
theorem runL_end (k : Int) (s : ByteArray) (i : Nat) (h : s.size ≤ i) : runL k (s.data.toList.drop i) = 0 := by
  rw [drop_end s i h, runL]
theorem runI_in (s : ByteArray) (m : Nat) (k : Int) (h : m ≤ s.size) : runI s.data.toList m k = m + (runL k (s.data.toList.drop m) : Int) := by
  unfold runI
  rw [if_pos (by rw [len_data]; omega)]; simp
theorem runI_out (s : ByteArray) (n : Int) (k : Int) (h : ¬ (0 ≤ n ∧ n ≤ (s.size : Int))) : runI s.data.toList n k = n := by
  unfold runI
  rw [if_neg (by rw [len_data]; exact h)]

theorem trimL_hit (s : ByteArray) (i : Nat) (h : i < s.size) (hc : (s[i].toNat : Int) = 48) : trimL (s.data.toList.drop i) = trimL (s.data.toList.drop (i + 1)) := by
  rw [drop_at s i h, trimL, if_pos (UInt8.toNat_inj.1 (by show _ = 48; omega))]
theorem trimL_miss (s : ByteArray) (i : Nat) (h : i < s.size) (hc : (s[i].toNat : Int) ≠ 48) : trimL (s.data.toList.drop i) = s.data.toList.drop i := by
  rw [drop_at s i h, trimL, if_neg (fun e => hc (by rw [e]; rfl))]
theorem trimL_end (s : ByteArray) (i : Nat) (h : s.size ≤ i) : trimL (s.data.toList.drop i) = [48] := by
  rw [drop_end s i h, trimL]
theorem trimL_le (l : List UInt8) : (trimL l).length ≤ l.length + 1 := by
  induction l with
  | nil => simp [trimL]
  | cons c r ih => unfold trimL; split <;> simp <;> omega
theorem trimL_pos (l : List UInt8) : 0 < (trimL l).length := by
  induction l with
  | nil => simp [trimL]
  | cons c r ih =>
    unfold trimL
    split
    · exact ih
    · simp

end Go.Proofs.YtaflflelcdcanaaGreat
