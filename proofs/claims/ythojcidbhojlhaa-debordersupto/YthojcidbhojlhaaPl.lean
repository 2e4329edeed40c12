/-
  Plain functions of Debian's versions: reading, writing, the order of parts; no program is named here.
-/
import Derived.Test.YthojcidbhojlhaaGen
namespace Go.Proofs.Ythojcidbhojlhaa
set_option linter.unusedVariables false

/-- A version's parts. -/
structure DebL where
  ep : List UInt8
  up : List UInt8
  rev : List UInt8

/-- Does a ":" stand there? -/
def hasC (l : List UInt8) : Bool := decide (Lib.indexByte l 58 ≠ -1)
/-- What stands ahead of the first ":". -/
def cutC (l : List UInt8) : List UInt8 := l.takeWhile (fun c => c != 58)
/-- Has a text an epoch? -/
def epB (l : List UInt8) : Bool := hasC l && digB (cutC l)
/-- A text's epoch. -/
def epE (l : List UInt8) : List UInt8 := if epB l then trimL (cutC l) else [48]
/-- The place behind the epoch. -/
def epS (l : List UInt8) : Nat := if epB l then (cutC l).length + 1 else 0
/-- A byte of a version. -/
def okB (colon : Bool) (c : UInt8) : Bool := isC (c.toNat : Int) 5 || (c == 46 || c == 43 || c == 126 || c == 45 || (colon && c == 58))
/-- The first wrong place. -/
def wrongR (l : List UInt8) (st : Nat) : Nat :=
  if st < l.length ∧ isC ((l.getD st 0).toNat : Int) 1 = false then st else st + ((l.drop st).takeWhile (okB (decide (0 < st)))).length
/-- The last place of a byte ahead of n. -/
def lastN (l : List UInt8) (c : UInt8) : Nat → Int
  | 0 => -1
  | n + 1 => if l.getD n 0 = c then (n : Int) else lastN l c n
def lastI (l : List UInt8) (c : UInt8) : Int := lastN l c l.length
/-- What stands ahead of the last byte, and behind it. -/
def cutU (t : List UInt8) (c : UInt8) : List UInt8 := if lastI t c < 0 then t else t.take (lastI t c).toNat
def cutR (t : List UInt8) (c : UInt8) : List UInt8 := if lastI t c < 0 then [] else t.drop ((lastI t c).toNat + 1)
def cutH (t : List UInt8) (c : UInt8) : Bool := decide (0 ≤ lastI t c)
/-- Is it a revision? -/
def revB (r : List UInt8) : Bool := !r.isEmpty && decide (Lib.indexByte r 58 < 0)
/-- A text read. -/
def parseL (l : List UInt8) : Except (Int × Nat) DebL :=
  if 64 < l.length then .error (12, 64)
  else if wrongR l (epS l) < l.length then .error (10, wrongR l (epS l))
  else if (cutU (l.drop (epS l)) 45).isEmpty || (cutH (l.drop (epS l)) 45 && !revB (cutR (l.drop (epS l)) 45)) then .error (11, l.length)
  else .ok ⟨epE l, cutU (l.drop (epS l)) 45, cutR (l.drop (epS l)) 45⟩

/-- A row of bytes that are no digits, the digits behind it, the rest. -/
def wordL (l : List UInt8) : List UInt8 := l.takeWhile (fun c => !isC (c.toNat : Int) 1)
def digsL (l : List UInt8) : List UInt8 := (l.drop (wordL l).length).take (runL 1 (l.drop (wordL l).length))
def restL (l : List UInt8) : List UInt8 := l.drop ((wordL l).length + runL 1 (l.drop (wordL l).length))
/-- A byte's place in the order. -/
def wtB (c : UInt8) : Int := if c = 126 then -1 else if isC (c.toNat : Int) 4 then (c.toNat : Int) else 256 + (c.toNat : Int)
def wtL (l : List UInt8) (i : Nat) : Int := if i < l.length then wtB (l.getD i 0) else 0
def cmpI (x y : Int) : Int := if x < y then -1 else if y < x then 1 else 0
/-- Words, place by place. -/
def wordN : Nat → List UInt8 → List UInt8 → Int
  | 0, _, _ => 0
  | n + 1, x, y => if cmpI (wtL x 0) (wtL y 0) = 0 then wordN n x.tail y.tail else cmpI (wtL x 0) (wtL y 0)
def wordO (x y : List UInt8) : Int := wordN (max x.length y.length) x y
/-- Rows: the word, then the number. -/
def rowO (a b : List UInt8) : Int := if wordO (wordL a) (wordL b) = 0 then cmpD (digsL a) (digsL b) else wordO (wordL a) (wordL b)
/-- Parts, row by row. -/
def partN : Nat → List UInt8 → List UInt8 → Int
  | 0, _, _ => 0
  | n + 1, a, b => if rowO a b = 0 then partN n (restL a) (restL b) else rowO a b
def partO (a b : List UInt8) : Int := partN (a.length + b.length) a b
/-- The first of three that is not nought. -/
def or3 (x y z : Int) : Int := if x ≠ 0 then x else if y ≠ 0 then y else z
/-- The order of versions. -/
def ordO (a b : DebL) : Int := or3 (cmpD a.ep b.ep) (partO a.up b.up) (partO a.rev b.rev)
/-- The order of texts. -/
def cmpT (a b : List UInt8) : Int :=
  match parseL a, parseL b with
  | .ok x, .ok y => ordO x y
  | .ok _, .error _ => 1
  | .error _, .ok _ => -1
  | .error _, .error _ => Lib.compareBytes a b
/-- A version's text. -/
def headL (v : DebL) : List UInt8 := if v.ep ≠ [48] ∨ 0 ≤ Lib.indexByte v.up 58 then v.ep ++ 58 :: v.up else v.up
def writeL (v : DebL) : List UInt8 := headL v ++ if v.rev = [] then [] else 45 :: v.rev

theorem wordL_le (l : List UInt8) : (wordL l).length ≤ l.length := by unfold wordL; exact (List.takeWhile_sublist _).length_le
theorem runs_le (l : List UInt8) : (wordL l).length + runL 1 (l.drop (wordL l).length) ≤ l.length := by
  have h1 := wordL_le l
  have h2 := runL_le 1 (l.drop (wordL l).length)
  rw [List.length_drop] at h2
  omega
theorem restL_len (l : List UInt8) : (restL l).length = l.length - ((wordL l).length + runL 1 (l.drop (wordL l).length)) := by simp [restL]
theorem runs_pos (l : List UInt8) (h : l ≠ []) : 0 < (wordL l).length + runL 1 (l.drop (wordL l).length) := by
  cases l with
  | nil => exact absurd rfl h
  | cons c r =>
    by_cases hc : isC (c.toNat : Int) 1 = true
    · have e : wordL (c :: r) = [] := by simp [wordL, hc]
      rw [e]
      simp [runL, hc]
    · have e : wordL (c :: r) = c :: wordL r := by simp [wordL, hc]
      rw [e]
      simp
      omega
theorem restL_lt (l : List UInt8) (h : l ≠ []) : (restL l).length < l.length := by
  have h1 := runs_pos l h
  have h2 := runs_le l
  rw [restL_len]
  omega
theorem restL_nil : restL [] = [] := rfl
theorem rowO_nil : rowO [] [] = 0 := by decide
theorem partN_nil : ∀ n, partN n [] [] = 0
  | 0 => rfl
  | n + 1 => by rw [partN, if_pos rowO_nil, restL_nil, partN_nil n]
theorem rest_le (l : List UInt8) : (restL l).length ≤ l.length := by rw [restL_len]; omega
/-- More rounds change nothing. -/
theorem partN_more : ∀ (n m : Nat) (a b : List UInt8), a.length + b.length ≤ n → a.length + b.length ≤ m → partN n a b = partN m a b
  | 0, m, a, b, h, _ => by
    have ha : a = [] := List.length_eq_zero_iff.1 (by omega)
    have hb : b = [] := List.length_eq_zero_iff.1 (by omega)
    subst ha hb
    rw [partN_nil, partN_nil]
  | n + 1, 0, a, b, _, h => by
    have ha : a = [] := List.length_eq_zero_iff.1 (by omega)
    have hb : b = [] := List.length_eq_zero_iff.1 (by omega)
    subst ha hb
    rw [partN_nil, partN_nil]
  | n + 1, m + 1, a, b, h1, h2 => by
    rw [partN, partN]
    by_cases h0 : a = [] ∧ b = []
    · obtain ⟨rfl, rfl⟩ := h0
      rw [if_pos rowO_nil, if_pos rowO_nil, restL_nil, partN_nil, partN_nil]
    · have hl : (restL a).length + (restL b).length < a.length + b.length := by
        have r1 := rest_le a
        have r2 := rest_le b
        by_cases ha : a = []
        · have := restL_lt b (fun hb => h0 ⟨ha, hb⟩); omega
        · have := restL_lt a ha; omega
      rw [partN_more n m (restL a) (restL b) (by omega) (by omega)]
theorem partO_step (a b : List UInt8) : partO a b = if rowO a b = 0 then partO (restL a) (restL b) else rowO a b := by
  unfold partO
  have r1 := rest_le a
  have r2 := rest_le b
  rw [partN_more (a.length + b.length) (a.length + b.length + 1) a b (by omega) (by omega), partN]
  rw [partN_more (a.length + b.length) ((restL a).length + (restL b).length) (restL a) (restL b) (by omega) (by omega)]
theorem partO_nil : partO [] [] = 0 := rfl

theorem wtL_tail (l : List UInt8) (i : Nat) : wtL l.tail i = wtL l (i + 1) := by
  unfold wtL
  cases l with
  | nil => simp
  | cons c r => simp
theorem wtL_out (l : List UInt8) (i : Nat) (h : l.length ≤ i) : wtL l i = 0 := by unfold wtL; rw [if_neg (by omega)]
theorem cmpI_self (x : Int) : cmpI x x = 0 := by unfold cmpI; (repeat' split) <;> omega
theorem wordN_nil : ∀ n, wordN n [] [] = 0
  | 0 => rfl
  | n + 1 => by rw [wordN, if_pos (by rw [wtL_out [] 0 (by simp)]; exact cmpI_self 0)]; exact wordN_nil n
theorem wordN_more : ∀ (n m : Nat) (x y : List UInt8), x.length ≤ n → y.length ≤ n → x.length ≤ m → y.length ≤ m → wordN n x y = wordN m x y
  | 0, m, x, y, h1, h2, _, _ => by
    have ha : x = [] := List.length_eq_zero_iff.1 (by omega)
    have hb : y = [] := List.length_eq_zero_iff.1 (by omega)
    subst ha hb
    rw [wordN_nil, wordN_nil]
  | n + 1, 0, x, y, _, _, h1, h2 => by
    have ha : x = [] := List.length_eq_zero_iff.1 (by omega)
    have hb : y = [] := List.length_eq_zero_iff.1 (by omega)
    subst ha hb
    rw [wordN_nil, wordN_nil]
  | n + 1, m + 1, x, y, h1, h2, h3, h4 => by
    rw [wordN, wordN, wordN_more n m x.tail y.tail (by simp; omega) (by simp; omega) (by simp; omega) (by simp; omega)]
theorem wordO_step (x y : List UInt8) : wordO x y = if cmpI (wtL x 0) (wtL y 0) = 0 then wordO x.tail y.tail else cmpI (wtL x 0) (wtL y 0) := by
  unfold wordO
  rw [wordN_more (max x.length y.length) (max x.length y.length + 1) x y (by omega) (by omega) (by omega) (by omega), wordN]
  rw [wordN_more (max x.length y.length) (max x.tail.length y.tail.length) x.tail y.tail (by simp; omega) (by simp; omega) (by simp; omega) (by simp; omega)]
theorem wtL_drop (l : List UInt8) (i j : Nat) : wtL (l.drop i) j = wtL l (i + j) := by
  unfold wtL
  rw [List.length_drop]
  by_cases h : i + j < l.length
  · rw [if_pos (by omega), if_pos h]; simp [List.getD]
  · rw [if_neg (by omega), if_neg h]
theorem wordO_drop (x y : List UInt8) (i : Nat) : wordO (x.drop i) (y.drop i) = if cmpI (wtL x i) (wtL y i) = 0 then wordO (x.drop (i + 1)) (y.drop (i + 1)) else cmpI (wtL x i) (wtL y i) := by
  rw [wordO_step, wtL_drop, wtL_drop]
  simp [List.tail_drop]
theorem wordO_end (x y : List UInt8) (i : Nat) (h1 : x.length ≤ i) (h2 : y.length ≤ i) : wordO (x.drop i) (y.drop i) = 0 := by
  rw [List.drop_eq_nil_of_le h1, List.drop_eq_nil_of_le h2]; rfl

end Go.Proofs.Ythojcidbhojlhaa
