/-
  Plain functions of RPM's versions: reading, writing, the order of segments; no program is named here.
-/
import Derived.Test.YtmcabgjcppnihaaGen
namespace Go.Proofs.Ytmcabgjcppnihaa
set_option linter.unusedVariables false

/-- A version's parts. -/
structure RpmL where
  ep : List UInt8
  ver : List UInt8
  rel : List UInt8
  has : Bool

/-- A byte of a version. -/
def okV (c : UInt8) : Bool := isC (c.toNat : Int) 5 || (c == 46 || c == 95 || c == 43 || c == 126 || c == 94)
/-- How many bytes of a version a list begins with. -/
def twV (l : List UInt8) : Nat := (l.takeWhile okV).length
/-- The end of the bytes of a version, from a place on. -/
def endR (l : List UInt8) (a : Nat) : Nat := a + twV (l.drop a)
/-- Has a text an epoch? -/
def epB (l : List UInt8) : Bool := decide (0 < runL 1 l) && atB l (runL 1 l) 58
/-- A text's epoch. -/
def epE (l : List UInt8) : List UInt8 := if epB l then trimL (l.take (runL 1 l)) else [48]
/-- The place behind the epoch. -/
def epS (l : List UInt8) : Nat := if epB l then runL 1 l + 1 else 0
/-- The end of the version. -/
def verE (l : List UInt8) : Nat := endR l (epS l)
/-- The end of the release. -/
def relE (l : List UInt8) : Nat := endR l (verE l + 1)
/-- Does a release follow? -/
def relB (l : List UInt8) : Bool := decide (epS l < verE l) && atB l (verE l) 45
/-- What is told behind the last part. -/
def tailL (n st en : Nat) (v : RpmL) : Except (Int × Nat) RpmL := if en < n then .error (10, en) else if en = st then .error (11, en) else .ok v
/-- A text read. -/
def parseL (l : List UInt8) : Except (Int × Nat) RpmL :=
  if 64 < l.length then .error (12, 64)
  else if relB l then tailL l.length (verE l + 1) (relE l) ⟨epE l, seg l (epS l) (verE l), seg l (verE l + 1) (relE l), true⟩
  else tailL l.length (epS l) (verE l) ⟨epE l, seg l (epS l) (verE l), [], false⟩

/-- What a segment with a byte is made of. -/
def kindB (c : UInt8) : Int := if c = 126 then 0 else if c = 94 then 2 else if isC (c.toNat : Int) 4 then 3 else if isC (c.toNat : Int) 1 then 4 else 1
/-- How many bytes are passed over. -/
def skN (l : List UInt8) : Nat := (l.takeWhile (fun c => kindB c == 1)).length
def skL (l : List UInt8) : List UInt8 := l.drop (skN l)
/-- The first segment's kind. -/
def knL (l : List UInt8) : Int := match skL l with
  | [] => 1
  | c :: _ => kindB c
/-- Of a kind whose bytes go together. -/
def joinB (k : Int) : Bool := k == 3 || k == 4
/-- How many bytes of a kind a list begins with. -/
def knN (k : Int) (l : List UInt8) : Nat := (l.takeWhile (fun d => kindB d == k)).length
/-- The first segment's length. -/
def tkN (l : List UInt8) : Nat := match skL l with
  | [] => 0
  | c :: r => 1 + if joinB (kindB c) then knN (kindB c) r else 0
def txL (l : List UInt8) : List UInt8 := (skL l).take (tkN l)
def restL (l : List UInt8) : List UInt8 := (skL l).drop (tkN l)
def cmpI (x y : Int) : Int := if x < y then -1 else if y < x then 1 else 0
/-- Segments: the kind, then the text. -/
def rowO (a b : List UInt8) : Int := if knL a = knL b then (if knL a = 4 then cmpD (txL a) (txL b) else Lib.compareBytes (txL a) (txL b)) else cmpI (knL a) (knL b)
/-- Texts, segment by segment. -/
def partN : Nat → List UInt8 → List UInt8 → Int
  | 0, _, _ => 0
  | n + 1, a, b => if rowO a b = 0 then partN n (restL a) (restL b) else rowO a b
def partO (a b : List UInt8) : Int := partN (a.length + b.length) a b
/-- The order of releases. -/
def relO (a b : RpmL) : Int := if a.has = b.has then partO a.rel b.rel else if a.has then 1 else -1
/-- The first of three that is not nought. -/
def or3 (x y z : Int) : Int := if x ≠ 0 then x else if y ≠ 0 then y else z
/-- The order of versions. -/
def ordO (a b : RpmL) : Int := or3 (cmpD a.ep b.ep) (partO a.ver b.ver) (relO a b)
/-- The order of texts. -/
def cmpT (a b : List UInt8) : Int :=
  match parseL a, parseL b with
  | .ok x, .ok y => ordO x y
  | .ok _, .error _ => 1
  | .error _, .ok _ => -1
  | .error _, .error _ => 0
/-- A version's text. -/
def headL (v : RpmL) : List UInt8 := if v.ep = [48] then v.ver else v.ep ++ 58 :: v.ver
def writeL (v : RpmL) : List UInt8 := headL v ++ if v.has then 45 :: v.rel else []

theorem twV_le (l : List UInt8) : twV l ≤ l.length := by unfold twV; exact (List.takeWhile_sublist _).length_le
theorem endR_le (l : List UInt8) (a : Nat) (h : a ≤ l.length) : endR l a ≤ l.length := by
  have := twV_le (l.drop a)
  rw [List.length_drop] at this
  unfold endR; omega
theorem endR_ge (l : List UInt8) (a : Nat) : a ≤ endR l a := Nat.le_add_right _ _
theorem atB_lt {l : List UInt8} {a : Nat} {c : UInt8} (h : atB l a c = true) : a < l.length := (List.getElem?_eq_some_iff.1 ((atB_iff l a c).1 h)).1
theorem epS_le (l : List UInt8) : epS l ≤ l.length := by
  unfold epS
  split
  · rename_i h
    unfold epB at h
    rw [Bool.and_eq_true] at h
    exact atB_lt h.2
  · omega
theorem verE_le (l : List UInt8) : verE l ≤ l.length := endR_le l _ (epS_le l)
theorem relB_lt {l : List UInt8} (h : relB l = true) : verE l < l.length := by
  unfold relB at h
  rw [Bool.and_eq_true] at h
  exact atB_lt h.2

theorem skN_le (l : List UInt8) : skN l ≤ l.length := by unfold skN; exact (List.takeWhile_sublist _).length_le
theorem tkN_le (l : List UInt8) : tkN l ≤ (skL l).length := by
  unfold tkN
  split
  · omega
  · rename_i c r h
    rw [h, List.length_cons]
    have : knN (kindB c) r ≤ r.length := by unfold knN; exact (List.takeWhile_sublist _).length_le
    split <;> omega
theorem skL_len (l : List UInt8) : (skL l).length = l.length - skN l := by simp [skL]
theorem restL_len (l : List UInt8) : (restL l).length = l.length - skN l - tkN l := by simp [restL, skL]; omega
theorem restL_eq (l : List UInt8) : restL l = l.drop (skN l + tkN l) := by simp [restL, skL]
theorem rest_le (l : List UInt8) : (restL l).length ≤ l.length := by rw [restL_len]; omega
theorem txL_le (l : List UInt8) : (txL l).length ≤ l.length := by unfold txL; rw [List.length_take, skL_len]; omega
theorem runs_pos (l : List UInt8) (h : l ≠ []) : 0 < skN l + tkN l := by
  cases hs : skL l with
  | nil =>
    have e : (0 : Nat) = l.length - skN l := by have := skL_len l; rw [hs] at this; exact this
    have hp : 0 < l.length := List.length_pos_iff.2 h
    omega
  | cons c r => unfold tkN; rw [hs]; dsimp only; omega
theorem restL_lt (l : List UInt8) (h : l ≠ []) : (restL l).length < l.length := by
  have h1 := runs_pos l h
  have : 0 < l.length := List.length_pos_iff.2 h
  rw [restL_len]
  omega
theorem restL_nil : restL [] = [] := rfl
theorem rowO_nil : rowO [] [] = 0 := by decide
theorem partN_nil : ∀ n, partN n [] [] = 0
  | 0 => rfl
  | n + 1 => by rw [partN, if_pos rowO_nil, restL_nil, partN_nil n]
/-- More rounds change nothing. -/
theorem partN_more : ∀ (n m : Nat) (a b : List UInt8), a.length + b.length ≤ n → a.length + b.length ≤ m → partN n a b = partN m a b
  | 0, m, a, b, h, _ => by
    have ha : a = [] := List.length_eq_zero_iff.1 (by omega)
    have hb : b = [] := List.length_eq_zero_iff.1 (by omega)
    subst ha hb
    rw [partN_nil, partN_nil]
  | n + 1, 0, a, b, _, h => by
    have ha : a = [] := List.length_eq_zero_iff.1 (by omega)
    have hb : b = [] := List.length_eq_zero_iff.1 (by omega)
    subst ha hb
    rw [partN_nil, partN_nil]
  | n + 1, m + 1, a, b, h1, h2 => by
    rw [partN, partN]
    by_cases h0 : a = [] ∧ b = []
    · obtain ⟨rfl, rfl⟩ := h0
      rw [if_pos rowO_nil, if_pos rowO_nil, restL_nil, partN_nil, partN_nil]
    · have hl : (restL a).length + (restL b).length < a.length + b.length := by
        have r1 := rest_le a
        have r2 := rest_le b
        by_cases ha : a = []
        · have := restL_lt b (fun hb => h0 ⟨ha, hb⟩); omega
        · have := restL_lt a ha; omega
      rw [partN_more n m (restL a) (restL b) (by omega) (by omega)]
theorem partO_step (a b : List UInt8) : partO a b = if rowO a b = 0 then partO (restL a) (restL b) else rowO a b := by
  unfold partO
  have r1 := rest_le a
  have r2 := rest_le b
  rw [partN_more (a.length + b.length) (a.length + b.length + 1) a b (by omega) (by omega), partN]
  rw [partN_more (a.length + b.length) ((restL a).length + (restL b).length) (restL a) (restL b) (by omega) (by omega)]
theorem partO_nil : partO [] [] = 0 := rfl
theorem cmpI_self (x : Int) : cmpI x x = 0 := by unfold cmpI; (repeat' split) <;> omega

end Go.Proofs.Ytmcabgjcppnihaa
