/-
  Plain functions of Maven's versions: tokens, trimming, the order; no program is named here.
-/
import Derived.Test.YtpedljmpobhimaaGreatDoorGen
namespace Go.Proofs.YtpedljmpobhimaaGreatDoor
set_option linter.unusedVariables false

/-- A token. -/
structure Tok where
  dash : Bool
  num : Bool
  text : List UInt8
  deriving DecidableEq

/-- The empty qualifier. -/
def nilT : Tok := ⟨false, false, []⟩
/-- The number nought. -/
def zeroT : Tok := ⟨false, true, [48]⟩

/-- A byte of a qualifier. -/
def wordB (c : UInt8) : Bool := isC (c.toNat : Int) 4 || c == 95 || c == 43
def markB (c : UInt8) : Bool := c == 46 || c == 45
/-- A byte of a version. -/
def okM (c : UInt8) : Bool := isC (c.toNat : Int) 1 || wordB c || markB c
/-- How many bytes of a version a list begins with. -/
def okN (l : List UInt8) : Nat := (l.takeWhile okM).length
/-- How many bytes of a qualifier a list begins with. -/
def wdN (l : List UInt8) : Nat := (l.takeWhile wordB).length
/-- The length of the token that a list begins with. -/
def tkN (l : List UInt8) : Nat := if 0 < runL 1 l then runL 1 l else wdN l

/-- The qualifier for which a word stands. -/
def qualL (w : List UInt8) (near : Bool) : List UInt8 :=
  if w = [99, 114] then [114, 99]
  else if w = [102, 105, 110, 97, 108] ∨ w = [103, 97] ∨ w = [114, 101, 108, 101, 97, 115, 101] then []
  else if near = false then w
  else if w = [97] then [97, 108, 112, 104, 97]
  else if w = [98] then [98, 101, 116, 97]
  else if w = [109] then [109, 105, 108, 101, 115, 116, 111, 110, 101]
  else w

/-- Does a list begin with a digit, or is it empty? -/
def numB (l : List UInt8) : Bool := match l with
  | [] => true
  | c :: _ => isC (c.toNat : Int) 1
/-- What some bytes between two splits say. -/
def tokL (d : Bool) (t : List UInt8) (turns : Bool) : Tok :=
  if numB t then ⟨d, true, trimL t⟩ else ⟨d, false, qualL (t.map lowC) turns⟩

/-- Does a token of the other kind follow with nothing between? -/
def turnB (r : List UInt8) : Bool := match r with
  | [] => false
  | c :: _ => !markB c
/-- A text's tokens, nulls and all. -/
def splitN : Nat → Bool → List UInt8 → List Tok
  | 0, _, _ => []
  | n + 1, d, l => tokL d (l.take (tkN l)) (turnB (l.drop (tkN l))) ::
      match l.drop (tkN l) with
      | [] => []
      | c :: r => if markB c then splitN n (c == 45) r else splitN n true (c :: r)
def splitL (l : List UInt8) : List Tok := splitN (l.length + 1) false l

def nullB (t : Tok) : Bool := if t.num then t.text == [48] else t.text == []
/-- May a null not stand ahead of it? -/
def looseB (t : Tok) : Bool := t.dash || !t.num
/-- Without the nulls that say nothing. -/
def trimR : List Tok → List Tok
  | [] => []
  | t :: r => if nullB t && looseB ((trimR r).headD nilT) then trimR r else t :: trimR r
/-- The first one without its dash; nought, where nothing is left. -/
def headL : List Tok → List Tok
  | [] => [zeroT]
  | t :: r => ⟨false, t.num, t.text⟩ :: r
def trimT (l : List Tok) : List Tok := headL (trimR l)

/-- A text read. -/
def toksL (l : List UInt8) : Except (Int × Nat) (List Tok) :=
  if 64 < l.length then .error (12, 64)
  else if l = [] then .error (11, 0)
  else if okN l < l.length then .error (10, okN l)
  else .ok (trimT (splitL l))

/-- One token as a text. -/
def writeT (t : Tok) : List UInt8 := if t.text = [] then [102, 105, 110, 97, 108] else t.text
def markT (t : Tok) : UInt8 := if t.dash then 45 else 46
/-- Tokens as a text. -/
def canonR : List Tok → List UInt8
  | [] => []
  | t :: r => markT t :: writeT t ++ canonR r
def canonT : List Tok → List UInt8
  | [] => []
  | t :: r => writeT t ++ canonR r
def canonL (l : List UInt8) : List UInt8 := match toksL l with
  | .ok ts => canonT ts
  | .error _ => []

/-- A qualifier's place. -/
def rankL (q : List UInt8) : Int :=
  if q = [97, 108, 112, 104, 97] then 1
  else if q = [98, 101, 116, 97] then 2
  else if q = [109, 105, 108, 101, 115, 116, 111, 110, 101] then 3
  else if q = [114, 99] then 4
  else if q = [115, 110, 97, 112, 115, 104, 111, 116] then 5
  else if q = [] then 6
  else if q = [115, 112] then 7
  else 8
/-- The order of two whole numbers. -/
def cmpI (x y : Int) : Int := if x < y then -1 else if y < x then 1 else 0
def kindT (t : Tok) : Int := if t.num = false then 0 else if t.dash then 1 else 2
/-- The order of tokens. -/
def ordT (x y : Tok) : Int :=
  if cmpI (kindT x) (kindT y) ≠ 0 then cmpI (kindT x) (kindT y)
  else if x.num then cmpD x.text y.text
  else if cmpI (rankL x.text) (rankL y.text) ≠ 0 then cmpI (rankL x.text) (rankL y.text) else Lib.compareBytes x.text y.text
/-- The order of rows of tokens, the shorter gone on with the empty qualifier. -/
def ordN : Nat → List Tok → List Tok → Int
  | 0, _, _ => 0
  | n + 1, a, b => if ordT (a.headD nilT) (b.headD nilT) = 0 then ordN n a.tail b.tail else ordT (a.headD nilT) (b.headD nilT)
def ordL (a b : List Tok) : Int := ordN (max a.length b.length) a b
/-- The order of texts. -/
def cmpT (a b : List UInt8) : Int :=
  match toksL a, toksL b with
  | .ok x, .ok y => ordL x y
  | .ok _, .error _ => 1
  | .error _, .ok _ => -1
  | .error _, .error _ => Lib.compareBytes a b
def snapL (l : List UInt8) : Bool := match toksL l with
  | .ok ts => (ts.getLastD nilT).text == [115, 110, 97, 112, 115, 104, 111, 116]
  | .error _ => false

end Go.Proofs.YtpedljmpobhimaaGreatDoor
