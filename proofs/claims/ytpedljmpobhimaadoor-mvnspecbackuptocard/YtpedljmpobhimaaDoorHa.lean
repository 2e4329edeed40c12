/-
  Plain functions of Maven's requirements: what is read, written, and wanted; no program is named here.
-/
import Derived.Test.YtpedljmpobhimaaDoorLq
namespace Go.Proofs.YtpedljmpobhimaaDoor
set_option linter.unusedVariables false

/-- How many blanks a list begins with. -/
def blN (r : List UInt8) : Nat := runL 6 r
/-- A byte that a version does not end ahead of. -/
def inV (c : UInt8) : Bool := !(isC (c.toNat : Int) 6) && !([44, 91, 93, 40, 41].contains c)
/-- How many bytes a version here has. -/
def veN (r : List UInt8) : Nat := (r.takeWhile inV).length
/-- Is it a version? -/
def isVer (t : List UInt8) : Bool := okT t
/-- Does a list begin with one of these? -/
def hdIn (bs r : List UInt8) : Bool := match r with
  | [] => false
  | c :: _ => bs.contains c
/-- What stands where a version may. -/
def verAt (r : List UInt8) : List UInt8 := (r.drop (blN r)).take (veN (r.drop (blN r)))
/-- A version perhaps, with blanks around: what is wrong, the version, how far. -/
structure Rv where
  err : Int
  v : List UInt8
  k : Nat
def rvR (r : List UInt8) : Rv :=
  if verAt r ≠ [] ∧ isVer (verAt r) = false then ⟨19, [], blN r⟩
  else ⟨0, verAt r, blN r + (verAt r).length + blN (r.drop (blN r + (verAt r).length))⟩

/-- A range. -/
structure Mr where
  hasLo : Bool
  lo : List UInt8
  loIn : Bool
  hasHi : Bool
  hi : List UInt8
  hiIn : Bool
  deriving DecidableEq
def noM : Mr := ⟨false, [], false, false, [], false⟩
/-- Is a version ahead of another one, or alike, where that will do? -/
def aheadL (a b : List UInt8) (k : Bool) : Bool := decide (cmpT a b < 0) || (decide (cmpT a b = 0) && k)
def risesL (m : Mr) : Bool := !m.hasLo || !m.hasHi || aheadL m.lo m.hi (m.loIn && m.hiIn)
def partedL (b m : Mr) : Bool := b.hasHi && m.hasLo && aheadL b.hi m.lo (!b.hiIn || !m.loIn)
def liesL (v : List UInt8) (m : Mr) : Bool := (!m.hasLo || aheadL m.lo v m.loIn) && (!m.hasHi || aheadL v m.hi m.hiIn)
/-- What is wrong at a list's begin where nothing that stands there may. -/
def misR (r : List UInt8) : Int := if r = [] then 11 else 10
/-- A range read: what is wrong, the range, how far. -/
structure Rr where
  err : Int
  m : Mr
  k : Nat
/-- The range of two ends between brackets. -/
def mkM (r : List UInt8) (lo hi : List UInt8) (k : Nat) : Mr := ⟨decide (lo ≠ []), lo, hdIn [91] r, decide (hi ≠ []), hi, hdIn [93] (r.drop k)⟩
/-- A range's end. -/
def clR (r lo hi : List UInt8) (comma : Bool) (k : Nat) : Rr :=
  if hdIn [93, 41] (r.drop k) = false then ⟨misR (r.drop k), noM, k⟩
  else if ((!comma && !(mkM r lo hi k).hasLo) || !risesL (mkM r lo hi k)) = true then ⟨21, noM, 0⟩
  else ⟨0, mkM r lo hi k, k + 1⟩
/-- A range, where its bracket stands first. -/
def rrR (r : List UInt8) : Rr :=
  if (rvR (r.drop 1)).err ≠ 0 then ⟨(rvR (r.drop 1)).err, noM, 1 + (rvR (r.drop 1)).k⟩
  else if hdIn [44] (r.drop (1 + (rvR (r.drop 1)).k)) = true then
    if (rvR (r.drop (2 + (rvR (r.drop 1)).k))).err ≠ 0 then ⟨(rvR (r.drop (2 + (rvR (r.drop 1)).k))).err, noM, 2 + (rvR (r.drop 1)).k + (rvR (r.drop (2 + (rvR (r.drop 1)).k))).k⟩
    else clR r (rvR (r.drop 1)).v (rvR (r.drop (2 + (rvR (r.drop 1)).k))).v true (2 + (rvR (r.drop 1)).k + (rvR (r.drop (2 + (rvR (r.drop 1)).k))).k)
  else clR r (rvR (r.drop 1)).v (rvR (r.drop 1)).v false (1 + (rvR (r.drop 1)).k)
/-- A comma between two ranges: what is wrong, how far. -/
def coR (r : List UInt8) : Int × Nat :=
  if hdIn [44] r = false then (10, 0)
  else if hdIn [91, 40] (r.drop (1 + blN (r.drop 1))) = false then (misR (r.drop (1 + blN (r.drop 1))), 1 + blN (r.drop 1))
  else (0, 1 + blN (r.drop 1))

/-- What the iterator hands out. -/
structure It where
  m : Mr
  at' : Nat
  err : Int
/-- The items from a place on, where so many ranges may still come. -/
def itL : Nat → Nat → List UInt8 → List It
  | 0, a, _ => [⟨noM, a, 12⟩]
  | n + 1, a, r =>
    if (rrR r).err ≠ 0 then [⟨noM, a + (rrR r).k, (rrR r).err⟩]
    else ⟨(rrR r).m, a, 0⟩ ::
      (if r.drop ((rrR r).k + blN (r.drop (rrR r).k)) = [] then []
       else if (coR (r.drop ((rrR r).k + blN (r.drop (rrR r).k)))).1 ≠ 0 then [⟨noM, a + (rrR r).k + blN (r.drop (rrR r).k) + (coR (r.drop ((rrR r).k + blN (r.drop (rrR r).k)))).2, (coR (r.drop ((rrR r).k + blN (r.drop (rrR r).k)))).1⟩]
       else itL n (a + (rrR r).k + blN (r.drop (rrR r).k) + (coR (r.drop ((rrR r).k + blN (r.drop (rrR r).k)))).2) (r.drop ((rrR r).k + blN (r.drop (rrR r).k) + (coR (r.drop ((rrR r).k + blN (r.drop (rrR r).k)))).2)))

/-- What the body keeps: the ranges, the place, what is wrong. -/
structure Fo where
  ms : List Mr
  at' : Nat
  err : Int
  deriving DecidableEq
/-- May a range stand behind these? -/
def mayB (ms : List Mr) (m : Mr) : Bool := match ms.getLast? with
  | none => true
  | some b => partedL b m
/-- One item taken: and whether the loop goes on. -/
def stepF (f : Fo) (x : It) : Fo × Bool :=
  if x.err ≠ 0 then (⟨f.ms, x.at', x.err⟩, false)
  else if mayB f.ms x.m = false then (⟨f.ms, x.at', 21⟩, false)
  else (⟨f.ms ++ [x.m], x.at', 0⟩, true)
def foldF : Fo → List It → Fo
  | f, [] => f
  | f, x :: xs => if (stepF f x).2 then foldF (stepF f x).1 xs else (stepF f x).1

/-- What is read: what is wrong and where, the soft version, the ranges. -/
structure Pa where
  err : Int
  at' : Nat
  soft : List UInt8
  ms : List Mr
  deriving DecidableEq
def softL (l : List UInt8) : Pa :=
  if (rvR l).err ≠ 0 then ⟨(rvR l).err, (rvR l).k, [], []⟩
  else if (rvR l).v = [] ∨ (rvR l).k < l.length then ⟨misR (l.drop (rvR l).k), (rvR l).k, [], []⟩
  else ⟨0, 0, (rvR l).v, []⟩
/-- The fold over all items. -/
def allF (l : List UInt8) : Fo := foldF ⟨[], blN l, 0⟩ (itL 32 (blN l) (l.drop (blN l)))
def paL (l : List UInt8) : Pa :=
  if 256 < l.length then ⟨12, 256, [], []⟩
  else if hdIn [91, 40] (l.drop (blN l)) then
    (if (allF l).err ≠ 0 then ⟨(allF l).err, (allF l).at', [], []⟩ else ⟨0, 0, [], (allF l).ms⟩)
  else softL l

/-- One range as a text. -/
def wrR (m : Mr) : List UInt8 :=
  if (m.hasLo && m.hasHi && m.loIn && m.hiIn && (m.lo == m.hi)) = true then (if m.loIn then 91 else 40) :: (m.lo ++ [if m.hiIn then 93 else 41])
  else (if m.loIn then 91 else 40) :: (m.lo ++ 44 :: (m.hi ++ [if m.hiIn then 93 else 41]))
/-- Ranges with commas between. -/
def wrJ : List Mr → List UInt8
  | [] => []
  | [m] => wrR m
  | m :: n :: r => wrR m ++ 44 :: wrJ (n :: r)
def wrL (soft : List UInt8) (ms : List Mr) : List UInt8 := if soft ≠ [] then soft else wrJ ms
def fitL (soft : List UInt8) (ms : List Mr) : Bool := decide ((paL (wrL soft ms)).err = 0) && ((paL (wrL soft ms)).soft == soft) && ((paL (wrL soft ms)).ms == ms)
def wantL (soft : List UInt8) (ms : List Mr) (v : List UInt8) : Bool := fitL soft ms && isVer v && (decide (soft ≠ []) || ms.any (liesL v))
def matchL (l v : List UInt8) : Bool := wantL (paL l).soft (paL l).ms v

end Go.Proofs.YtpedljmpobhimaaDoor
