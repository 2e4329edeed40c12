/-
  Plain functions of Maven's requirements: what is read, written, and wanted; no program is named here.
-/
import Derived.Test.YtpedljmpobhimaaGreatDoorLq
import Derived.KernelRfl
namespace Go.Proofs.YtpedljmpobhimaaGreatDoor
set_option linter.unusedVariables false

/-- How many blanks a list begins with. -/
def blN (r : List UInt8) : Nat := runL 6 r
/-- A byte that a version does not end ahead of. -/
def inV (c : UInt8) : Bool := !(isC (c.toNat : Int) 6) && !([44, 91, 93, 40, 41].contains c)
/-- How many bytes a version here has. -/
def veN (r : List UInt8) : Nat := (r.takeWhile inV).length
/-- Is it a version? -/
def isVer (t : List UInt8) : Bool := okT t
/-- Does a list begin with one of these? -/
def hdIn (bs r : List UInt8) : Bool := match r with
  | [] => false
  | c :: _ => bs.contains c
/-- What stands where a version may. -/
def verAt (r : List UInt8) : List UInt8 := (r.drop (blN r)).take (veN (r.drop (blN r)))
/-- A version perhaps, with blanks around: what is wrong, the version, how far. -/
structure Rv where
  err : Int
  v : List UInt8
  k : Nat
def rvR (r : List UInt8) : Rv :=
  if verAt r ≠ [] ∧ isVer (verAt r) = false then ⟨19, [], blN r⟩
  else ⟨0, verAt r, blN r + (verAt r).length + blN (r.drop (blN r + (verAt r).length))⟩

/-- A range. -/
structure Mr where
  hasLo : Bool
  lo : List UInt8
  loIn : Bool
  hasHi : Bool
  hi : List UInt8
  hiIn : Bool
  deriving DecidableEq
def noM : Mr := ⟨false, [], false, false, [], false⟩
/-- Is a version ahead of another one, or alike, where that will do? -/
def aheadL (a b : List UInt8) (k : Bool) : Bool := decide (cmpT a b < 0) || (decide (cmpT a b = 0) && k)
def risesL (m : Mr) : Bool := !m.hasLo || !m.hasHi || aheadL m.lo m.hi (m.loIn && m.hiIn)
def partedL (b m : Mr) : Bool := b.hasHi && m.hasLo && aheadL b.hi m.lo (!b.hiIn || !m.loIn)
def liesL (v : List UInt8) (m : Mr) : Bool := (!m.hasLo || aheadL m.lo v m.loIn) && (!m.hasHi || aheadL v m.hi m.hiIn)
/-- What is wrong at a list's begin where nothing that stands there may. -/
def misR (r : List UInt8) : Int := if r = [] then 11 else 10
/-- A range read: what is wrong, the range, how far. -/
structure Rr where
  err : Int
  m : Mr
  k : Nat
/-- The range of two ends between brackets. -/
def mkM (r : List UInt8) (lo hi : List UInt8) (k : Nat) : Mr := ⟨decide (lo ≠ []), lo, hdIn [91] r, decide (hi ≠ []), hi, hdIn [93] (r.drop k)⟩
/-- A range's end. -/
def clR (r lo hi : List UInt8) (comma : Bool) (k : Nat) : Rr :=
  if hdIn [93, 41] (r.drop k) = false then ⟨misR (r.drop k), noM, k⟩
  else if ((!comma && !(mkM r lo hi k).hasLo) || !risesL (mkM r lo hi k)) = true then ⟨21, noM, 0⟩
  else ⟨0, mkM r lo hi k, k + 1⟩
/-- A range, where its bracket stands first. -/
def rrR (r : List UInt8) : Rr :=
  if (rvR (r.drop 1)).err ≠ 0 then ⟨(rvR (r.drop 1)).err, noM, 1 + (rvR (r.drop 1)).k⟩
  else if hdIn [44] (r.drop (1 + (rvR (r.drop 1)).k)) = true then
    if (rvR (r.drop (2 + (rvR (r.drop 1)).k))).err ≠ 0 then ⟨(rvR (r.drop (2 + (rvR (r.drop 1)).k))).err, noM, 2 + (rvR (r.drop 1)).k + (rvR (r.drop (2 + (rvR (r.drop 1)).k))).k⟩
    else clR r (rvR (r.drop 1)).v (rvR (r.drop (2 + (rvR (r.drop 1)).k))).v true (2 + (rvR (r.drop 1)).k + (rvR (r.drop (2 + (rvR (r.drop 1)).k))).k)
  else clR r (rvR (r.drop 1)).v (rvR (r.drop 1)).v false (1 + (rvR (r.drop 1)).k)
/-- A comma between two ranges: what is wrong, how far. -/
def coR (r : List UInt8) : Int × Nat :=
  if hdIn [44] r = false then (10, 0)
  else if hdIn [91, 40] (r.drop (1 + blN (r.drop 1))) = false then (misR (r.drop (1 + blN (r.drop 1))), 1 + blN (r.drop 1))
  else (0, 1 + blN (r.drop 1))

/-- What the iterator hands out. -/
structure It where
  m : Mr
  at' : Nat
  err : Int
/-- The items from a place on, where so many ranges may still come. -/
def itL : Nat → Nat → List UInt8 → List It
  | 0, a, _ => [⟨noM, a, 12⟩]
  | n + 1, a, r =>
    if (rrR r).err ≠ 0 then [⟨noM, a + (rrR r).k, (rrR r).err⟩]
    else ⟨(rrR r).m, a, 0⟩ ::
      (if r.drop ((rrR r).k + blN (r.drop (rrR r).k)) = [] then []
       else if (coR (r.drop ((rrR r).k + blN (r.drop (rrR r).k)))).1 ≠ 0 then [⟨noM, a + (rrR r).k + blN (r.drop (rrR r).k) + (coR (r.drop ((rrR r).k + blN (r.drop (rrR r).k)))).2, (coR (r.drop ((rrR r).k + blN (r.drop (rrR r).k)))).1⟩]
       else itL n (a + (rrR r).k + blN (r.drop (rrR r).k) + (coR (r.drop ((rrR r).k + blN (r.drop (rrR r).k)))).2) (r.drop ((rrR r).k + blN (r.drop (rrR r).k) + (coR (r.drop ((rrR r).k + blN (r.drop (rrR r).k)))).2)))

/-- What the body keeps: the ranges, the place, what is wrong. -/
structure Fo where
  ms : List Mr
  at' : Nat
  err : Int
  deriving DecidableEq
/-- May a range stand behind these? -/
def mayB (ms : List Mr) (m : Mr) : Bool := match ms.getLast? with
  | none => true
  | some b => partedL b m
/-- One item taken: and whether the loop goes on. -/
def stepF (f : Fo) (x : It) : Fo × Bool :=
  if x.err ≠ 0 then (⟨f.ms, x.at', x.err⟩, false)
  else if mayB f.ms x.m = false then (⟨f.ms, x.at', 21⟩, false)
  else (⟨f.ms ++ [x.m], x.at', 0⟩, true)
def foldF : Fo → List It → Fo
  | f, [] => f
  | f, x :: xs => if (stepF f x).2 then foldF (stepF f x).1 xs else (stepF f x).1

/-- What is read: what is wrong and where, the soft version, the ranges. -/
structure Pa where
  err : Int
  at' : Nat
  soft : List UInt8
  ms : List Mr
  deriving DecidableEq
def softL (l : List UInt8) : Pa :=
  if (rvR l).err ≠ 0 then ⟨(rvR l).err, (rvR l).k, [], []⟩
  else if (rvR l).v = [] ∨ (rvR l).k < l.length then ⟨misR (l.drop (rvR l).k), (rvR l).k, [], []⟩
  else ⟨0, 0, (rvR l).v, []⟩
/-- The fold over all items. -/
def allF (l : List UInt8) : Fo := foldF ⟨[], blN l, 0⟩ (itL 32 (blN l) (l.drop (blN l)))
def paL (l : List UInt8) : Pa :=
  if 256 < l.length then ⟨12, 256, [], []⟩
  else if hdIn [91, 40] (l.drop (blN l)) then
    (if (allF l).err ≠ 0 then ⟨(allF l).err, (allF l).at', [], []⟩ else ⟨0, 0, [], (allF l).ms⟩)
  else softL l

/-- One range as a text. -/
def wrR (m : Mr) : List UInt8 :=
  if (m.hasLo && m.hasHi && m.loIn && m.hiIn && (m.lo == m.hi)) = true then (if m.loIn then 91 else 40) :: (m.lo ++ [if m.hiIn then 93 else 41])
  else (if m.loIn then 91 else 40) :: (m.lo ++ 44 :: (m.hi ++ [if m.hiIn then 93 else 41]))
/-- Ranges with commas between. -/
def wrJ : List Mr → List UInt8
  | [] => []
  | [m] => wrR m
  | m :: n :: r => wrR m ++ 44 :: wrJ (n :: r)
def wrL (soft : List UInt8) (ms : List Mr) : List UInt8 := if soft ≠ [] then soft else wrJ ms
def fitL (soft : List UInt8) (ms : List Mr) : Bool := decide ((paL (wrL soft ms)).err = 0) && ((paL (wrL soft ms)).soft == soft) && ((paL (wrL soft ms)).ms == ms)
def wantL (soft : List UInt8) (ms : List Mr) (v : List UInt8) : Bool := fitL soft ms && isVer v && (decide (soft ≠ []) || ms.any (liesL v))
def matchL (l v : List UInt8) : Bool := wantL (paL l).soft (paL l).ms v

end Go.Proofs.YtpedljmpobhimaaGreatDoor

/-
  What a requirement is written as is read as it was: plain laws, no program is named here.
-/
namespace Go.Proofs.YtpedljmpobhimaaGreatDoor
set_option linter.unusedVariables false

theorem every8 (p : UInt8 → Bool) (h : (List.range 256).all (fun n => p (UInt8.ofNat n)) = true) (c : UInt8) : p c = true := by
  have := List.all_eq_true.1 h c.toNat (List.mem_range.2 c.toNat_lt)
  rwa [UInt8.ofNat_toNat] at this
theorem okM_inV {c : UInt8} (h : okM c = true) : inV c = true := by
  have := every8 (fun c => !okM c || inV c) (by kernel_rfl) c
  rw [h] at this
  simpa using this
theorem inV_blank {c : UInt8} (h : inV c = true) : isC (c.toNat : Int) 6 = false := by
  unfold inV at h
  cases hb : isC (c.toNat : Int) 6 with
  | false => rfl
  | true => rw [hb] at h; simp at h
theorem inV_bracket {c : UInt8} (h : inV c = true) : ([91, 40] : List UInt8).contains c = false := by
  have := every8 (fun c => !inV c || !(([91, 40] : List UInt8).contains c)) (by kernel_rfl) c
  rw [h] at this
  simpa using this
theorem ver_parts {t : List UInt8} (h : isVer t = true) : t ≠ [] ∧ t.length ≤ 64 ∧ ∀ c ∈ t, okM c = true := by
  unfold isVer okT toksL at h
  by_cases h1 : 64 < t.length
  · rw [if_pos h1] at h; cases h
  · rw [if_neg h1] at h
    by_cases h2 : t = []
    · rw [if_pos h2] at h; cases h
    · rw [if_neg h2] at h
      by_cases h3 : okN t < t.length
      · rw [if_pos h3] at h; cases h
      · refine ⟨h2, by omega, ?_⟩
        have hp : (t.takeWhile okM) = t := (List.takeWhile_prefix okM).eq_of_length_le (by unfold okN at h3; omega)
        intro c hc
        rw [← hp] at hc
        exact List.all_eq_true.1 List.all_takeWhile c hc
/-- What ends a version and is no blank. -/
def Stops (e : List UInt8) : Prop := ∀ c r, e = c :: r → inV c = false ∧ isC (c.toNat : Int) 6 = false
theorem Stops.nil : Stops [] := by intro c r h; cases h
theorem Stops.cons {c : UInt8} {r : List UInt8} (h : inV c = false ∧ isC (c.toNat : Int) 6 = false) : Stops (c :: r) := by
  intro d s e
  cases e
  exact h
theorem blN_stop {e : List UInt8} (h : Stops e) : blN e = 0 := by
  cases e with
  | nil => rfl
  | cons c r => unfold blN runL; rw [(h c r rfl).2]; rfl
theorem take_stop {v e : List UInt8} (hv : ∀ c ∈ v, inV c = true) (he : Stops e) : (v ++ e).takeWhile inV = v := by
  induction v with
  | nil =>
    cases e with
    | nil => rfl
    | cons c r => simp [(he c r rfl).1]
  | cons c r ih =>
    rw [List.cons_append, List.takeWhile_cons, if_pos (hv c List.mem_cons_self), ih (fun d hd => hv d (List.mem_cons_of_mem _ hd))]
/-- A version, or none. -/
def OkV (v : List UInt8) : Prop := v = [] ∨ isVer v = true
theorem OkV.inV {v : List UInt8} (h : OkV v) : ∀ c ∈ v, inV c = true := by
  rcases h with rfl | h
  · intro c hc; cases hc
  · intro c hc; exact okM_inV ((ver_parts h).2.2 c hc)
theorem blN_ver {v e : List UInt8} (h : OkV v) (he : Stops e) : blN (v ++ e) = 0 := by
  cases v with
  | nil => exact blN_stop he
  | cons c r =>
    show runL 6 (c :: (r ++ e)) = 0
    unfold runL
    rw [inV_blank (h.inV c List.mem_cons_self)]
    rfl
theorem verAt_ver {v e : List UInt8} (h : OkV v) (he : Stops e) : verAt (v ++ e) = v := by
  unfold verAt veN
  rw [blN_ver h he, List.drop_zero, take_stop h.inV he, List.take_left' rfl]
theorem rv_back {v e : List UInt8} (h : OkV v) (he : Stops e) : rvR (v ++ e) = ⟨0, v, v.length⟩ := by
  unfold rvR
  rw [verAt_ver h he, blN_ver h he, if_neg]
  · rw [Nat.zero_add, List.drop_left' rfl, blN_stop he]
    rfl
  · rintro ⟨h1, h2⟩
    rcases h with h | h
    · exact h1 h
    · rw [h] at h2; cases h2
theorem rv_facts (r : List UInt8) (h : (rvR r).err = 0) : OkV (rvR r).v ∧ (rvR r).v.length ≤ (rvR r).k := by
  unfold rvR at h ⊢
  by_cases hc : verAt r ≠ [] ∧ isVer (verAt r) = false
  · rw [if_pos hc] at h; cases h
  · rw [if_neg hc]
    refine ⟨?_, by simp; omega⟩
    by_cases h0 : verAt r = []
    · exact .inl h0
    · refine .inr ?_
      exact Bool.of_not_eq_false (fun hv => hc ⟨h0, hv⟩)

/-- A range that Parse may tell. -/
structure Good (m : Mr) : Prop where
  hlo : m.hasLo = decide (m.lo ≠ [])
  hhi : m.hasHi = decide (m.hi ≠ [])
  vlo : OkV m.lo
  vhi : OkV m.hi
  up : risesL m = true
theorem stops44 (e : List UInt8) : Stops (44 :: e) := Stops.cons (by decide)
theorem stopsC (b : Bool) (e : List UInt8) : Stops ((if b then 93 else 41) :: e) := by cases b <;> exact Stops.cons (by decide)
theorem hdC (b : Bool) (e : List UInt8) : hdIn [93, 41] ((if b then 93 else 41) :: e) = true ∧ hdIn [93] ((if b then 93 else 41) :: e) = b ∧ hdIn [44] ((if b then 93 else 41) :: e) = false := by cases b <;> exact ⟨rfl, rfl, rfl⟩
theorem hdO (b : Bool) (e : List UInt8) : hdIn [91, 40] ((if b then 91 else 40) :: e) = true ∧ hdIn [91] ((if b then 91 else 40) :: e) = b := by cases b <;> exact ⟨rfl, rfl⟩
theorem cl_back {m : Mr} (g : Good m) (r : List UInt8) (comma : Bool) (k : Nat) (e : List UInt8) (h1 : r.drop k = (if m.hiIn then 93 else 41) :: e) (h2 : hdIn [91] r = m.loIn) (h3 : comma = true ∨ m.hasLo = true) :
    clR r m.lo m.hi comma k = ⟨0, m, k + 1⟩ := by
  have hm : mkM r m.lo m.hi k = m := by
    unfold mkM
    rw [h1, (hdC m.hiIn e).2.1, h2, ← g.hlo, ← g.hhi]
  unfold clR
  rw [hm, h1, (hdC m.hiIn e).1, if_neg (by simp), if_neg]
  rw [g.up]
  rcases h3 with h3 | h3 <;> simp [h3]
theorem rr_back {m : Mr} (g : Good m) (e : List UInt8) : rrR (wrR m ++ e) = ⟨0, m, (wrR m).length⟩ := by
  by_cases hc : (m.hasLo && m.hasHi && m.loIn && m.hiIn && (m.lo == m.hi)) = true
  · have hw : wrR m = (if m.loIn then 91 else 40) :: (m.lo ++ [if m.hiIn then 93 else 41]) := by unfold wrR; rw [if_pos hc]
    simp only [Bool.and_eq_true, beq_iff_eq] at hc
    obtain ⟨⟨⟨⟨c1, c2⟩, c3⟩, c4⟩, c5⟩ := hc
    have hr : wrR m ++ e = (if m.loIn then 91 else 40) :: (m.lo ++ (if m.hiIn then 93 else 41) :: e) := by rw [hw]; simp
    have hl : (wrR m).length = 1 + m.lo.length + 1 := by rw [hw]; simp; omega
    rw [hr, hl]
    have hv : rvR (m.lo ++ (if m.hiIn then 93 else 41) :: e) = ⟨0, m.lo, m.lo.length⟩ := rv_back g.vlo (stopsC _ _)
    have hd : ((if m.loIn then (91 : UInt8) else 40) :: (m.lo ++ (if m.hiIn then 93 else 41) :: e)).drop (1 + m.lo.length) = (if m.hiIn then 93 else 41) :: e := by
      rw [Nat.add_comm, List.drop_succ_cons, List.drop_left']
      rfl
    unfold rrR
    rw [List.drop_succ_cons, List.drop_zero, hv]
    dsimp only
    rw [if_neg (by simp), hd, (hdC _ _).2.2, if_neg (by simp)]
    have := cl_back g ((if m.loIn then (91 : UInt8) else 40) :: (m.lo ++ (if m.hiIn then 93 else 41) :: e)) false (1 + m.lo.length) e hd (hdO _ _).2 (.inr c1)
    rw [← c5] at this
    exact this
  · have hw : wrR m = (if m.loIn then 91 else 40) :: (m.lo ++ 44 :: (m.hi ++ [if m.hiIn then 93 else 41])) := by unfold wrR; rw [if_neg hc]
    have hr : wrR m ++ e = (if m.loIn then 91 else 40) :: (m.lo ++ 44 :: (m.hi ++ (if m.hiIn then 93 else 41) :: e)) := by rw [hw]; simp
    have hl : (wrR m).length = 2 + m.lo.length + m.hi.length + 1 := by rw [hw]; simp; omega
    rw [hr, hl]
    have hv : rvR (m.lo ++ 44 :: (m.hi ++ (if m.hiIn then 93 else 41) :: e)) = ⟨0, m.lo, m.lo.length⟩ := rv_back g.vlo (stops44 _)
    have hu : rvR (m.hi ++ (if m.hiIn then 93 else 41) :: e) = ⟨0, m.hi, m.hi.length⟩ := rv_back g.vhi (stopsC _ _)
    have hd : ((if m.loIn then (91 : UInt8) else 40) :: (m.lo ++ 44 :: (m.hi ++ (if m.hiIn then 93 else 41) :: e))).drop (1 + m.lo.length) = 44 :: (m.hi ++ (if m.hiIn then 93 else 41) :: e) := by
      rw [Nat.add_comm, List.drop_succ_cons, List.drop_left']
      rfl
    have hd2 : ((if m.loIn then (91 : UInt8) else 40) :: (m.lo ++ 44 :: (m.hi ++ (if m.hiIn then 93 else 41) :: e))).drop (2 + m.lo.length) = m.hi ++ (if m.hiIn then 93 else 41) :: e := by
      rw [show 2 + m.lo.length = (1 + m.lo.length) + 1 by omega, ← List.drop_drop, hd]
      rfl
    have hd3 : ((if m.loIn then (91 : UInt8) else 40) :: (m.lo ++ 44 :: (m.hi ++ (if m.hiIn then 93 else 41) :: e))).drop (2 + m.lo.length + m.hi.length) = (if m.hiIn then 93 else 41) :: e := by
      rw [← List.drop_drop, hd2, List.drop_left']
      rfl
    unfold rrR
    rw [List.drop_succ_cons, List.drop_zero, hv]
    dsimp only
    rw [if_neg (by simp), hd, if_pos (by rfl), hd2, hu]
    dsimp only
    rw [if_neg (by simp)]
    exact cl_back g _ true (2 + m.lo.length + m.hi.length) e hd3 (hdO _ _).2 (.inl rfl)
theorem hdIn_lt {bs r : List UInt8} {k : Nat} (h : hdIn bs (r.drop k) = true) : k < r.length := by
  refine Nat.lt_of_not_le fun hle => ?_
  rw [List.drop_eq_nil_of_le hle] at h
  cases h
theorem misR_ne (r : List UInt8) : misR r ≠ 0 := by unfold misR; split <;> decide
theorem cl_facts (r lo hi : List UInt8) (comma : Bool) (k : Nat) (hlo : OkV lo) (hhi : OkV hi) (h : (clR r lo hi comma k).err = 0) :
    Good (clR r lo hi comma k).m ∧ (clR r lo hi comma k).k = k + 1 ∧ k < r.length ∧ (clR r lo hi comma k).m.lo = lo ∧ (clR r lo hi comma k).m.hi = hi ∧ (comma = true ∨ (clR r lo hi comma k).m.hasLo = true) := by
  unfold clR at h ⊢
  by_cases h1 : hdIn [93, 41] (r.drop k) = false
  · rw [if_pos h1] at h; exact absurd h (misR_ne _)
  · rw [if_neg h1] at h ⊢
    have h1' : hdIn [93, 41] (r.drop k) = true := by simpa using h1
    by_cases h2 : ((!comma && !(mkM r lo hi k).hasLo) || !risesL (mkM r lo hi k)) = true
    · rw [if_pos h2] at h; cases h
    · rw [if_neg h2]
      have h3 : (comma = true ∨ (mkM r lo hi k).hasLo = true) ∧ risesL (mkM r lo hi k) = true := by
        revert h2
        cases comma <;> cases (mkM r lo hi k).hasLo <;> cases risesL (mkM r lo hi k) <;> simp
      exact ⟨⟨rfl, rfl, hlo, hhi, h3.2⟩, rfl, hdIn_lt h1', rfl, rfl, h3.1⟩
theorem ahead_self {a : List UInt8} {k : Bool} (h : aheadL a a k = true) : k = true := by
  unfold aheadL at h
  rw [cmpT_cmp3.self a] at h
  simpa using h
theorem wr_len1 (m : Mr) : (wrR m).length ≤ m.lo.length + m.hi.length + 3 := by
  unfold wrR
  split <;> simp only [List.length_cons, List.length_append, List.length_nil] <;> omega
theorem wr_len2 {m : Mr} (g : Good m) (hlo : m.hasLo = true) (he : m.lo = m.hi) : (wrR m).length = m.lo.length + 2 := by
  have hhi : m.hasHi = true := by rw [g.hhi, ← he, ← g.hlo]; exact hlo
  have hup := g.up
  unfold risesL at hup
  rw [hlo, hhi, ← he] at hup
  have := ahead_self (by simpa using hup)
  simp only [Bool.and_eq_true] at this
  unfold wrR
  rw [hlo, hhi, this.1, this.2, ← he, if_pos (by simp)]
  simp only [List.length_cons, List.length_append, List.length_nil]
theorem rr_facts (r : List UInt8) (h : (rrR r).err = 0) : Good (rrR r).m ∧ (wrR (rrR r).m).length ≤ (rrR r).k ∧ (rrR r).k ≤ r.length := by
  unfold rrR at h ⊢
  by_cases h1 : (rvR (r.drop 1)).err ≠ 0
  · rw [if_pos h1] at h; exact absurd h h1
  · rw [if_neg h1] at h ⊢
    obtain ⟨f1, f2⟩ := rv_facts _ (Decidable.not_not.1 h1)
    by_cases h2 : hdIn [44] (r.drop (1 + (rvR (r.drop 1)).k)) = true
    · rw [if_pos h2] at h ⊢
      by_cases h3 : (rvR (r.drop (2 + (rvR (r.drop 1)).k))).err ≠ 0
      · rw [if_pos h3] at h; exact absurd h h3
      · rw [if_neg h3] at h ⊢
        obtain ⟨f3, f4⟩ := rv_facts _ (Decidable.not_not.1 h3)
        obtain ⟨g, e1, e2, e3, e4, e5⟩ := cl_facts _ _ _ _ _ f1 f3 h
        refine ⟨g, ?_, by omega⟩
        have := wr_len1 (clR r (rvR (r.drop 1)).v (rvR (r.drop (2 + (rvR (r.drop 1)).k))).v true (2 + (rvR (r.drop 1)).k + (rvR (r.drop (2 + (rvR (r.drop 1)).k))).k)).m
        rw [e3, e4] at this
        omega
    · rw [if_neg h2] at h ⊢
      obtain ⟨g, e1, e2, e3, e4, e5⟩ := cl_facts _ _ _ _ _ f1 f1 h
      refine ⟨g, ?_, by omega⟩
      have hlo : (clR r (rvR (r.drop 1)).v (rvR (r.drop 1)).v false (1 + (rvR (r.drop 1)).k)).m.hasLo = true := by
        rcases e5 with e5 | e5
        · cases e5
        · exact e5
      have := wr_len2 g hlo (e3.trans e4.symm)
      rw [e3] at this
      omega

/-- Ranges that may stand behind these, one behind another. -/
def GoodC : List Mr → List Mr → Prop
  | _, [] => True
  | acc, m :: r => Good m ∧ mayB acc m = true ∧ GoodC (acc ++ [m]) r
theorem wr_head (m : Mr) (e : List UInt8) : blN (wrR m ++ e) = 0 ∧ hdIn [91, 40] (wrR m ++ e) = true := by
  have hw : ∃ t, wrR m = (if m.loIn then 91 else 40) :: t := by unfold wrR; split <;> exact ⟨_, rfl⟩
  obtain ⟨t, ht⟩ := hw
  rw [ht, List.cons_append]
  exact ⟨by cases m.loIn <;> rfl, (hdO _ _).1⟩
theorem wrJ_head (m : Mr) (ms : List Mr) : blN (wrJ (m :: ms)) = 0 ∧ hdIn [91, 40] (wrJ (m :: ms)) = true := by
  cases ms with
  | nil => have := wr_head m []; rwa [List.append_nil] at this
  | cons n r => exact wr_head m _
theorem step_ok {f : Fo} {m : Mr} {a : Nat} (h : mayB f.ms m = true) : stepF f ⟨m, a, 0⟩ = (⟨f.ms ++ [m], a, 0⟩, true) := by
  unfold stepF
  rw [if_neg (by simp), if_neg (by simp [h])]
theorem fold_back : ∀ (ms : List Mr) (n a a0 : Nat) (e0 : Int) (acc : List Mr), ms ≠ [] → ms.length ≤ n → GoodC acc ms →
    (foldF ⟨acc, a0, e0⟩ (itL n a (wrJ ms))).ms = acc ++ ms ∧ (foldF ⟨acc, a0, e0⟩ (itL n a (wrJ ms))).err = 0
  | [], _, _, _, _, _, h, _, _ => absurd rfl h
  | [m], n, a, a0, e0, acc, _, hn, g => by
    obtain ⟨g1, g2, _⟩ := g
    cases n with
    | zero => simp at hn
    | succ n =>
      have hr := rr_back g1 []
      rw [List.append_nil] at hr
      show (foldF ⟨acc, a0, e0⟩ (itL (n + 1) a (wrR m))).ms = _ ∧ (foldF ⟨acc, a0, e0⟩ (itL (n + 1) a (wrR m))).err = 0
      have hd : (wrR m).drop (wrR m).length = [] := List.drop_length
      unfold itL
      rw [hr]
      dsimp only
      rw [if_neg (by simp), hd, if_pos (by rw [List.drop_eq_nil_of_le (by omega)])]
      unfold foldF
      rw [step_ok g2, if_pos rfl]
      exact ⟨rfl, rfl⟩
  | m :: m2 :: r, n, a, a0, e0, acc, _, hn, g => by
    obtain ⟨g1, g2, g3⟩ := g
    cases n with
    | zero => simp at hn
    | succ n =>
      have hr := rr_back g1 (44 :: wrJ (m2 :: r))
      have hd : (wrR m ++ 44 :: wrJ (m2 :: r)).drop (wrR m).length = 44 :: wrJ (m2 :: r) := by rw [List.drop_left']; rfl
      have hb : blN (44 :: wrJ (m2 :: r)) = 0 := rfl
      have hj := wrJ_head m2 r
      have hco : coR (44 :: wrJ (m2 :: r)) = (0, 1) := by
        unfold coR
        rw [if_neg (by simp [hdIn]), List.drop_succ_cons, List.drop_zero, hj.1, List.drop_succ_cons, List.drop_zero, hj.2, if_neg (by simp)]
      have IH := fold_back (m2 :: r) n (a + (wrR m).length + 0 + 1) a 0 (acc ++ [m]) (by simp) (by simp at hn ⊢; omega) g3
      show (foldF ⟨acc, a0, e0⟩ (itL (n + 1) a (wrR m ++ 44 :: wrJ (m2 :: r)))).ms = _ ∧ (foldF ⟨acc, a0, e0⟩ (itL (n + 1) a (wrR m ++ 44 :: wrJ (m2 :: r)))).err = 0
      unfold itL
      rw [hr]
      dsimp only
      rw [if_neg (by simp), hd, hb, Nat.add_zero, hd, if_neg (by simp), hco, if_neg (by simp)]
      rw [← List.drop_drop, hd, List.drop_succ_cons, List.drop_zero]
      unfold foldF
      rw [step_ok g2, if_pos rfl]
      rw [IH.1, IH.2]
      exact ⟨by simp, rfl⟩
theorem co_facts (r : List UInt8) (h : (coR r).1 = 0) : 1 ≤ (coR r).2 ∧ (coR r).2 < r.length := by
  unfold coR at h ⊢
  by_cases h1 : hdIn [44] r = false
  · rw [if_pos h1] at h; cases h
  · rw [if_neg h1] at h ⊢
    by_cases h2 : hdIn [91, 40] (r.drop (1 + blN (r.drop 1))) = false
    · rw [if_pos h2] at h; exact absurd h (misR_ne _)
    · rw [if_neg h2]
      exact ⟨by show 1 ≤ 1 + _; omega, hdIn_lt (by simpa using h2)⟩
theorem fold_one_bad {f : Fo} {a : Nat} {e : Int} (he : e ≠ 0) : (foldF f [⟨noM, a, e⟩]).err = e := by
  have : stepF f ⟨noM, a, e⟩ = (⟨f.ms, a, e⟩, false) := by unfold stepF; rw [if_pos he]
  unfold foldF
  rw [this]
  rfl
theorem fold_good : ∀ (n a : Nat) (r : List UInt8) (f : Fo), (foldF f (itL n a r)).err = 0 →
    ∃ ms, ms ≠ [] ∧ (foldF f (itL n a r)).ms = f.ms ++ ms ∧ ms.length ≤ n ∧ GoodC f.ms ms ∧ (wrJ ms).length ≤ r.length
  | 0, a, r, f, h => by
    rw [show itL 0 a r = [⟨noM, a, 12⟩] from rfl, fold_one_bad (by decide)] at h
    cases h
  | n + 1, a, r, f, h => by
    unfold itL at h ⊢
    by_cases h1 : (rrR r).err ≠ 0
    · rw [if_pos h1, fold_one_bad h1] at h; exact absurd h h1
    · rw [if_neg h1] at h ⊢
      obtain ⟨g1, g2, g3⟩ := rr_facts r (Decidable.not_not.1 h1)
      generalize (rrR r).m = m at *
      generalize (rrR r).k = k at *
      by_cases h2 : mayB f.ms m = true
      · unfold foldF at h ⊢
        rw [step_ok h2, if_pos rfl] at h ⊢
        generalize hbe : blN (r.drop k) = b at *
        by_cases h3 : r.drop (k + b) = []
        · rw [if_pos h3] at h ⊢
          exact ⟨[m], by simp, rfl, by simp, ⟨g1, h2, trivial⟩, by show (wrR m).length ≤ _; omega⟩
        · rw [if_neg h3] at h ⊢
          by_cases h4 : (coR (r.drop (k + b))).1 ≠ 0
          · rw [if_pos h4, fold_one_bad h4] at h; exact absurd h h4
          · rw [if_neg h4] at h ⊢
            obtain ⟨c1, c2⟩ := co_facts _ (Decidable.not_not.1 h4)
            generalize (coR (r.drop (k + b))).2 = c at *
            rw [List.length_drop] at c2
            obtain ⟨ms, e1, e2, e3, e4, e5⟩ := fold_good n (a + k + b + c) (r.drop (k + b + c)) _ h
            refine ⟨m :: ms, by simp, ?_, by simp; omega, ⟨g1, h2, e4⟩, ?_⟩
            · rw [e2]; simp
            · rw [List.length_drop] at e5
              cases ms with
              | nil => exact absurd rfl e1
              | cons m2 q =>
                show (wrR m ++ 44 :: wrJ (m2 :: q)).length ≤ _
                rw [List.length_append, List.length_cons]
                omega
      · exfalso
        have hs : stepF f ⟨m, a, 0⟩ = (⟨f.ms, a, 21⟩, false) := by unfold stepF; rw [if_neg (by simp), if_pos (by simpa using h2)]
        unfold foldF at h
        rw [hs] at h
        cases h

theorem read_soft {l : List UInt8} (h : (softL l).err = 0) : isVer (softL l).soft = true ∧ (softL l).ms = [] := by
  unfold softL at h ⊢
  by_cases h1 : (rvR l).err ≠ 0
  · rw [if_pos h1] at h; exact absurd h h1
  · rw [if_neg h1] at h ⊢
    by_cases h2 : (rvR l).v = [] ∨ (rvR l).k < l.length
    · rw [if_pos h2] at h; exact absurd h (misR_ne _)
    · rw [if_neg h2]
      obtain ⟨f1, _⟩ := rv_facts l (Decidable.not_not.1 h1)
      rcases f1 with f1 | f1
      · exact absurd (.inl f1) h2
      · exact ⟨f1, rfl⟩
theorem soft_back {v : List UInt8} (h : isVer v = true) : paL v = ⟨0, 0, v, []⟩ := by
  obtain ⟨h1, h2, h3⟩ := ver_parts h
  have hb := blN_ver (e := []) (.inr h) Stops.nil
  have hr := rv_back (e := []) (.inr h) Stops.nil
  rw [List.append_nil] at hb hr
  have hh : hdIn [91, 40] v = false := by
    cases v with
    | nil => exact absurd rfl h1
    | cons c r => exact inV_bracket (okM_inV (h3 c List.mem_cons_self))
  unfold paL softL
  rw [if_neg (by omega), hb, List.drop_zero, hh, if_neg (by simp), hr]
  dsimp only
  rw [if_neg (by simp), if_neg (by simp [h1])]
theorem ranges_back {ms : List Mr} (h0 : ms ≠ []) (h1 : ms.length ≤ 32) (h2 : GoodC [] ms) (h3 : (wrJ ms).length ≤ 256) : paL (wrJ ms) = ⟨0, 0, [], ms⟩ := by
  have hj : blN (wrJ ms) = 0 ∧ hdIn [91, 40] (wrJ ms) = true := by
    cases ms with
    | nil => exact absurd rfl h0
    | cons m r => exact wrJ_head m r
  have hf := fold_back ms 32 0 0 0 [] h0 h1 h2
  unfold paL allF
  rw [if_neg (by omega), hj.1, List.drop_zero, hj.2, if_pos rfl, hf.1, hf.2, if_neg (by simp)]
  rfl
/-- What is read without a fault is fit. -/
theorem read_fit {l : List UInt8} (h : (paL l).err = 0) : fitL (paL l).soft (paL l).ms = true := by
  unfold paL at h ⊢
  by_cases h1 : 256 < l.length
  · rw [if_pos h1] at h; cases h
  · rw [if_neg h1] at h ⊢
    by_cases h2 : hdIn [91, 40] (l.drop (blN l)) = true
    · rw [if_pos h2] at h ⊢
      by_cases h3 : (allF l).err ≠ 0
      · rw [if_pos h3] at h; exact absurd h h3
      · rw [if_neg h3]
        obtain ⟨ms, e1, e2, e3, e4, e5⟩ := fold_good 32 (blN l) (l.drop (blN l)) ⟨[], blN l, 0⟩ (Decidable.not_not.1 h3)
        have e2' : (allF l).ms = ms := e2
        dsimp only
        rw [e2']
        rw [List.length_drop] at e5
        have hb := ranges_back e1 e3 e4 (by omega)
        unfold fitL wrL
        rw [if_neg (by simp), hb]
        simp
    · rw [if_neg h2] at h ⊢
      obtain ⟨g1, g2⟩ := read_soft h
      rw [g2]
      have hne := (ver_parts g1).1
      unfold fitL wrL
      rw [if_pos hne, soft_back g1]
      simp
theorem read_no {l : List UInt8} (h : (paL l).err ≠ 0) : (paL l).soft = [] ∧ (paL l).ms = [] := by
  unfold paL softL at h ⊢
  split <;> rename_i h1
  · exact ⟨rfl, rfl⟩
  · rw [if_neg h1] at h
    split <;> rename_i h2
    · rw [if_pos h2] at h
      split <;> rename_i h3
      · exact ⟨rfl, rfl⟩
      · rw [if_neg h3] at h; exact absurd rfl h
    · rw [if_neg h2] at h
      split <;> rename_i h3
      · exact ⟨rfl, rfl⟩
      · rw [if_neg h3] at h
        split <;> rename_i h4
        · exact ⟨rfl, rfl⟩
        · rw [if_neg h4] at h; exact absurd rfl h
theorem fit_none : fitL [] [] = false := rfl

/-- Alike ones both, or neither. -/
theorem ahead_alike {a b c : List UInt8} (k : Bool) (h : cmpT a b = 0) : aheadL c a k = aheadL c b k ∧ aheadL a c k = aheadL b c k := by
  have C := cmpT_cmp3
  have h1 := C.eqv a b c h
  have h2 : cmpT c a = cmpT c b := by have := C.anti a c; have := C.anti b c; omega
  unfold aheadL
  rw [h1, h2]
  exact ⟨rfl, rfl⟩
theorem lies_alike {a b : List UInt8} (m : Mr) (h : cmpT a b = 0) : liesL a m = liesL b m := by
  unfold liesL
  rw [(ahead_alike m.loIn h).1, (ahead_alike m.hiIn h).2]
theorem lies_between {a b c : List UInt8} (m : Mr) (h1 : cmpT a b ≤ 0) (h2 : cmpT b c ≤ 0) (x : liesL a m = true) (z : liesL c m = true) : liesL b m = true := by
  have C := cmpT_cmp3
  unfold liesL aheadL at *
  simp only [Bool.and_eq_true, Bool.or_eq_true, Bool.not_eq_true', decide_eq_true_eq] at x z ⊢
  refine ⟨?_, ?_⟩
  · rcases x.1 with x | x | x
    · exact .inl x
    · exact .inr (.inl (C.lt_le x h1))
    · by_cases hb : cmpT m.lo b < 0
      · exact .inr (.inl hb)
      · have := C.trans m.lo a b (by omega) h1
        exact .inr (.inr ⟨by omega, x.2⟩)
  · rcases z.2 with z | z | z
    · exact .inl z
    · exact .inr (.inl (C.le_lt h2 z))
    · by_cases hb : cmpT b m.hi < 0
      · exact .inr (.inl hb)
      · have := C.trans b c m.hi h2 (by omega)
        exact .inr (.inr ⟨by omega, z.2⟩)

end Go.Proofs.YtpedljmpobhimaaGreatDoor
