/-
  Plain functions of versions: identifiers, numbers, where a text goes wrong; no program is named here.
-/
import Derived.Test.YtkngmgdcnplkgaaPlainF
namespace Go.Proofs.Ytkngmgdcnplkgaa

/-- A byte of identifiers. -/
def isId (c : UInt8) : Bool := c == 45 || isC (c.toNat : Int) 5
/-- How many bytes of identifiers a list begins with. -/
def idL : List UInt8 → Nat
  | [] => 0
  | c :: r => if isId c then idL r + 1 else 0
theorem idL_le : ∀ l : List UInt8, idL l ≤ l.length
  | [] => Nat.le_refl _
  | c :: r => by
    unfold idL
    have := idL_le r
    split <;> simp <;> omega
/-- Digits alone. -/
def digB (l : List UInt8) : Bool := !l.isEmpty && (runL 1 l == l.length)
/-- A number with a nought ahead. -/
def zeroB (l : List UInt8) : Bool := decide (1 < l.length) && (l.head? == some 48) && digB l
/-- A number. -/
def numB (l : List UInt8) : Bool := digB l && !zeroB l
/-- An identifier. -/
def idB (l : List UInt8) : Bool := !l.isEmpty && (idL l == l.length)
/-- An identifier of Pre. -/
def preB (l : List UInt8) : Bool := idB l && !zeroB l
/-- The error where a part can't begin or go on. -/
def misL (n a : Nat) : Int := if a = n then 11 else 10
/-- What stands between two places. -/
def seg (l : List UInt8) (a e : Nat) : List UInt8 := (l.take e).drop a
theorem extract_seg (s : ByteArray) (a e : Nat) : s.extract a e = ofL (seg s.data.toList a e) := extract_ofL s a e
theorem extract_data (s : ByteArray) (a e : Nat) : (s.extract a e).data.toList = seg s.data.toList a e := by rw [extract_seg, ofL_data]
theorem seg_len (l : List UInt8) (a e : Nat) (h : e ≤ l.length) : (seg l a e).length = e - a := by simp [seg]; omega

theorem idL_hit (s : ByteArray) (i : Nat) (h : i < s.size) (hc : isId s[i] = true) : idL (s.data.toList.drop i) = idL (s.data.toList.drop (i + 1)) + 1 := by
  rw [drop_at s i h, idL, if_pos hc]
theorem idL_miss (s : ByteArray) (i : Nat) (h : i < s.size) (hc : isId s[i] = false) : idL (s.data.toList.drop i) = 0 := by
  rw [drop_at s i h, idL, if_neg (by simp [hc])]
theorem idL_end (s : ByteArray) (i : Nat) (h : s.size ≤ i) : idL (s.data.toList.drop i) = 0 := by
  rw [drop_end s i h, idL]
theorem idL_drop_le (s : ByteArray) (a : Nat) (h : a ≤ s.size) : a + idL (s.data.toList.drop a) ≤ s.size := by
  have := idL_le (s.data.toList.drop a)
  rw [List.length_drop, len_data] at this
  omega
theorem runL_drop_le (k : Int) (s : ByteArray) (a : Nat) (h : a ≤ s.size) : a + runL k (s.data.toList.drop a) ≤ s.size := by
  have := runL_le k (s.data.toList.drop a)
  rw [List.length_drop, len_data] at this
  omega

/-- What is wrong at the end of an identifier. -/
def wrongL (pre : Bool) (l : List UInt8) (x : List UInt8) (e : Nat) : Int :=
  if x = [] then misL l.length e else if !pre || !zeroB x then 0 else if l[e]? = some 46 ∨ l[e]? = some 43 then 14 else misL l.length e

/-- A number at a place: where it ends, or what is wrong and where. -/
def numR (l : List UInt8) (a : Nat) : Except (Int × Nat) Nat :=
  if runL 1 (l.drop a) = 0 then .error (misL l.length a, a) else if zeroB (seg l a (a + runL 1 (l.drop a))) then .error (14, a + 1) else .ok (a + runL 1 (l.drop a))
/-- A dot at a place. -/
def dotR (l : List UInt8) (a : Nat) : Except (Int × Nat) Nat := if l[a]? = some 46 then .ok (a + 1) else .error (misL l.length a, a)
/-- Three numbers with dots between. -/
def numsR (l : List UInt8) : Except (Int × Nat) (Nat × Nat × Nat × Nat × Nat) :=
  match numR l 0 with
  | .error x => .error x
  | .ok a => match dotR l a with
    | .error x => .error x
    | .ok b => match numR l b with
      | .error x => .error x
      | .ok c => match dotR l c with
        | .error x => .error x
        | .ok d => match numR l d with
          | .error x => .error x
          | .ok e => .ok (a, b, c, d, e)

/-- Identifiers from a place on, with dots between: where each begins and ends; the last one may be empty. -/
def segs (l : List UInt8) (a : Nat) : List (Nat × Nat) :=
  (a, a + idL (l.drop a)) :: if h : l[a + idL (l.drop a)]? = some 46 then segs l (a + idL (l.drop a) + 1) else []
  termination_by l.length - a
  decreasing_by
    have := (List.getElem?_eq_some_iff.1 h).1
    omega
theorem segs_dot (l : List UInt8) (a e : Nat) (he : a + idL (l.drop a) = e) (h : l[e]? = some 46) : segs l a = (a, e) :: segs l (e + 1) := by
  rw [segs]
  subst he
  rw [dif_pos h]
theorem segs_last (l : List UInt8) (a e : Nat) (he : a + idL (l.drop a) = e) (h : ¬ l[e]? = some 46) : segs l a = [(a, e)] := by
  rw [segs]
  subst he
  rw [dif_neg h]
theorem segs_len (l : List UInt8) : ∀ (n a : Nat), l.length - a = n → (segs l a).length ≤ l.length - a + 1 := by
  intro n
  induction n using Nat.strongRecOn with
  | _ n ih =>
    intro a hn
    by_cases h : l[a + idL (l.drop a)]? = some 46
    · rw [segs_dot l a _ rfl h]
      have hlt := (List.getElem?_eq_some_iff.1 h).1
      have := ih (l.length - (a + idL (l.drop a) + 1)) (by omega) (a + idL (l.drop a) + 1) rfl
      simp only [List.length_cons]
      omega
    · rw [segs_last l a _ rfl h]
      simp

/-- The place behind the last one. -/
def lastE (z : Nat) (xs : List (Nat × Nat)) : Nat := match xs.getLast? with | some x => x.2 | none => z
theorem lastE_nil (z : Nat) : lastE z [] = z := rfl
theorem lastE_snoc (z : Nat) (xs : List (Nat × Nat)) (x : Nat × Nat) : lastE z (xs ++ [x]) = x.2 := by simp [lastE]
/-- The first identifier that is wrong: the error, and its place. -/
def badOf (p : Bool) (l : List UInt8) : List (Nat × Nat) → Option (Int × Nat)
  | [] => none
  | x :: r => if wrongL p l (seg l x.1 x.2) x.2 = 0 then badOf p l r else some (wrongL p l (seg l x.1 x.2) x.2, x.2)
theorem badOf_app (p : Bool) (l : List UInt8) : ∀ xs ys : List (Nat × Nat), badOf p l xs = none → badOf p l (xs ++ ys) = badOf p l ys
  | [], ys, _ => rfl
  | x :: r, ys, h => by
    by_cases hx : wrongL p l (seg l x.1 x.2) x.2 = 0
    · rw [badOf, if_pos hx] at h
      rw [List.cons_append, badOf, if_pos hx]
      exact badOf_app p l r ys h
    · rw [badOf, if_neg hx] at h; cases h
/-- Identifiers at a place: which, and the place behind them. -/
def idsR (p : Bool) (l : List UInt8) (a : Nat) : Except (Int × Nat) (List (Nat × Nat) × Nat) :=
  match badOf p l (segs l a) with
  | some x => .error x
  | none => .ok (segs l a, lastE a (segs l a))
theorem idsR_bad (p : Bool) (l : List UInt8) (a : Nat) (pre : List (Nat × Nat)) (x : Nat × Nat) (hb : badOf p l pre = none) (hx : wrongL p l (seg l x.1 x.2) x.2 ≠ 0) (h : pre ++ [x] <+: segs l a) : idsR p l a = .error (wrongL p l (seg l x.1 x.2) x.2, x.2) := by
  obtain ⟨r, hr⟩ := h
  unfold idsR
  rw [← hr, List.append_assoc, badOf_app p l pre _ hb]
  simp [badOf, hx]
theorem idsR_ok (p : Bool) (l : List UInt8) (a : Nat) (hb : badOf p l (segs l a) = none) : idsR p l a = .ok (segs l a, lastE a (segs l a)) := by
  unfold idsR; rw [hb]
/-- Build at a place, and the text's end. -/
def buildR (l : List UInt8) (p : Nat) (pre : List (Nat × Nat)) : Except (Int × Nat) (List (Nat × Nat) × List (Nat × Nat)) :=
  if l[p]? = some 43 then
    match idsR false l (p + 1) with
    | .error x => .error x
    | .ok (b, q) => if q < l.length then .error (10, q) else .ok (pre, b)
  else if p < l.length then .error (10, p) else .ok (pre, [])
/-- Pre and Build at a place. -/
def tailR (l : List UInt8) (e : Nat) : Except (Int × Nat) (List (Nat × Nat) × List (Nat × Nat)) :=
  if l[e]? = some 45 then
    match idsR true l (e + 1) with
    | .error x => .error x
    | .ok (pre, p) => buildR l p pre
  else buildR l e []
/-- A version's parts, by their places. -/
structure Cuts where
  a : Nat
  b : Nat
  c : Nat
  d : Nat
  e : Nat
  pre : List (Nat × Nat)
  bld : List (Nat × Nat)
/-- A version is read: its parts, or what is wrong and where. -/
def parseR (l : List UInt8) : Except (Int × Nat) Cuts :=
  if 64 < l.length then .error (12, 64) else
    match numsR l with
    | .error x => .error x
    | .ok (a, b, c, d, e) =>
      match tailR l e with
      | .error x => .error x
      | .ok (pre, bld) => .ok ⟨a, b, c, d, e, pre, bld⟩

/-- Each identifier ends where no byte of identifiers stands. -/
theorem segs_ends (l : List UInt8) : ∀ (n a : Nat), l.length - a = n → a ≤ l.length → ∀ x ∈ segs l a, x.1 ≤ x.2 ∧ x.2 ≤ l.length ∧ idL (l.drop x.2) = 0 := by
  have hz : ∀ m : List UInt8, idL (m.drop (idL m)) = 0 := by
    intro m
    induction m with
    | nil => rfl
    | cons c r ih =>
      by_cases hc : isId c = true
      · rw [idL, if_pos hc, List.drop_succ_cons]; exact ih
      · have : idL (c :: r) = 0 := by rw [idL, if_neg hc]
        rw [this, List.drop_zero, this]
  intro n
  induction n using Nat.strongRecOn with
  | _ n ih =>
    intro a hn ha x hx
    have he := idL_le (l.drop a)
    rw [List.length_drop] at he
    have h0 : (a, a + idL (l.drop a)).1 ≤ (a, a + idL (l.drop a)).2 ∧ (a, a + idL (l.drop a)).2 ≤ l.length ∧ idL (l.drop (a, a + idL (l.drop a)).2) = 0 := by
      refine ⟨by simp, by simp; omega, ?_⟩
      have := hz (l.drop a)
      rw [List.drop_drop] at this
      exact this
    by_cases h : l[a + idL (l.drop a)]? = some 46
    · rw [segs_dot l a _ rfl h] at hx
      have hlt := (List.getElem?_eq_some_iff.1 h).1
      rcases List.mem_cons.1 hx with rfl | hx
      · exact h0
      · exact ih (l.length - (a + idL (l.drop a) + 1)) (by omega) (a + idL (l.drop a) + 1) rfl (by omega) x hx
    · rw [segs_last l a _ rfl h] at hx
      obtain rfl : x = _ := List.mem_singleton.1 hx
      exact h0
theorem segs_ne (l : List UInt8) (a : Nat) : segs l a ≠ [] := by
  rw [segs]; simp
theorem segs_lastE (l : List UInt8) (z a : Nat) : lastE z (segs l a) = lastE a (segs l a) := by
  unfold lastE
  cases h : (segs l a).getLast? with
  | none => exact absurd (List.getLast?_eq_none_iff.1 h) (segs_ne l a)
  | some x => rfl
theorem lastE_ends (l : List UInt8) (a : Nat) (ha : a ≤ l.length) : lastE a (segs l a) ≤ l.length ∧ idL (l.drop (lastE a (segs l a))) = 0 := by
  have hm : ∃ x ∈ segs l a, lastE a (segs l a) = x.2 := by
    unfold lastE
    cases h : (segs l a).getLast? with
    | none => exact absurd (List.getLast?_eq_none_iff.1 h) (segs_ne l a)
    | some x => exact ⟨x, List.mem_of_getLast? h, rfl⟩
  obtain ⟨x, hx, e⟩ := hm
  have := segs_ends l _ a rfl ha x hx
  rw [e]
  exact ⟨this.2.1, this.2.2⟩

end Go.Proofs.Ytkngmgdcnplkgaa
