/-
  Plain laws: texts of digits stand in the order of their numbers. · Plain functions of versions: identifiers, numbers, where a text goes wrong; no program is named here.
-/
import Derived.Test.YtaflflelcdcanaaGreatZWd
import Derived.Test.YtaflflelcdcanaaGreatZPlainB
namespace Go.Proofs.YtaflflelcdcanaaGreat

/-- The number of digits. -/
def val : List UInt8 → Nat
  | [] => 0
  | c :: r => (c.toNat - 48) * 10 ^ r.length + val r

def cmpN (x y : Nat) : Int := if x < y then -1 else if y < x then 1 else 0

theorem allD_tail {c : UInt8} {r : List UInt8} (h : AllD (c :: r)) : AllD r := fun x hx => h x (List.mem_cons_of_mem _ hx)
theorem allD_head {c : UInt8} {r : List UInt8} (h : AllD (c :: r)) : 48 ≤ c.toNat ∧ c.toNat ≤ 57 := h c List.mem_cons_self

theorem val_lt : ∀ l : List UInt8, AllD l → val l < 10 ^ l.length
  | [], _ => by simp [val]
  | c :: r, h => by
    have ih := val_lt r (allD_tail h)
    have hc := allD_head h
    rw [val, List.length_cons, Nat.pow_succ]
    have h9 : (c.toNat - 48) * 10 ^ r.length ≤ 9 * 10 ^ r.length := Nat.mul_le_mul_right _ (by omega)
    omega

theorem val_trim : ∀ l : List UInt8, val (trimL l) = val l
  | [] => by simp [trimL, val]
  | c :: r => by
    unfold trimL
    split
    · rename_i h; rw [val_trim r, val, h]; simp
    · rfl

theorem val_nought (l : List UInt8) : val (48 :: l) = val l := by simp [val]

theorem cmpB_val : ∀ a b : List UInt8, AllD a → AllD b → a.length = b.length → Lib.compareBytes a b = cmpN (val a) (val b)
  | [], [], _, _, _ => by simp [Lib.compareBytes, cmpN, val]
  | [], _ :: _, _, _, h => by simp at h
  | _ :: _, [], _, _, h => by simp at h
  | c :: a, d :: b, ha, hb, h => by
    have hl : a.length = b.length := by simpa using h
    have ih := cmpB_val a b (allD_tail ha) (allD_tail hb) hl
    have va := val_lt a (allD_tail ha)
    have vb := val_lt b (allD_tail hb)
    have hc := allD_head ha
    have hd := allD_head hb
    rw [Lib.compareBytes, val, val, hl]
    rw [hl] at va
    generalize 10 ^ b.length = p at *
    by_cases h1 : c < d
    · have h1' : c.toNat < d.toNat := UInt8.lt_iff_toNat_lt.1 h1
      have hm : (c.toNat - 48 + 1) * p ≤ (d.toNat - 48) * p := Nat.mul_le_mul_right _ (by omega)
      rw [Nat.add_mul, Nat.one_mul] at hm
      rw [if_pos h1, cmpN, if_pos (by omega)]
    · by_cases h2 : d < c
      · have h2' : d.toNat < c.toNat := UInt8.lt_iff_toNat_lt.1 h2
        have hm : (d.toNat - 48 + 1) * p ≤ (c.toNat - 48) * p := Nat.mul_le_mul_right _ (by omega)
        rw [Nat.add_mul, Nat.one_mul] at hm
        rw [if_neg h1, if_pos h2, cmpN, if_neg (by omega), if_pos (by omega)]
      · have he : c = d := UInt8.le_antisymm (UInt8.not_lt.1 h2) (UInt8.not_lt.1 h1)
        subst he
        rw [if_neg h1, if_neg h2, ih]
        unfold cmpN
        simp only [Nat.add_lt_add_iff_left]

/-- A trimmed text that is longer stands behind. -/
theorem val_longer (a b : List UInt8) (ha : AllD a) (hb : AllD b) (h : (trimL a).length < (trimL b).length) : val a < val b := by
  have hA := trimL_allD a ha
  have hB := trimL_allD b hb
  have la := val_lt _ hA
  have pa := trimL_pos a
  rw [← val_trim a, ← val_trim b]
  rcases trim_parts b with ⟨n, c, r, _, hc, ht⟩ | ⟨_, ht⟩
  · rw [ht] at h hB ⊢
    have hh := allD_head hB
    have hne : c.toNat ≠ 48 := fun e => hc (UInt8.toNat_inj.1 e)
    have hle : 10 ^ (trimL a).length ≤ 10 ^ r.length := Nat.pow_le_pow_right (by omega) (by simp at h; omega)
    have hm : 1 * 10 ^ r.length ≤ (c.toNat - 48) * 10 ^ r.length := Nat.mul_le_mul_right _ (by omega)
    rw [val]
    omega
  · rw [ht, List.length_singleton] at h
    omega

theorem cmpD_val (a b : List UInt8) (ha : AllD a) (hb : AllD b) : cmpD a b = cmpN (val a) (val b) := by
  unfold cmpD
  by_cases h1 : (trimL a).length < (trimL b).length
  · rw [if_pos h1, cmpN, if_pos (val_longer a b ha hb h1)]
  · by_cases h2 : (trimL b).length < (trimL a).length
    · have := val_longer b a hb ha h2
      rw [if_neg h1, if_pos h2, cmpN, if_neg (by omega), if_pos this]
    · rw [if_neg h1, if_neg h2, cmpB_val _ _ (trimL_allD a ha) (trimL_allD b hb) (by omega), val_trim, val_trim]

theorem cmpB_eq (a b : List UInt8) (h : Lib.compareBytes a b = 0) : a = b := by
  rcases cmp3 a b with ⟨h1, _⟩ | ⟨_, _, he⟩ | ⟨h1, _⟩
  · omega
  · simpa using he
  · omega

theorem trim_iff (a b : List UInt8) (ha : AllD a) (hb : AllD b) : trimL a = trimL b ↔ val a = val b := by
  constructor
  · intro h
    rw [← val_trim a, ← val_trim b, h]
  · intro h
    have hc := cmpD_val a b ha hb
    rw [h, cmpN, if_neg (by omega), if_neg (by omega)] at hc
    unfold cmpD at hc
    split at hc
    · omega
    · split at hc
      · omega
      · exact cmpB_eq _ _ hc

/-- The number of digits from the last on. -/
def vr : List UInt8 → Nat
  | [] => 0
  | c :: r => (c.toNat - 48) + 10 * vr r
theorem vr_app : ∀ (l : List UInt8) (c : UInt8), vr (l ++ [c]) = vr l + (c.toNat - 48) * 10 ^ l.length
  | [], c => by simp [vr]
  | d :: r, c => by
    rw [List.cons_append, vr, vr, vr_app r c, List.length_cons, Nat.pow_succ, Nat.mul_add, Nat.mul_left_comm]
    have : (c.toNat - 48) * (10 ^ r.length * 10) = (c.toNat - 48) * (10 * 10 ^ r.length) := by rw [Nat.mul_comm (10 ^ r.length) 10]
    omega
theorem val_vr : ∀ l : List UInt8, val l = vr l.reverse
  | [] => rfl
  | c :: r => by
    rw [val, List.reverse_cons, vr_app, val_vr r, List.length_reverse]
    omega
theorem vr_inc : ∀ l : List UInt8, AllD l → vr (incR l) = vr l + 1
  | [], _ => rfl
  | c :: r, h => by
    have hc := allD_head h
    unfold incR
    split
    · rename_i e
      rw [vr, vr_inc r (allD_tail h), vr, e]
      show 48 - 48 + 10 * (vr r + 1) = 57 - 48 + 10 * vr r + 1
      omega
    · rename_i e
      have hne : c.toNat ≠ 57 := fun e' => e (UInt8.toNat_inj.1 e')
      have e1 : (c + 1).toNat = (c.toNat + 1) % 256 := UInt8.toNat_add c 1
      rw [vr, vr, e1]
      omega
theorem allD_inc : ∀ l : List UInt8, AllD l → AllD (incR l)
  | [], _ => by intro x hx; simp [incR] at hx; subst hx; decide
  | c :: r, h => by
    have hc := allD_head h
    unfold incR
    split
    · intro x hx
      rcases List.mem_cons.1 hx with rfl | hx
      · decide
      · exact allD_inc r (allD_tail h) x hx
    · rename_i e
      have hne : c.toNat ≠ 57 := fun e' => e (UInt8.toNat_inj.1 e')
      have e1 : (c + 1).toNat = (c.toNat + 1) % 256 := UInt8.toNat_add c 1
      intro x hx
      rcases List.mem_cons.1 hx with rfl | hx
      · omega
      · exact allD_tail h x hx
theorem allD_rev (l : List UInt8) (h : AllD l) : AllD l.reverse := fun x hx => h x (List.mem_reverse.1 hx)
theorem incL_val (l : List UInt8) (h : AllD l) : val (incL l) = val l + 1 ∧ AllD (incL l) := by
  unfold incL
  refine ⟨?_, allD_rev _ (allD_inc _ (allD_rev _ h))⟩
  rw [val_vr, List.reverse_reverse, vr_inc _ (allD_rev _ h), ← val_vr]
theorem incR_len : ∀ l : List UInt8, (incR l).length ≤ l.length + 1
  | [] => by simp [incR]
  | c :: r => by
    have := incR_len r
    unfold incR
    split <;> simp <;> omega
theorem nextL_val (l : List UInt8) (h : AllD l) : val (nextL l) = val l + 1 ∧ AllD (nextL l) := by
  unfold nextL
  rw [if_pos (run_of_allD l h), ← val_trim l]
  exact incL_val _ (trimL_allD l h)
theorem nextL_len (l : List UInt8) : (nextL l).length ≤ l.length + 2 := by
  unfold nextL
  split
  · have h1 := incR_len (trimL l).reverse
    have h2 := trimL_le l
    rw [List.length_reverse] at h1
    unfold incL
    rw [List.length_reverse]
    omega
  · simp
theorem allD_dig (l : List UInt8) : AllD (l.map digC) := by
  intro x hx
  obtain ⟨c, _, rfl⟩ := List.mem_map.1 hx
  have := dig10 c
  omega

end Go.Proofs.YtaflflelcdcanaaGreat

namespace Go.Proofs.YtaflflelcdcanaaGreat

/-- A byte of identifiers. -/
def isId (c : UInt8) : Bool := c == 45 || isC (c.toNat : Int) 5
/-- How many bytes of identifiers a list begins with. -/
def idL : List UInt8 → Nat
  | [] => 0
  | c :: r => if isId c then idL r + 1 else 0
theorem idL_le : ∀ l : List UInt8, idL l ≤ l.length
  | [] => Nat.le_refl _
  | c :: r => by
    unfold idL
    have := idL_le r
    split <;> simp <;> omega
/-- Digits alone. -/
def digB (l : List UInt8) : Bool := !l.isEmpty && (runL 1 l == l.length)
/-- A number with a nought ahead. -/
def zeroB (l : List UInt8) : Bool := decide (1 < l.length) && (l.head? == some 48) && digB l
/-- A number. -/
def numB (l : List UInt8) : Bool := digB l && !zeroB l
/-- An identifier. -/
def idB (l : List UInt8) : Bool := !l.isEmpty && (idL l == l.length)
/-- An identifier of Pre. -/
def preB (l : List UInt8) : Bool := idB l && !zeroB l
/-- The error where a part can't begin or go on. -/
def misL (n a : Nat) : Int := if a = n then 11 else 10
/-- What stands between two places. -/
def seg (l : List UInt8) (a e : Nat) : List UInt8 := (l.take e).drop a
theorem extract_seg (s : ByteArray) (a e : Nat) : s.extract a e = ofL (seg s.data.toList a e) := extract_ofL s a e
theorem extract_data (s : ByteArray) (a e : Nat) : (s.extract a e).data.toList = seg s.data.toList a e := by rw [extract_seg, ofL_data]
theorem seg_len (l : List UInt8) (a e : Nat) (h : e ≤ l.length) : (seg l a e).length = e - a := by simp [seg]; omega

theorem idL_hit (s : ByteArray) (i : Nat) (h : i < s.size) (hc : isId s[i] = true) : idL (s.data.toList.drop i) = idL (s.data.toList.drop (i + 1)) + 1 := by
  rw [drop_at s i h, idL, if_pos hc]
theorem idL_miss (s : ByteArray) (i : Nat) (h : i < s.size) (hc : isId s[i] = false) : idL (s.data.toList.drop i) = 0 := by
  rw [drop_at s i h, idL, if_neg (by simp [hc])]
theorem idL_end (s : ByteArray) (i : Nat) (h : s.size ≤ i) : idL (s.data.toList.drop i) = 0 := by
  rw [drop_end s i h, idL]
theorem idL_drop_le (s : ByteArray) (a : Nat) (h : a ≤ s.size) : a + idL (s.data.toList.drop a) ≤ s.size := by
  have := idL_le (s.data.toList.drop a)
  rw [List.length_drop, len_data] at this
  omega
theorem runL_drop_le (k : Int) (s : ByteArray) (a : Nat) (h : a ≤ s.size) : a + runL k (s.data.toList.drop a) ≤ s.size := by
  have := runL_le k (s.data.toList.drop a)
  rw [List.length_drop, len_data] at this
  omega

/-- What is wrong at the end of an identifier. -/
def wrongL (pre : Bool) (l : List UInt8) (x : List UInt8) (e : Nat) : Int :=
  if x = [] then misL l.length e else if !pre || !zeroB x then 0 else if l[e]? = some 46 ∨ l[e]? = some 43 then 14 else misL l.length e

/-- A number at a place: where it ends, or what is wrong and where. -/
def numR (l : List UInt8) (a : Nat) : Except (Int × Nat) Nat :=
  if runL 1 (l.drop a) = 0 then .error (misL l.length a, a) else if zeroB (seg l a (a + runL 1 (l.drop a))) then .error (14, a + 1) else .ok (a + runL 1 (l.drop a))
/-- A dot at a place. -/
def dotR (l : List UInt8) (a : Nat) : Except (Int × Nat) Nat := if l[a]? = some 46 then .ok (a + 1) else .error (misL l.length a, a)
/-- Three numbers with dots between. -/
def numsR (l : List UInt8) : Except (Int × Nat) (Nat × Nat × Nat × Nat × Nat) :=
  match numR l 0 with
  | .error x => .error x
  | .ok a => match dotR l a with
    | .error x => .error x
    | .ok b => match numR l b with
      | .error x => .error x
      | .ok c => match dotR l c with
        | .error x => .error x
        | .ok d => match numR l d with
          | .error x => .error x
          | .ok e => .ok (a, b, c, d, e)

/-- Identifiers from a place on, with dots between: where each begins and ends; the last one may be empty. -/
def segs (l : List UInt8) (a : Nat) : List (Nat × Nat) :=
  (a, a + idL (l.drop a)) :: if h : l[a + idL (l.drop a)]? = some 46 then segs l (a + idL (l.drop a) + 1) else []
  termination_by l.length - a
  decreasing_by
    have := (List.getElem?_eq_some_iff.1 h).1
    omega
theorem segs_dot (l : List UInt8) (a e : Nat) (he : a + idL (l.drop a) = e) (h : l[e]? = some 46) : segs l a = (a, e) :: segs l (e + 1) := by
  rw [segs]
  subst he
  rw [dif_pos h]
theorem segs_last (l : List UInt8) (a e : Nat) (he : a + idL (l.drop a) = e) (h : ¬ l[e]? = some 46) : segs l a = [(a, e)] := by
  rw [segs]
  subst he
  rw [dif_neg h]
theorem segs_len (l : List UInt8) : ∀ (n a : Nat), l.length - a = n → (segs l a).length ≤ l.length - a + 1 := by
  intro n
  induction n using Nat.strongRecOn with
  | _ n ih =>
    intro a hn
    by_cases h : l[a + idL (l.drop a)]? = some 46
    · rw [segs_dot l a _ rfl h]
      have hlt := (List.getElem?_eq_some_iff.1 h).1
      have := ih (l.length - (a + idL (l.drop a) + 1)) (by omega) (a + idL (l.drop a) + 1) rfl
      simp only [List.length_cons]
      omega
    · rw [segs_last l a _ rfl h]
      simp

/-- The place behind the last one. -/
def lastE (z : Nat) (xs : List (Nat × Nat)) : Nat := match xs.getLast? with | some x => x.2 | none => z
theorem lastE_nil (z : Nat) : lastE z [] = z := rfl
theorem lastE_snoc (z : Nat) (xs : List (Nat × Nat)) (x : Nat × Nat) : lastE z (xs ++ [x]) = x.2 := by simp [lastE]
/-- The first identifier that is wrong: the error, and its place. -/
def badOf (p : Bool) (l : List UInt8) : List (Nat × Nat) → Option (Int × Nat)
  | [] => none
  | x :: r => if wrongL p l (seg l x.1 x.2) x.2 = 0 then badOf p l r else some (wrongL p l (seg l x.1 x.2) x.2, x.2)
theorem badOf_app (p : Bool) (l : List UInt8) : ∀ xs ys : List (Nat × Nat), badOf p l xs = none → badOf p l (xs ++ ys) = badOf p l ys
  | [], ys, _ => rfl
  | x :: r, ys, h => by
    by_cases hx : wrongL p l (seg l x.1 x.2) x.2 = 0
    · rw [badOf, if_pos hx] at h
      rw [List.cons_append, badOf, if_pos hx]
      exact badOf_app p l r ys h
    · rw [badOf, if_neg hx] at h; cases h
/-- Identifiers at a place: which, and the place behind them. -/
def idsR (p : Bool) (l : List UInt8) (a : Nat) : Except (Int × Nat) (List (Nat × Nat) × Nat) :=
  match badOf p l (segs l a) with
  | some x => .error x
  | none => .ok (segs l a, lastE a (segs l a))
theorem idsR_bad (p : Bool) (l : List UInt8) (a : Nat) (pre : List (Nat × Nat)) (x : Nat × Nat) (hb : badOf p l pre = none) (hx : wrongL p l (seg l x.1 x.2) x.2 ≠ 0) (h : pre ++ [x] <+: segs l a) : idsR p l a = .error (wrongL p l (seg l x.1 x.2) x.2, x.2) := by
  obtain ⟨r, hr⟩ := h
  unfold idsR
  rw [← hr, List.append_assoc, badOf_app p l pre _ hb]
  simp [badOf, hx]
theorem idsR_ok (p : Bool) (l : List UInt8) (a : Nat) (hb : badOf p l (segs l a) = none) : idsR p l a = .ok (segs l a, lastE a (segs l a)) := by
  unfold idsR; rw [hb]
/-- Build at a place, and the text's end. -/
def buildR (l : List UInt8) (p : Nat) (pre : List (Nat × Nat)) : Except (Int × Nat) (List (Nat × Nat) × List (Nat × Nat)) :=
  if l[p]? = some 43 then
    match idsR false l (p + 1) with
    | .error x => .error x
    | .ok (b, q) => if q < l.length then .error (10, q) else .ok (pre, b)
  else if p < l.length then .error (10, p) else .ok (pre, [])
/-- Pre and Build at a place. -/
def tailR (l : List UInt8) (e : Nat) : Except (Int × Nat) (List (Nat × Nat) × List (Nat × Nat)) :=
  if l[e]? = some 45 then
    match idsR true l (e + 1) with
    | .error x => .error x
    | .ok (pre, p) => buildR l p pre
  else buildR l e []
/-- A version's parts, by their places. -/
structure Cuts where
  a : Nat
  b : Nat
  c : Nat
  d : Nat
  e : Nat
  pre : List (Nat × Nat)
  bld : List (Nat × Nat)
/-- A version is read: its parts, or what is wrong and where. -/
def parseR (l : List UInt8) : Except (Int × Nat) Cuts :=
  if 64 < l.length then .error (12, 64) else
    match numsR l with
    | .error x => .error x
    | .ok (a, b, c, d, e) =>
      match tailR l e with
      | .error x => .error x
      | .ok (pre, bld) => .ok ⟨a, b, c, d, e, pre, bld⟩

/-- Each identifier ends where no byte of identifiers stands. -/
theorem segs_ends (l : List UInt8) : ∀ (n a : Nat), l.length - a = n → a ≤ l.length → ∀ x ∈ segs l a, x.1 ≤ x.2 ∧ x.2 ≤ l.length ∧ idL (l.drop x.2) = 0 := by
  have hz : ∀ m : List UInt8, idL (m.drop (idL m)) = 0 := by
    intro m
    induction m with
    | nil => rfl
    | cons c r ih =>
      by_cases hc : isId c = true
      · rw [idL, if_pos hc, List.drop_succ_cons]; exact ih
      · have : idL (c :: r) = 0 := by rw [idL, if_neg hc]
        rw [this, List.drop_zero, this]
  intro n
  induction n using Nat.strongRecOn with
  | _ n ih =>
    intro a hn ha x hx
    have he := idL_le (l.drop a)
    rw [List.length_drop] at he
    have h0 : (a, a + idL (l.drop a)).1 ≤ (a, a + idL (l.drop a)).2 ∧ (a, a + idL (l.drop a)).2 ≤ l.length ∧ idL (l.drop (a, a + idL (l.drop a)).2) = 0 := by
      refine ⟨by simp, by simp; omega, ?_⟩
      have := hz (l.drop a)
      rw [List.drop_drop] at this
      exact this
    by_cases h : l[a + idL (l.drop a)]? = some 46
    · rw [segs_dot l a _ rfl h] at hx
      have hlt := (List.getElem?_eq_some_iff.1 h).1
      rcases List.mem_cons.1 hx with rfl | hx
      · exact h0
      · exact ih (l.length - (a + idL (l.drop a) + 1)) (by omega) (a + idL (l.drop a) + 1) rfl (by omega) x hx
    · rw [segs_last l a _ rfl h] at hx
      obtain rfl : x = _ := List.mem_singleton.1 hx
      exact h0
theorem segs_ne (l : List UInt8) (a : Nat) : segs l a ≠ [] := by
  rw [segs]; simp
theorem segs_lastE (l : List UInt8) (z a : Nat) : lastE z (segs l a) = lastE a (segs l a) := by
  unfold lastE
  cases h : (segs l a).getLast? with
  | none => exact absurd (List.getLast?_eq_none_iff.1 h) (segs_ne l a)
  | some x => rfl
theorem lastE_ends (l : List UInt8) (a : Nat) (ha : a ≤ l.length) : lastE a (segs l a) ≤ l.length ∧ idL (l.drop (lastE a (segs l a))) = 0 := by
  have hm : ∃ x ∈ segs l a, lastE a (segs l a) = x.2 := by
    unfold lastE
    cases h : (segs l a).getLast? with
    | none => exact absurd (List.getLast?_eq_none_iff.1 h) (segs_ne l a)
    | some x => exact ⟨x, List.mem_of_getLast? h, rfl⟩
  obtain ⟨x, hx, e⟩ := hm
  have := segs_ends l _ a rfl ha x hx
  rw [e]
  exact ⟨this.2.1, this.2.2⟩

end Go.Proofs.YtaflflelcdcanaaGreat
