/- Plain: prerelease and build up to a place, and the same in a -/
import Derived.Test.YtpdlgiioahjhiaaGreatPRe
import Derived.Test.YtpdlgiioahjhiaaGreatPLc
import Derived.Test.YtpdlgiioahjhiaaGreatPEi
namespace Go.Proofs.YtpdlgiioahjhiaaGreat
open Go.RowKit Go.Shelf
set_option linter.unusedVariables false
def qdq (pre : Bool) (l x : QB) (e : Nat) : Int := if x = [] then misL l.length e else if (pre && qcq x) = true then (if l.length ≤ e then 11 else 14) else 0
def idsD (pre : Bool) (l : QB) (L : Nat) : List (Nat × Nat) → Nat × Int
 | [] => (0, 0)
 | x :: r => if L < x.2 then (L, 12) else if qdq pre l (seg l x.1 x.2) x.2 ≠ 0 then (x.2, qdq pre l (seg l x.1 x.2) x.2) else if r = [] then (x.2, 0) else if L ≤ x.2 then (x.2, 12) else idsD pre l L r
def qtj (pre : Bool) (l : QB) (L : Nat) (xs : List (Nat × Nat)) : Prop := ∀ x ∈ xs, x.2 < L ∧ qdq pre l (seg l x.1 x.2) x.2 = 0
theorem qph (pre : Bool) (l : QB) (L : Nat) : ∀ xs ys : List (Nat × Nat), qtj pre l L xs → ys ≠ [] → idsD pre l L (xs ++ ys) = idsD pre l L ys
 | [], _, _, _ => rfl
 | x :: r, ys, h, hy => by
  have hx := h x List.mem_cons_self;rw [List.cons_append, idsD, if_neg (by omega), if_neg (by rw [hx.2]; exact fun h => h rfl), if_neg (by simp [hy]), if_neg (by omega)]
  exact qph pre l L r ys (fun y hy' => h y (List.mem_cons_of_mem _ hy')) hy
theorem qjh (l : QB) (k j : Nat) (hj : k + idL (l.drop k) = j) : ∃ r, qp l k = (k, j) :: r ∧ (r = [] ↔ ¬ l[j]? = some 46) := by
 by_cases h : l[j]? = some 46
 ·exact ⟨_, qdk l k j hj h, by simp [h, qcx]⟩
 ·exact ⟨_, qcs l k j hj h, by simp [h]⟩
section
variable {pre : Bool} {l : List UInt8} {L a k j : Nat} {done : List (Nat × Nat)}
theorem idD_long (hd : done ++ qp l k = qp l a) (hg : qtj pre l L done) (hj : L < k + idL (l.drop k)) : idsD pre l L (qp l a) = (L, 12) := by
 obtain ⟨r, h1, h2⟩ := qjh l k _ rfl;rw [← hd, qph pre l L _ _ hg (qcx l k), h1, idsD, if_pos hj]
theorem qbsg (hd : done ++ qp l k = qp l a) (hg : qtj pre l L done) (hj : k + idL (l.drop k) = k) (hk : k ≤ L) : idsD pre l L (qp l a) = (k, misL l.length k) := by
 obtain ⟨r, h1, h2⟩ := qjh l k k hj;have hw : qdq pre l (seg l k k) k = misL l.length k := by unfold qdq; rw [if_pos (qnx l k)]
 rw [← hd, qph pre l L _ _ hg (qcx l k), h1, idsD, if_neg (by simp; omega)]
 simp only [hw];rw [if_pos (qch _ _)]
theorem qbrr (hd : done ++ qp l k = qp l a) (hg : qtj true l L done) (hj : k + idL (l.drop k) = j) (hk : j ≤ L) (hn : seg l k j ≠ []) (hz : qcq (seg l k j) = true) : idsD true l L (qp l a) = (j, if l.length ≤ j then 11 else 14) := by
 obtain ⟨r, h1, h2⟩ := qjh l k j hj;have hw : qdq true l (seg l k j) j = if l.length ≤ j then 11 else 14 := by unfold qdq; rw [if_neg hn, hz]; simp
 rw [← hd, qph true l L _ _ hg (qcx l k), h1, idsD, if_neg (by simp; omega)]
 simp only [hw];rw [if_pos (by split <;> decide)]
theorem qkn (hn : seg l k j ≠ []) (hz : (pre && qcq (seg l k j)) = false) : qdq pre l (seg l k j) j = 0 := by unfold qdq; rw [if_neg hn, hz]; simp
theorem qkq (hd : done ++ qp l k = qp l a) (hg : qtj pre l L done) (hj : k + idL (l.drop k) = j) (hk : j ≤ L) (hw : qdq pre l (seg l k j) j = 0) (hdot : atB l j 46 = false) : idsD pre l L (qp l a) = (j, 0) ∧ qp l a = done ++ [(k, j)] := by
 have hdot' : ¬ l[j]? = some 46 := fun h => by rw [(qbz l j 46).2 h] at hdot; cases hdot
 rw [← hd, qph pre l L _ _ hg (qcx l k), qcs l k j hj hdot', idsD, if_neg (by simp; omega)]
 simp only [hw];exact ⟨by simp, trivial⟩
theorem qms (hd : done ++ qp l k = qp l a) (hg : qtj pre l L done) (hj : k + idL (l.drop k) = j) (hk : j = L) (hw : qdq pre l (seg l k j) j = 0) (hdot : atB l j 46 = true) : idsD pre l L (qp l a) = (j, 12) := by
 rw [← hd, qph pre l L _ _ hg (qcx l k), qdk l k j hj ((qbz l j 46).1 hdot), idsD, if_neg (by simp; omega)]
 simp only [hw];rw [if_neg (by simp), if_neg (qcx l _), if_pos (by omega)]
theorem qkr (hd : done ++ qp l k = qp l a) (hg : qtj pre l L done) (hj : k + idL (l.drop k) = j) (hk : j < L) (hw : qdq pre l (seg l k j) j = 0) (hdot : atB l j 46 = true) : (done ++ [(k, j)]) ++ qp l (j + 1) = qp l a ∧ qtj pre l L (done ++ [(k, j)]) := by
 refine ⟨?_, ?_⟩
 ·rw [← hd, qdk l k j hj ((qbz l j 46).1 hdot)]; simp
 ·intro x hx;rcases List.mem_append.1 hx with h | h
  ·exact hg x h
  ·rw [List.mem_singleton.1 h]; exact ⟨hk, hw⟩
end
theorem NrAt.alloc {W : World} {B : Nat} {s : QY} {a : Nat} {e p : Int} (h : NrAt W B s a e p) (o : Obj) : NrAt (W.alloc o) B s a e p := (Below.heap_alloc W o B h.lt).trans h
theorem qkk {W W' : World} {B : Nat} {s : QY} {a : Nat} {e p : Int} {row : Option Nat} (h : NrAt W B s a e p) (hg : W.grownBy W' row) (hr : row ≠ some B) : NrAt W' B s a e p := (hg.block B h.lt (fun e => hr e.symm)).trans h
def IdP (s : QY) (pre : Bool) (a B p : Nat) (w : World) (r : Ending) (w' : World) : Prop :=
  NrAt w' B s (idsD pre s.data.toList (p + 48) (qp s.data.toList a)).1 (idsD pre s.data.toList (p + 48) (qp s.data.toList a)).2 p ∧ Turn B w w' ∧
    ((idsD pre s.data.toList (p + 48) (qp s.data.toList a)).2 = 0 ∧ (∃ v, r = .returned v ∧ w'.ownsRow w.heap.size 9 1 v (qp s.data.toList a).length (strs s (qp s.data.toList a)))
      ∨ (idsD pre s.data.toList (p + 48) (qp s.data.toList a)).2 ≠ 0 ∧ r = .returned (.slice none 0 0))
theorem qmw {s : QY} {pre : Bool} {a B p : Nat} {w w' : World} {x : Nat} {e : Int} (h : idsD pre s.data.toList (p + 48) (qp s.data.toList a) = (x, e)) (he : e ≠ 0) (h1 : NrAt w' B s x e p) (h2 : Turn B w w') : IdP s pre a B p w (.returned (.slice none 0 0)) w' := by
 unfold IdP; rw [h]; exact ⟨h1, h2, .inr ⟨he, rfl⟩⟩
theorem qrp {s : QY} {pre : Bool} {a B p : Nat} {w w' : World} {v : Value} {xs : List (Nat × Nat)} {x : Nat} (h : idsD pre s.data.toList (p + 48) (qp s.data.toList a) = (x, 0) ∧ qp s.data.toList a = xs) (h0 : w'.ownsRow w.heap.size 9 1 v xs.length (strs s xs)) (h1 : NrAt w' B s x 0 p) (h2 : Turn B w w') : IdP s pre a B p w (.returned v) w' := by
 unfold IdP; rw [h.1, h.2]; exact ⟨h1, h2, .inl ⟨rfl, v, rfl, h0⟩⟩
theorem qbrm (x : QB) (hx : x ≠ []) : qcq x = (decide (qz 1 x = x.length) && (x.head? == some 48) && decide (1 < x.length)) := by
 unfold qcq digB;cases x with
 | nil => exact absurd rfl hx
 | cons c r =>
  rw [show (qz 1 (c :: r) == (c :: r).length) = decide (qz 1 (c :: r) = (c :: r).length) from rfl];cases decide (qz 1 (c :: r) = (c :: r).length) <;> cases ((c :: r).head? == some 48) <;> cases decide (1 < (c :: r).length) <;> rfl
end Go.Proofs.YtpdlgiioahjhiaaGreat

namespace Go.Proofs.YtpdlgiioahjhiaaGreat
open Go.RowKit Go.Shelf
set_option linter.unusedVariables false
theorem qpp (X Y : QB) (i : Nat) : (X ++ Y)[X.length + i]? = Y[i]? := by
 rw [List.getElem?_append_right (by omega)]; congr 1; omega
theorem qcbd (X Y : QB) (i : Nat) : (X ++ Y).drop (X.length + i) = Y.drop i := by
 rw [← List.drop_drop, qbdm]
theorem qbkw (X Y : QB) (a b : Nat) : seg (X ++ Y) (X.length + a) (X.length + b) = seg Y a b := by
 unfold seg;rw [List.take_length_add_append, qcbd]
theorem qbxd (n m e : Nat) : misL (n + m) (n + e) = misL m e := by
 unfold misL
 by_cases h : e = m
 ·rw [if_pos h, if_pos (by omega)]
 ·rw [if_neg h, if_neg (by omega)]
def shP (n : Nat) (x : Nat × Nat) : Nat × Nat := (n + x.1, n + x.2)
theorem qzh (X Y : QB) : ∀ n i, Y.length - i = n → qp (X ++ Y) (X.length + i) = (qp Y i).map (shP X.length) := by
 intro n
 induction n using Nat.strongRecOn with
 | _ n ih =>
  intro i hn;have hj : X.length + i + idL ((X ++ Y).drop (X.length + i)) = X.length + (i + idL (Y.drop i)) := by rw [qcbd]; omega
  by_cases h : Y[i + idL (Y.drop i)]? = some 46
  ·have hlt := (List.getElem?_eq_some_iff.1 h).1;rw [qdk Y i _ rfl h, qdk (X ++ Y) _ _ hj (by rw [qpp]; exact h), Nat.add_assoc, ih (Y.length - (i + idL (Y.drop i) + 1)) (by omega) _ rfl]
   rfl
  ·rw [qcs Y i _ rfl h, qcs (X ++ Y) _ _ hj (by rw [qpp]; exact h)]
   rfl
theorem qcdg (p : Bool) (X Y : QB) (a e : Nat) : qbv p (X ++ Y) (seg (X ++ Y) (X.length + a) (X.length + e)) (X.length + e) = qbv p Y (seg Y a e) e := by
 unfold qbv;rw [qbkw, qpp, List.length_append, qbxd]
theorem bad_sh (p : Bool) (X Y : QB) : ∀ xs : List (Nat × Nat), qcj p (X ++ Y) (xs.map (shP X.length)) = (qcj p Y xs).map fun y => (y.1, X.length + y.2)
 | [] => rfl
 | x :: r => by
  rw [List.map_cons, qcj, qcj];unfold shP;rw [qcdg]
  by_cases h : qbv p Y (seg Y x.1 x.2) x.2 = 0
  ·rw [if_pos h, if_pos h]; exact bad_sh p X Y r
  ·rw [if_neg h, if_neg h]; rfl
theorem last_sh (n z : Nat) (xs : List (Nat × Nat)) : qcm (n + z) (xs.map (shP n)) = n + qcm z xs := by
 unfold qcm;rw [List.getLast?_map];cases xs.getLast? <;> rfl
theorem qcct (p : Bool) (X Y : QB) (a e : Nat) : qdq p (X ++ Y) (seg (X ++ Y) (X.length + a) (X.length + e)) (X.length + e) = qdq p Y (seg Y a e) e := by
 unfold qdq;rw [qbkw, List.length_append, qbxd];have h9 : (if X.length + Y.length ≤ X.length + e then (11 : Int) else 14) = if Y.length ≤ e then 11 else 14 := by
  by_cases h : Y.length ≤ e
  ·rw [if_pos h, if_pos (by omega)]
  ·rw [if_neg h, if_neg (by omega)]
 rw [h9]
theorem qbnl (p : Bool) (X Y : QB) (L : Nat) : ∀ xs : List (Nat × Nat), xs ≠ [] → idsD p (X ++ Y) (X.length + L) (xs.map (shP X.length)) = (X.length + (idsD p Y L xs).1, (idsD p Y L xs).2)
 | [], h => absurd rfl h
 | x :: r, _ => by
  rw [List.map_cons, idsD, idsD];have h0 : shP X.length x = (X.length + x.1, X.length + x.2) := rfl;rw [h0];simp only [qcct]
  by_cases h1 : L < x.2
  ·rw [if_pos h1, if_pos (by omega)]
  ·rw [if_neg h1, if_neg (by omega)]
   by_cases h2 : qdq p Y (seg Y x.1 x.2) x.2 ≠ 0
   ·rw [if_pos h2, if_pos h2]
   ·rw [if_neg h2, if_neg h2]
    by_cases h3 : r = []
    ·rw [if_pos h3, if_pos (by rw [h3]; rfl)]
    ·rw [if_neg h3, if_neg (by simpa using h3)]
     by_cases h4 : L ≤ x.2
     ·rw [if_pos h4, if_pos (by omega)]
     ·rw [if_neg h4, if_neg (by omega)]
      exact qbnl p X Y L r h3
theorem qccs {P : UInt8 → Prop} (h : ∀ n : Fin 256, P (UInt8.ofNat n.val)) (c : UInt8) : P c := by
 have := h ⟨c.toNat, c.toNat_lt⟩;simpa using this
theorem qnq (c : UInt8) : qfv c = true ↔ isId c = true ∨ c = 46 ∨ c = 43 := by
 exact qccs (P := fun c => qfv c = true ↔ isId c = true ∨ c = 46 ∨ c = 43) (by decide +kernel) c
theorem qtg : ∀ A B : QB, (idL A < A.length → idL (A ++ B) = idL A) ∧ (idL A = A.length → idL (A ++ B) = A.length + idL B)
 | [], B => ⟨fun h => by simp at h, fun _ => by simp⟩
 | c :: r, B => by
  have ih := qtg r B;cases hc : isId c
  ·have h0 : idL (c :: r) = 0 := by unfold idL; rw [hc]; rfl
   have h1 : idL (c :: r ++ B) = 0 := by rw [List.cons_append]; unfold idL; rw [hc]; rfl
   exact ⟨fun _ => by rw [h0, h1], fun h => by rw [h0] at h; simp at h⟩
  ·have h0 : ∀ q : QB, idL (c :: q) = idL q + 1 := by
    intro q;rw [idL, if_pos hc]
   have h1 := h0 (r ++ B);have h0 := h0 r;rw [List.cons_append];rw [h0, h1];refine ⟨fun h => ?_, fun h => ?_⟩
   ·rw [ih.1 (by simp at h; omega)]
   ·rw [ih.2 (by simp at h; omega)]; simp; omega
theorem qzc (l : QB) : ∀ n i, l.length - i = n → ∀ x ∈ qp l i, i + idL (l.drop i) ≤ x.2 := by
 intro n
 induction n using Nat.strongRecOn with
 | _ n ih =>
  intro i hn x hx
  by_cases h : l[i + idL (l.drop i)]? = some 46
  ·have hlt := (List.getElem?_eq_some_iff.1 h).1;rw [qdk l i _ rfl h] at hx;rcases List.mem_cons.1 hx with rfl | hx
   ·exact Nat.le_refl _
   ·have := ih (l.length - (i + idL (l.drop i) + 1)) (by omega) _ rfl x hx
    omega
  ·rw [qcs l i _ rfl h] at hx;rw [List.mem_singleton.1 hx];exact Nat.le_refl _
theorem qbjd (z : Nat) (x : Nat × Nat) (xs : List (Nat × Nat)) (h : xs ≠ []) : qcm z (x :: xs) = qcm z xs := by
 cases xs with
 | nil => exact absurd rfl h
 | cons y r => unfold qcm; rw [List.getLast?_cons_cons]
end Go.Proofs.YtpdlgiioahjhiaaGreat

namespace Go.Proofs.YtpdlgiioahjhiaaGreat
open Go.RowKit Go.Shelf
open List renaming getElem?_eq_getElem → qcfb
set_option linter.unusedVariables false
set_option maxRecDepth 10000
def GL (L z : Nat) (r : Int) : Nat × Int := if L < z then (L, 12) else (z, r)
theorem qbhs {L z : Nat} (r : Int) (h : z ≤ L) : GL L z r = (z, r) := if_neg (by omega)
theorem qblb {L z : Nat} (r : Int) (h : L < z) : GL L z r = (L, 12) := if_pos h
def finD (Y Z : QB) (L : Nat) (y : Int × Nat) : Nat × Int :=
 if y.1 ≠ 11 then GL L y.2 y.1
 else if Z ≠ [] ∧ (Y[Y.length - 1]?.map fun c => isC (c.toNat : Int) 1) = some true then GL L Y.length 14 else GL L Y.length (misL (Y.length + Z.length) Y.length)
structure Clip (Y Z : QB) (L : Nat) : Prop where
 all : ∀ c ∈ Y, qfv c = true
 stop : (∀ c, Z.head? = some c → qfv c = false) ∨ L < Y.length
theorem qlj {Y Z : QB} {L : Nat} {y : Int × Nat} (h : L < y.2) (hle : y.2 ≤ Y.length) : finD Y Z L y = (L, 12) := by
 unfold finD;split
 ·exact qblb _ h
 ·split
  ·exact qblb _ (by omega)
  ·exact qblb _ (by omega)
theorem qbgx {z : Nat} {xs : List (Nat × Nat)} (h : xs ≠ []) {P : Nat → Prop} (hp : ∀ x ∈ xs, P x.2) : P (qcm z xs) := by
 obtain ⟨y, hy, he⟩ := qbqc (z := z) h;rw [he];exact hp y hy
theorem qbrs {p : Bool} {Y : QB} {i L : Nat} {xs : List (Nat × Nat)} (hle : ∀ x ∈ xs, x.2 ≤ Y.length) (hx : ∀ x ∈ xs, L < x.2) (hn : xs ≠ []) (Z : QB) :
  (∃ y, qcj p Y xs = some y ∧ finD Y Z L y = (L, 12)) ∨ (qcj p Y xs = none ∧ L < qcm i xs) := by
 cases hb : qcj p Y xs with
 | none => exact .inr ⟨rfl, qbgx hn hx⟩
 | some y =>
  obtain ⟨x, h1, h2⟩ := qzn p Y xs y hb;exact .inl ⟨y, rfl, qlj (by rw [← h2]; exact hx x h1) (by rw [← h2]; exact hle x h1)⟩
theorem qbzf : ∀ l : QB, qz 1 l = l.length → ∀ c ∈ l, isC (c.toNat : Int) 1 = true
 | [], _, c, hc => by cases hc
 | d :: r, h, c, hc => by
  cases hd : isC (d.toNat : Int) 1
  ·unfold qz at h; rw [hd] at h; simp at h
  ·have h' : qz 1 r = r.length := by unfold qz at h; rw [hd] at h; simpa using h
   rcases List.mem_cons.1 hc with rfl | hc
   ·exact hd
   ·exact qbzf r h' c hc
theorem qbqg (Y Z : QB) (i j : Nat) (h : j ≤ Y.length) : seg (Y ++ Z) i j = seg Y i j := by
 unfold seg; rw [List.take_append_of_le_length h]
theorem qbqf (Y : QB) (j : Nat) (h : idL (Y.drop j) = 0) (c : UInt8) (hc : Y[j]? = some c) : isId c = false := by
 cases hx : isId c
 ·rfl
 ·have h3 : Y.drop j = c :: Y.drop (j + 1) := by
   have hlt := (List.getElem?_eq_some_iff.1 hc);rw [List.drop_eq_getElem_cons hlt.1, hlt.2]
  rw [h3] at h;unfold idL at h;rw [hx] at h;simp at h
theorem qbns {Y Z : QB} {L : Nat} (h : Clip Y Z L) (p : Bool) : ∀ n i, Y.length - i = n → 0 < i → i ≤ L → i ≤ Y.length → (∀ c, Y[i - 1]? = some c → isC (c.toNat : Int) 1 = false) →
  ((idsD p (Y ++ Z) L (qp (Y ++ Z) i)).2 = 0 ∧ qcj p Y (qp Y i) = none ∧ (idsD p (Y ++ Z) L (qp (Y ++ Z) i)).1 = qcm i (qp Y i) ∧ qp (Y ++ Z) i = qp Y i ∧ qcm i (qp Y i) ≤ L)
  ∨ ((idsD p (Y ++ Z) L (qp (Y ++ Z) i)).2 ≠ 0 ∧ ((∃ y, qcj p Y (qp Y i) = some y ∧ finD Y Z L y = idsD p (Y ++ Z) L (qp (Y ++ Z) i)) ∨ (qcj p Y (qp Y i) = none ∧ L < qcm i (qp Y i) ∧ idsD p (Y ++ Z) L (qp (Y ++ Z) i) = (L, 12)))) := by
 intro n
 induction n using Nat.strongRecOn with
 | _ n ih =>
  intro i hn hi hiL hiY hsep;obtain ⟨j, hj⟩ : ∃ j, i + idL (Y.drop i) = j := ⟨_, rfl⟩;have hdl : (Y.drop i).length = Y.length - i := List.length_drop;have hjY : j ≤ Y.length := by have := qrq (Y.drop i); omega
  have hends : ∀ x ∈ qp Y i, x.2 ≤ Y.length := fun x hx => (qhz Y _ i rfl hiY x hx).2.1;have hdrop : (Y ++ Z).drop i = Y.drop i ++ Z := List.drop_append_of_le_length hiY
  by_cases hA : L < j
  ·have hjM : L < i + idL ((Y ++ Z).drop i) := by
    rw [hdrop];rcases Nat.lt_or_ge (idL (Y.drop i)) (Y.drop i).length with h1 | h1
    ·rw [(qtg _ Z).1 h1]; omega
    ·rw [(qtg _ Z).2 (Nat.le_antisymm (qrq _) h1)]; omega
   obtain ⟨r, hr, _⟩ := qjh (Y ++ Z) i _ rfl;have hD : idsD p (Y ++ Z) L (qp (Y ++ Z) i) = (L, 12) := by rw [hr, idsD, if_pos hjM]
   rw [hD];refine .inr ⟨by simp, ?_⟩
   rcases qbrs (p := p) (i := i) hends (fun x hx => Nat.lt_of_lt_of_le hA (hj ▸ qzc Y _ i rfl x hx)) (qcx Y i) Z with hb | hb
   ·exact .inl hb
   ·exact .inr ⟨hb.1, hb.2, rfl⟩
  ·have hjL : j ≤ L := by omega
   have hZ : j = Y.length → (∀ c, Z.head? = some c → qfv c = false) := fun e => h.stop.resolve_right (by omega)
   have hjM : i + idL ((Y ++ Z).drop i) = j := by
    rw [hdrop];rcases Nat.lt_or_ge (idL (Y.drop i)) (Y.drop i).length with h1 | h1
    ·rw [(qtg _ Z).1 h1]; exact hj
    ·have h2 : j = Y.length := by omega
     rw [(qtg _ Z).2 (Nat.le_antisymm (qrq _) h1)];have h3 : idL Z = 0 := by
      cases hZc : Z with
      | nil => rfl
      | cons c r =>
       have := hZ h2 c (by rw [hZc]; rfl)
       unfold idL;cases hid : isId c
       ·rfl
       ·rw [(qnq c).2 (.inl hid)] at this; cases this
     omega
   have hget : (Y ++ Z)[j]? = some 46 ↔ Y[j]? = some 46 := by
    rcases Nat.lt_or_ge j Y.length with h1 | h1
    ·rw [List.getElem?_append_left h1]
    ·have h2 : j = Y.length := by omega
     subst h2;rw [List.getElem?_append_right (Nat.le_refl _), Nat.sub_self, List.getElem?_eq_none (Nat.le_refl _), ← List.head?_eq_getElem?];refine ⟨fun h3 => ?_, fun h3 => by cases h3⟩
     have := hZ rfl 46 h3
     revert this; decide
   by_cases hij : i = j
   ·subst hij;have hs1 : qdq p (Y ++ Z) (seg (Y ++ Z) i i) i = misL (Y ++ Z).length i := by unfold qdq; rw [if_pos (qnx _ i)]
    have hs2 : qbv p Y (seg Y i i) i = misL Y.length i := by unfold qbv; rw [if_pos (qnx _ i)]
    obtain ⟨r, hr, _⟩ := qjh (Y ++ Z) i i hjM;obtain ⟨r2, hr2, _⟩ := qjh Y i i hj;have hD : idsD p (Y ++ Z) L (qp (Y ++ Z) i) = (i, misL (Y ++ Z).length i) := by
     rw [hr, idsD, if_neg (by simp; omega)]
     simp only [hs1];rw [if_pos (qch _ _)]
    have hB : qcj p Y (qp Y i) = some (misL Y.length i, i) := by
     rw [hr2, qcj];simp only [hs2];rw [if_neg (qch _ _)]
    rw [hD, hB];refine .inr ⟨qch _ _, .inl ⟨_, rfl, ?_⟩⟩;unfold finD;rw [List.length_append]
    by_cases he : i = Y.length
    ·have hm : misL Y.length i = 11 := if_pos he;rw [if_neg (by rw [hm]; exact fun h => h rfl), if_neg, qbhs _ (by omega), he]
     rintro ⟨_, h2⟩;rw [← he] at h2;cases hc : Y[i - 1]? with
     | none => rw [hc] at h2; cases h2
     | some c => rw [hc] at h2; simp [hsep c hc] at h2
    ·have hm : misL Y.length i = 10 := if_neg he;have hm2 : misL (Y.length + Z.length) i = 10 := if_neg (by omega)
     rw [hm, hm2, if_pos (by simp), qbhs _ (by omega)]
   ·have hne : seg Y i j ≠ [] := by
     intro h0;have := qpw Y i j hjY;rw [h0] at this;simp at this;omega
    have hsg : seg (Y ++ Z) i j = seg Y i j := qbqg Y Z i j hjY
    by_cases hz : (p && qcq (seg Y i j)) = true
    ·obtain ⟨r, hr, _⟩ := qjh (Y ++ Z) i j hjM;obtain ⟨r2, hr2, _⟩ := qjh Y i j hj;have hw : qdq p (Y ++ Z) (seg (Y ++ Z) i j) j = if (Y ++ Z).length ≤ j then 11 else 14 := by
      unfold qdq; rw [hsg, if_neg hne, if_pos hz]
     have hD : idsD p (Y ++ Z) L (qp (Y ++ Z) i) = (j, if (Y ++ Z).length ≤ j then 11 else 14) := by
      rw [hr, idsD, if_neg (by simp; omega)]
      simp only [hw];rw [if_pos (by split <;> decide)]
     have hz2 : p = true ∧ qcq (seg Y i j) = true := by simpa using hz
     have hwl : qbv p Y (seg Y i j) j = if Y[j]? = some 46 ∨ Y[j]? = some 43 then 14 else misL Y.length j := by
      unfold qbv; rw [if_neg hne, if_neg (by rw [hz2.1, hz2.2]; simp)]
     have hwn : qbv p Y (seg Y i j) j ≠ 0 := by
      rw [hwl]; split
      ·decide
      ·exact qch _ _
     have hB : qcj p Y (qp Y i) = some (qbv p Y (seg Y i j) j, j) := by
      rw [hr2, qcj, if_neg hwn]
     rw [hD, hB];refine .inr ⟨by dsimp only; split <;> decide, .inl ⟨_, rfl, ?_⟩⟩
     unfold finD;rw [hwl, List.length_append];rcases Nat.lt_or_ge j Y.length with h1 | h1
     ·have hc : Y[j]? = some Y[j] := qcfb h1;have hid := qbqf Y j (qhz Y _ i rfl hiY (i, j) (by rw [hr2]; exact List.mem_cons_self)).2.2 _ hc
      have hp := (qnq Y[j]).1 (h.all _ (List.getElem_mem h1));have hor : Y[j]? = some 46 ∨ Y[j]? = some 43 := by
       rw [hc];rcases hp with h2 | h2 | h2
       ·rw [hid] at h2; cases h2
       ·exact .inl (by rw [h2])
       ·exact .inr (by rw [h2])
      rw [if_pos hor, if_pos (by simp), if_neg (by omega), qbhs _ hjL]
     ·have h2 : j = Y.length := by omega
      have hnone : Y[j]? = none := List.getElem?_eq_none h1;have hm : misL Y.length j = 11 := if_pos h2;rw [show (if Y[j]? = some 46 ∨ Y[j]? = some 43 then (14 : Int) else misL Y.length j) = 11 by rw [if_neg (by rw [hnone]; simp), hm], if_neg (by simp)]
      have hld : (Y[Y.length - 1]?.map fun c => isC (c.toNat : Int) 1) = some true := by
       have hdig : qz 1 (seg Y i j) = (seg Y i j).length := by
        have h9 := hz2.2;unfold qcq digB at h9;simp at h9;exact h9.2.2
       have hlt : Y.length - 1 < Y.length := by omega
       have hmem : Y[Y.length - 1] ∈ seg Y i j := by
        unfold seg;rw [h2, List.take_length];rw [List.mem_iff_getElem?];exact ⟨Y.length - 1 - i, by rw [List.getElem?_drop, qcfb (by omega)]; congr 2; omega⟩
       rw [qcfb hlt];simp [qbzf _ hdig _ hmem]
      by_cases hZe : Z = []
      ·rw [if_neg (fun x => x.1 hZe), hZe, if_pos (by simp; omega), qbhs _ (by omega), h2]
       simp [misL]
      ·have : 0 < Z.length := List.length_pos_iff.2 hZe;rw [if_pos ⟨hZe, hld⟩, if_neg (by omega), qbhs _ (by omega), h2]
    ·have hz' : (p && qcq (seg Y i j)) = false := by simpa using hz
     have hwD : qdq p (Y ++ Z) (seg (Y ++ Z) i j) j = 0 := by rw [hsg]; unfold qdq; rw [if_neg hne, if_neg hz]
     have hwL : qbv p Y (seg Y i j) j = 0 := qqr p Y i j hne hz'
     by_cases hdot : Y[j]? = some 46
     ·have hlt := (List.getElem?_eq_some_iff.1 hdot).1;have e1 := qdk Y i j hj hdot;have e2 := qdk (Y ++ Z) i j hjM (hget.2 hdot);have hB : qcj p Y (qp Y i) = qcj p Y (qp Y (j + 1)) := by rw [e1, qcj, if_pos hwL]
      have hLE : qcm i (qp Y i) = qcm (j + 1) (qp Y (j + 1)) := by rw [e1, qbjd _ _ _ (qcx Y _), qmn]
      by_cases hLj : L ≤ j
      ·have hD : idsD p (Y ++ Z) L (qp (Y ++ Z) i) = (L, 12) := by
        rw [e2, idsD, if_neg (by simp; omega)]
        simp only [hwD];rw [if_neg (by simp), if_neg (qcx _ _), if_pos hLj]
        rw [show j = L by omega]
       rw [hD, hB, hLE];refine .inr ⟨by simp, ?_⟩
       rcases qbrs (p := p) (i := j + 1) (fun x hx => (qhz Y _ (j + 1) rfl (by omega) x hx).2.1) (fun x hx => Nat.lt_of_lt_of_le (show L < j + 1 by omega) (by have := qzc Y _ (j + 1) rfl x hx; omega)) (qcx Y (j + 1)) Z with hb | hb
       ·exact .inl hb
       ·exact .inr ⟨hb.1, hb.2, rfl⟩
      ·have hD : idsD p (Y ++ Z) L (qp (Y ++ Z) i) = idsD p (Y ++ Z) L (qp (Y ++ Z) (j + 1)) := by
        rw [e2, idsD, if_neg (by simp; omega)]
        simp only [hwD];rw [if_neg (by simp), if_neg (qcx _ _), if_neg hLj]
       have := ih (Y.length - (j + 1)) (by omega) (j + 1) rfl (by omega) (by omega) (by omega) (fun c hc => by
        rw [Nat.add_sub_cancel, hdot] at hc;injection hc with hc;subst hc
        decide)
       rw [hD, hB, hLE];rcases this with ⟨a1, a2, a3, a4, a5⟩ | this
       ·exact .inl ⟨a1, a2, a3, by rw [e1, e2, a4], a5⟩
       ·exact .inr this
     ·have hdot2 : ¬ (Y ++ Z)[j]? = some 46 := fun h2 => hdot (hget.1 h2);have e1 := qcs Y i j hj hdot;have e2 := qcs (Y ++ Z) i j hjM hdot2;have hD : idsD p (Y ++ Z) L (qp (Y ++ Z) i) = (j, 0) := by
       rw [e2, idsD, if_neg (by simp; omega)]
       simp only [hwD];simp
      have hB : qcj p Y (qp Y i) = none := by rw [e1, qcj, if_pos hwL]; rfl
      have hLE : qcm i (qp Y i) = j := by rw [e1]; rfl
      rw [hD, hB, hLE, e1, e2];exact .inl ⟨rfl, rfl, rfl, rfl, hjL⟩
end Go.Proofs.YtpdlgiioahjhiaaGreat

namespace Go.Proofs.YtpdlgiioahjhiaaGreat
open Go.RowKit Go.Shelf
open List renaming getElem?_append_left → qcft, getElem?_eq_some_iff → qcgn
set_option linter.unusedVariables false
def bD (l : QB) (L q : Nat) : Nat × Int := if l[q]? = some 43 then (if L ≤ q then (q, 12) else idsD false l L (qp l (q + 1))) else (q, 0)
def tD (l : QB) (L e : Nat) : Nat × Int :=
 if l[e]? = some 45 then (if L ≤ e then (e, 12) else if (idsD true l L (qp l (e + 1))).2 ≠ 0 then idsD true l L (qp l (e + 1)) else bD l L (idsD true l L (qp l (e + 1))).1) else bD l L e
def preD (l : QB) (e : Nat) : List QB := if l[e]? = some 45 then (qp l (e + 1)).map fun x => seg l x.1 x.2 else []
theorem qbpm {p : Bool} {Y : QB} {i L : Nat} (hi : L < i) (hY : i ≤ Y.length) : (∀ y, idsR p Y i = .error y → L < y.2 ∧ y.2 ≤ Y.length) ∧ (∀ z, idsR p Y i = .ok z → L < z.2 ∧ z.2 ≤ Y.length) := by
 have hends : ∀ x ∈ qp Y i, L < x.2 ∧ x.2 ≤ Y.length := fun x hx => ⟨by have := qzc Y _ i rfl x hx; omega, (qhz Y _ i rfl hY x hx).2.1⟩
 unfold idsR;cases hb : qcj p Y (qp Y i) with
 | none =>
  refine ⟨fun y h => (nomatch h), fun z h => ?_⟩;injection h with h;rw [← h];exact qbgx (P := fun n => L < n ∧ n ≤ Y.length) (qcx Y i) hends
 | some x =>
  refine ⟨fun y h => ?_, fun z h => (nomatch h)⟩;injection h with h;obtain ⟨u, h1, h2⟩ := qzn p Y _ x hb;rw [← h, ← h2];exact hends u h1
theorem qsr {Y : QB} {q L : Nat} (hq : q ≤ Y.length) (h : L ≤ q ∧ Y[q]? = some 43 ∨ L < q) (pre : List (Nat × Nat)) : (∀ y, qcb Y q pre = .error y → L < y.2 ∧ y.2 ≤ Y.length) ∧ (∀ z, qcb Y q pre = .ok z → L < Y.length ∧ z.1 = pre) := by
 unfold qcb
 by_cases hc : Y[q]? = some 43
 ·rw [if_pos hc];have hlt := (qcgn.1 hc).1;have hl := qbpm (p := false) (Y := Y) (i := q + 1) (L := L) (by omega) (by omega)
  cases hi : idsR false Y (q + 1) with
  | error x =>
   refine ⟨fun y h => ?_, fun z h => (nomatch h)⟩;injection h with h;rw [← h];exact hl.1 x hi
  | ok z =>
   obtain ⟨b, q2⟩ := z;have h2 := hl.2 _ hi;dsimp only at h2 ⊢
   by_cases hlt2 : q2 < Y.length
   ·rw [if_pos hlt2];refine ⟨fun y h => ?_, fun z h => (nomatch h)⟩;injection h with h;rw [← h];exact h2
   ·rw [if_neg hlt2];refine ⟨fun y h => (nomatch h), fun z h => ?_⟩;injection h with h;rw [← h];exact ⟨by omega, rfl⟩
 ·rw [if_neg hc];have hL : L < q := h.resolve_left (fun x => hc x.2)
  by_cases hlt2 : q < Y.length
  ·rw [if_pos hlt2];refine ⟨fun y h => ?_, fun z h => (nomatch h)⟩;injection h with h;rw [← h];exact ⟨hL, hq⟩
  ·rw [if_neg hlt2];refine ⟨fun y h => (nomatch h), fun z h => ?_⟩;injection h with h;rw [← h];exact ⟨by omega, rfl⟩
theorem qbbh (l : QB) : ∀ n i, l.length - i = n → ¬ l[qcm i (qp l i)]? = some 46 := by
 intro n
 induction n using Nat.strongRecOn with
 | _ n ih =>
  intro i hn
  by_cases h : l[i + idL (l.drop i)]? = some 46
  ·have hlt := (qcgn.1 h).1;rw [qdk l i _ rfl h, qbjd _ _ _ (qcx l _), qmn];exact ih (l.length - (i + idL (l.drop i) + 1)) (by omega) _ rfl
  ·rw [qcs l i _ rfl h];exact h
theorem qxk {Y Z : QB} {L : Nat} (h : Clip Y Z L) {q : Nat} (hq : q < Y.length) (h0 : idL (Y.drop q) = 0) (hd : ¬ Y[q]? = some 46) : Y[q]? = some 43 := by
 have hc : Y[q]? = some Y[q] := List.getElem?_eq_getElem hq;rcases (qnq Y[q]).1 (h.all _ (List.getElem_mem hq)) with h1 | h1 | h1
 ·rw [qbqf Y q h0 _ hc] at h1; cases h1
 ·exact absurd (by rw [hc, h1]) hd
 ·rw [hc, h1]
theorem qbbl {Y Z : QB} {L q : Nat} (h : Clip Y Z L) (hq : q ≤ Y.length) (hqL : q ≤ L) (h0 : idL (Y.drop q) = 0) (hd : ¬ Y[q]? = some 46) (pre : List (Nat × Nat)) :
  (∃ y, qcb Y q pre = .error y ∧ (((bD (Y ++ Z) L q).2 ≠ 0 ∧ finD Y Z L y = bD (Y ++ Z) L q) ∨ ((bD (Y ++ Z) L q).2 = 0 ∧ y = (10, (bD (Y ++ Z) L q).1) ∧ (bD (Y ++ Z) L q).1 ≤ L ∧ (Y ++ Z)[(bD (Y ++ Z) L q).1]? = some 43)))
  ∨ (∃ z, qcb Y q pre = .ok z ∧ z.1 = pre ∧ (((bD (Y ++ Z) L q).2 ≠ 0 ∧ L < Y.length ∧ bD (Y ++ Z) L q = (L, 12)) ∨ (bD (Y ++ Z) L q = (Y.length, 0) ∧ Y.length ≤ L))) := by
 rcases Nat.lt_or_ge q Y.length with h1 | h1
 ·have h43 := qxk h h1 h0 hd;have hM : (Y ++ Z)[q]? = some 43 := by rw [qcft h1]; exact h43
  by_cases hL : L ≤ q
  ·have hD : bD (Y ++ Z) L q = (L, 12) := by
    unfold bD;rw [if_pos hM, if_pos hL, show q = L by omega]
   rw [hD];have hl := qsr hq (.inl ⟨hL, h43⟩) pre;cases hb : qcb Y q pre with
   | error y => exact .inl ⟨y, rfl, .inl ⟨by simp, qlj (hl.1 y hb).1 (hl.1 y hb).2⟩⟩
   | ok z => exact .inr ⟨z, rfl, (hl.2 z hb).2, .inl ⟨by simp, (hl.2 z hb).1, rfl⟩⟩
  ·have hD : bD (Y ++ Z) L q = idsD false (Y ++ Z) L (qp (Y ++ Z) (q + 1)) := by
    unfold bD;rw [if_pos hM, if_neg hL]
   have hB : qcb Y q pre = match idsR false Y (q + 1) with | .error x => .error x | .ok (b, q2) => if q2 < Y.length then .error (10, q2) else .ok (pre, b) := by
    unfold qcb;rw [if_pos h43];cases idsR false Y (q + 1) <;> rfl
   have hi : idsR false Y (q + 1) = match qcj false Y (qp Y (q + 1)) with | some x => .error x | none => .ok (qp Y (q + 1), qcm (q + 1) (qp Y (q + 1))) := rfl;have hle := qhw Y (q + 1) (by omega)
   rw [hD, hB, hi];rcases qbns h false _ (q + 1) rfl (by omega) (by omega) (by omega) (fun c hc => by
    rw [Nat.add_sub_cancel, h43] at hc;injection hc with hc;subst hc
    decide) with ⟨a1, a2, a3, a4, a5⟩ | ⟨a1, ⟨y, a2, a3⟩ | ⟨a2, a3, a4⟩⟩
   ·rw [a2];dsimp only
    by_cases hlt : qcm (q + 1) (qp Y (q + 1)) < Y.length
    ·rw [if_pos hlt];refine .inl ⟨_, rfl, .inr ⟨a1, by rw [a3], by rw [a3]; exact a5, ?_⟩⟩
     rw [a3, qcft hlt];exact qxk h hlt hle.2 (qbbh Y _ _ rfl)
    ·rw [if_neg hlt];have he : qcm (q + 1) (qp Y (q + 1)) = Y.length := by omega
     exact .inr ⟨_, rfl, rfl, .inr ⟨Prod.ext (by rw [a3, he]) a1, by omega⟩⟩
   ·rw [a2];exact .inl ⟨y, rfl, .inl ⟨a1, a3⟩⟩
   ·rw [a2];dsimp only
    by_cases hlt : qcm (q + 1) (qp Y (q + 1)) < Y.length
    ·rw [if_pos hlt];exact .inl ⟨_, rfl, .inl ⟨a1, by rw [a4]; exact qlj a3 hle.1⟩⟩
    ·rw [if_neg hlt];exact .inr ⟨_, rfl, rfl, .inl ⟨a1, by omega, a4⟩⟩
 ·have he : q = Y.length := by omega
  have hn : Y[q]? = none := List.getElem?_eq_none h1;have hZ := h.stop.resolve_right (by omega)
  have hM : ¬ (Y ++ Z)[q]? = some 43 := by
   rw [List.getElem?_append_right h1, he, Nat.sub_self, ← List.head?_eq_getElem?];intro h3;have := hZ 43 h3
   revert this; decide
  refine .inr ⟨(pre, []), ?_, rfl, .inr ⟨?_, by omega⟩⟩
  ·unfold qcb;rw [hn, if_neg (by simp), if_neg (by omega)]
  ·unfold bD;rw [if_neg hM, he]
theorem qcds {Y Z : QB} {L : Nat} (h : Clip Y Z L) (hY : Y[0]? = some 45 ∨ Y[0]? = some 43) :
  (∃ y, qdg Y 0 = .error y ∧ (((tD (Y ++ Z) L 0).2 ≠ 0 ∧ finD Y Z L y = tD (Y ++ Z) L 0) ∨ ((tD (Y ++ Z) L 0).2 = 0 ∧ y = (10, (tD (Y ++ Z) L 0).1) ∧ (tD (Y ++ Z) L 0).1 ≤ L ∧ (Y ++ Z)[(tD (Y ++ Z) L 0).1]? = some 43)))
  ∨ (∃ z, qdg Y 0 = .ok z ∧ (((tD (Y ++ Z) L 0).2 ≠ 0 ∧ L < Y.length ∧ tD (Y ++ Z) L 0 = (L, 12)) ∨ (tD (Y ++ Z) L 0 = (Y.length, 0) ∧ Y.length ≤ L ∧ (z.1.map fun x => seg Y x.1 x.2) = preD (Y ++ Z) 0))) := by
 have h0lt : 0 < Y.length := by rcases hY with hY | hY <;> exact (qcgn.1 hY).1
 have hM : (Y ++ Z)[0]? = Y[0]? := qcft h0lt
 by_cases h45 : Y[0]? = some 45
 ·have hT : qdg Y 0 = match idsR true Y 1 with | .error x => .error x | .ok (pre, p) => qcb Y p pre := by unfold qdg; rw [if_pos h45]; cases h9 : idsR true Y 1 <;> rfl
  by_cases hL : L ≤ 0
  ·have hD : tD (Y ++ Z) L 0 = (L, 12) := by
    unfold tD;rw [hM, if_pos h45, if_pos hL, show L = 0 by omega]
   rw [hD];have hl := qbpm (p := true) (Y := Y) (i := 1) (L := L) (by omega) (by omega)
   cases hi : idsR true Y 1 with
   | error x =>
    rw [hT, hi];exact .inl ⟨x, rfl, .inl ⟨by simp, qlj (hl.1 x hi).1 (hl.1 x hi).2⟩⟩
   | ok z =>
    obtain ⟨pre, p⟩ := z;have h2 := hl.2 _ hi;rw [hT, hi];dsimp only at h2 ⊢;have hb := qsr (Y := Y) (q := p) (L := L) h2.2 (.inr h2.1) pre;cases hb2 : qcb Y p pre with
    | error y => exact .inl ⟨y, rfl, .inl ⟨by simp, qlj (hb.1 y hb2).1 (hb.1 y hb2).2⟩⟩
    | ok z => exact .inr ⟨z, rfl, .inl ⟨by simp, (hb.2 z hb2).1, rfl⟩⟩
  ·have hi : idsR true Y 1 = match qcj true Y (qp Y 1) with | some x => .error x | none => .ok (qp Y 1, qcm 1 (qp Y 1)) := rfl;have hle := qhw Y 1 (by omega)
   have hD : tD (Y ++ Z) L 0 = if (idsD true (Y ++ Z) L (qp (Y ++ Z) 1)).2 ≠ 0 then idsD true (Y ++ Z) L (qp (Y ++ Z) 1) else bD (Y ++ Z) L (idsD true (Y ++ Z) L (qp (Y ++ Z) 1)).1 := by
    unfold tD;rw [hM, if_pos h45, if_neg hL]
   rw [hT, hi];rcases qbns h true _ 1 rfl (by omega) (by omega) (by omega) (fun c hc => by
    rw [Nat.sub_self, h45] at hc;injection hc with hc;subst hc
    decide) with ⟨a1, a2, a3, a4, a5⟩ | ⟨a1, ⟨y, a2, a3⟩ | ⟨a2, a3, a4⟩⟩
   ·rw [a2];dsimp only;have hD2 : tD (Y ++ Z) L 0 = bD (Y ++ Z) L (qcm 1 (qp Y 1)) := by rw [hD, if_neg (by simp [a1]), a3]
    rw [hD2];have hpre : ((qp Y 1).map fun x => seg Y x.1 x.2) = preD (Y ++ Z) 0 := by
     unfold preD;rw [hM, if_pos h45, Nat.zero_add, a4];refine List.map_congr_left fun x hx => ?_;rw [qbqg Y Z x.1 x.2 (qhz Y _ 1 rfl (by omega) x hx).2.1]
    rcases qbbl h hle.1 a5 hle.2 (qbbh Y _ _ rfl) (qp Y 1) with hx | ⟨z, b1, b2, b3⟩
    ·exact .inl hx
    ·refine .inr ⟨z, b1, ?_⟩;rcases b3 with b3 | b3
     ·exact .inl b3
     ·exact .inr ⟨b3.1, b3.2, by rw [b2]; exact hpre⟩
   ·rw [a2];have hD2 : tD (Y ++ Z) L 0 = idsD true (Y ++ Z) L (qp (Y ++ Z) 1) := by rw [hD, if_pos a1]
    rw [hD2];exact .inl ⟨y, rfl, .inl ⟨a1, a3⟩⟩
   ·rw [a2];have hD2 : tD (Y ++ Z) L 0 = (L, 12) := by rw [hD, if_pos a1, a4]
    rw [hD2];dsimp only;have hb := qsr (Y := Y) (q := qcm 1 (qp Y 1)) (L := L) hle.1 (.inr a3) (qp Y 1);cases hb2 : qcb Y (qcm 1 (qp Y 1)) (qp Y 1) with
    | error y => exact .inl ⟨y, rfl, .inl ⟨by simp, qlj (hb.1 y hb2).1 (hb.1 y hb2).2⟩⟩
    | ok z => exact .inr ⟨z, rfl, .inl ⟨by simp, (hb.2 z hb2).1, rfl⟩⟩
 ·have h43 : Y[0]? = some 43 := hY.resolve_left h45;have hT : qdg Y 0 = qcb Y 0 [] := by unfold qdg; rw [if_neg h45]
  have hD : tD (Y ++ Z) L 0 = bD (Y ++ Z) L 0 := by unfold tD; rw [hM, if_neg h45]
  have hpre : preD (Y ++ Z) 0 = [] := by unfold preD; rw [hM, if_neg h45]
  rw [hT, hD, hpre];have h0 : idL (Y.drop 0) = 0 := by
   cases hYc : Y with
   | nil => rfl
   | cons c r =>
    rw [hYc] at h43;injection h43 with h43;subst h43
    rfl
  rcases qbbl h (Nat.zero_le _) (Nat.zero_le _) h0 (by rw [h43]; decide) [] with hx | ⟨z, b1, b2, b3⟩
  ·exact .inl hx
  ·refine .inr ⟨z, b1, ?_⟩;rcases b3 with b3 | b3
   ·exact .inl b3
   ·exact .inr ⟨b3.1, b3.2, by rw [b2]; rfl⟩
end Go.Proofs.YtpdlgiioahjhiaaGreat
