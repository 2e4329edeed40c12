/- Walks: append told by its run; what the first half of a from -/
import Derived.Test.YtpdlgiioahjhiaaGreatPMa
namespace Go.Proofs.YtpdlgiioahjhiaaGreat
open Go.RowKit Go.Shelf
set_option linter.unusedVariables false
theorem atB_drop (l : QB) (a : Nat) (c : UInt8) : atB l a c = ((l.drop a).head? == some c) := by
 unfold atB;rw [List.head?_drop]
def opR (r : QB) : QB × Nat :=
 if r.take 2 = [60, 61] then ([60, 61], 2)
 else if r.take 2 = [62, 61] then ([62, 61], 2)
 else if r.take 2 = [126, 62] then ([126], 2)
 else if r.head? == some 60 || r.head? == some 62 || r.head? == some 61 || r.head? == some 126 || r.head? == some 94 then (r.take 1, 1)
 else ([], 0)
theorem qbsj (l : QB) (a : Nat) : opD l a = ((opR (l.drop a)).1, a + (opR (l.drop a)).2) := by
 unfold opD opR;simp only [atB_drop];split
 ·rfl
 ·split
  ·rfl
  ·split
   ·rfl
   ·split
    ·rfl
    ·rfl
theorem qrc : ∀ r : QB, opFn (opR r).1 (opGo r 9).2 ∧ (opGo r 9).1.length = (opR r).2 ∧ ((opR r).2 = 0 → (opR r).1 = []) ∧ ((opR r).2 ≠ 0 → ∃ c t, r = c :: t ∧ c ≠ 118 ∧ qkh c = false ∧ isC (c.toNat : Int) 1 = false)
 | [] => by
  refine ⟨?_, rfl, fun _ => rfl, fun h => absurd rfl h⟩;exact List.mem_cons_self
 | c :: r => by
  by_cases h1 : c = 60
  ·subst h1;have hk : ∃ d t, (60 : UInt8) :: r = d :: t ∧ d ≠ 118 ∧ qkh d = false ∧ isC (d.toNat : Int) 1 = false := ⟨60, r, rfl, by decide, by decide, by decide⟩
   match r with
   | [] => exact ⟨by unfold opFn; decide, by decide, fun h => absurd h (by decide), fun _ => hk⟩
   | d :: t =>
    by_cases h2 : d = 61
    ·subst h2;have e1 : opR (60 :: 61 :: t) = ([60, 61], 2) := by simp [opR]
     have e2 : opGo (60 :: 61 :: t) 9 = ([60, 61], 87) := by simp [opGo, ops9, qhb, hasP]
     rw [e1, e2];exact ⟨by unfold opFn; decide, rfl, fun h => absurd h (by decide), fun _ => hk⟩
    ·have e1 : opR (60 :: d :: t) = ([60], 1) := by simp [opR, h2]
     have e2 : opGo (60 :: d :: t) 9 = ([60], 161) := by simp [opGo, ops9, qhb, hasP, h2]
     rw [e1, e2];exact ⟨by unfold opFn; decide, rfl, fun h => absurd h (by decide), fun _ => hk⟩
  ·by_cases h3 : c = 62
   ·subst h3;have hk : ∃ d t, (62 : UInt8) :: r = d :: t ∧ d ≠ 118 ∧ qkh d = false ∧ isC (d.toNat : Int) 1 = false := ⟨62, r, rfl, by decide, by decide, by decide⟩
    match r with
    | [] => exact ⟨by unfold opFn; decide, by decide, fun h => absurd h (by decide), fun _ => hk⟩
    | d :: t =>
     by_cases h2 : d = 61
     ·subst h2;have e1 : opR (62 :: 61 :: t) = ([62, 61], 2) := by simp [opR]
      have e2 : opGo (62 :: 61 :: t) 9 = ([62, 61], 85) := by simp [opGo, ops9, qhb, hasP]
      rw [e1, e2];exact ⟨by unfold opFn; decide, rfl, fun h => absurd h (by decide), fun _ => hk⟩
     ·have e1 : opR (62 :: d :: t) = ([62], 1) := by simp [opR, h2]
      have e2 : opGo (62 :: d :: t) 9 = ([62], 162) := by simp [opGo, ops9, qhb, hasP, h2]
      rw [e1, e2];exact ⟨by unfold opFn; decide, rfl, fun h => absurd h (by decide), fun _ => hk⟩
   ·by_cases h4 : c = 126
    ·subst h4;have hk : ∃ d t, (126 : UInt8) :: r = d :: t ∧ d ≠ 118 ∧ qkh d = false ∧ isC (d.toNat : Int) 1 = false := ⟨126, r, rfl, by decide, by decide, by decide⟩
     match r with
     | [] => exact ⟨by unfold opFn; decide, by decide, fun h => absurd h (by decide), fun _ => hk⟩
     | d :: t =>
      by_cases h2 : d = 62
      ·subst h2;have e1 : opR (126 :: 62 :: t) = ([126], 2) := by simp [opR]
       have e2 : opGo (126 :: 62 :: t) 9 = ([126, 62], 163) := by simp [opGo, ops9, qhb, hasP]
       rw [e1, e2];exact ⟨by unfold opFn; decide, rfl, fun h => absurd h (by decide), fun _ => hk⟩
      ·have e1 : opR (126 :: d :: t) = ([126], 1) := by simp [opR, h2]
       have e2 : opGo (126 :: d :: t) 9 = ([126], 163) := by simp [opGo, ops9, qhb, hasP, h2]
       rw [e1, e2];exact ⟨by unfold opFn; decide, rfl, fun h => absurd h (by decide), fun _ => hk⟩
    ·by_cases h5 : c = 61
     ·subst h5;have hk : ∃ d t, (61 : UInt8) :: r = d :: t ∧ d ≠ 118 ∧ qkh d = false ∧ isC (d.toNat : Int) 1 = false := ⟨61, r, rfl, by decide, by decide, by decide⟩
      have e1 : opR (61 :: r) = ([61], 1) := by cases r <;> simp [opR]
      have e2 : opGo (61 :: r) 9 = ([61], 160) := by cases r <;> simp [opGo, ops9, qhb, hasP]
      rw [e1, e2];exact ⟨by unfold opFn; decide, rfl, fun h => absurd h (by decide), fun _ => hk⟩
     ·by_cases h6 : c = 94
      ·subst h6;have hk : ∃ d t, (94 : UInt8) :: r = d :: t ∧ d ≠ 118 ∧ qkh d = false ∧ isC (d.toNat : Int) 1 = false := ⟨94, r, rfl, by decide, by decide, by decide⟩
       have e1 : opR (94 :: r) = ([94], 1) := by cases r <;> simp [opR]
       have e2 : opGo (94 :: r) 9 = ([94], 164) := by cases r <;> simp [opGo, ops9, qhb, hasP]
       rw [e1, e2];exact ⟨by unfold opFn; decide, rfl, fun h => absurd h (by decide), fun _ => hk⟩
      ·have e1 : opR (c :: r) = ([], 0) := by cases r <;> simp [opR, h1, h3, h4, h5, h6]
       have e2 : opGo (c :: r) 9 = ([], 160) := by cases r <;> simp [opGo, ops9, qhb, hasP, h1, h3, h4, h5, h6]
       rw [e1, e2];exact ⟨by unfold opFn; decide, rfl, fun _ => rfl, fun h => absurd rfl h⟩
theorem qbqq {l : QB} {a : Nat} : blk l (blk l a) = blk l a := by
 unfold blk;have : ∀ r : QB, qz 6 (r.drop (qz 6 r)) = 0 := by
  intro r
  induction r with
  | nil => rfl
  | cons c r ih =>
   cases hc : isC (c.toNat : Int) 6
   ·have h0 : qz 6 (c :: r) = 0 := by unfold qz; rw [hc]; rfl
    rw [h0];exact h0
   ·have h0 : qz 6 (c :: r) = qz 6 r + 1 := by rw [qz, hc]; simp
    rw [h0, List.drop_succ_cons];exact ih
 have h2 := this (l.drop a);rw [List.drop_drop] at h2;rw [h2]
 rfl
theorem blk_ge (l : QB) (a : Nat) : a ≤ blk l a := by unfold blk; omega
theorem qbpq {l : QB} {a : Nat} (h : a < l.length) : (blk l a = a → (l[a]?.map fun c => isC (c.toNat : Int) 6) = some false) ∧ (blk l a ≠ a → (l[a]?.map fun c => isC (c.toNat : Int) 6) = some true) := by
 rw [List.getElem?_eq_getElem h, Option.map_some];have hd : l.drop a = l[a] :: l.drop (a + 1) := List.drop_eq_getElem_cons h;unfold blk;rw [hd];cases hc : isC (l[a].toNat : Int) 6
 ·have h0 : qz 6 (l[a] :: l.drop (a + 1)) = 0 := by unfold qz; rw [hc]; rfl
  rw [h0];exact ⟨fun _ => rfl, fun h => absurd rfl h⟩
 ·have h0 : qz 6 (l[a] :: l.drop (a + 1)) = qz 6 (l.drop (a + 1)) + 1 := by rw [qz, hc]; simp
  rw [h0];exact ⟨fun h => by omega, fun _ => rfl⟩
theorem blk_out {l : QB} {a : Nat} (h : l.length ≤ a) : blk l a = a := by
 unfold blk;rw [List.drop_eq_nil_of_le h]
 rfl
theorem qbxw {l : QB} {c : Nat} (h : ∀ b, l[c]? = some b → b ≠ 118 ∧ qkh b = false ∧ isC (b.toNat : Int) 1 = false) : (rpL l c).2.2 ≠ 0 := by
 have hv : vL l c = c := by
  unfold vL;rw [if_neg (fun e => (h _ e).1 rfl)]
 have hn : npL l c = (c, false, misL l.length c) := by
  unfold npL;have h1 : ((l[c]?.map qkh).getD false) = false := by
   cases hb : l[c]? with
   | none => rfl
   | some b => exact (h b hb).2.1
  have h2 : qz 1 (l.drop c) = 0 := by
   cases hb : l[c]? with
   | none =>
    rw [List.drop_eq_nil_of_le (List.getElem?_eq_none_iff.1 hb)]
    rfl
   | some b =>
    obtain ⟨hlt, he⟩ := List.getElem?_eq_some_iff.1 hb;rw [List.drop_eq_getElem_cons hlt, he];unfold qz;rw [(h b hb).2.2]
    rfl
  rw [h1, h2];simp
 have hg : rnGo l 2 0 (vL l c) [] = .error (c, misL l.length c) := by
  rw [hv];exact qrl hn (qch _ _) 2 0 []
 unfold rpL;rw [hg];dsimp only;rw [qrt (by omega) (qch _ _)]
 exact qch _ _
theorem qcdh {l : QB} {c : Nat} (h : qcc l c = true) : ∀ b, l[c]? = some b → b ≠ 118 ∧ qkh b = false ∧ isC (b.toNat : Int) 1 = false := by
 intro b hb;unfold qcc at h;rw [Bool.or_eq_true] at h;rcases h with h | h
 ·have : c = l.length := by simpa using h
  rw [this] at hb;simp at hb
 ·have h2 : l[c]? = some 124 := by simpa using h
  rw [h2] at hb;injection hb with hb;subst hb
  decide
end Go.Proofs.YtpdlgiioahjhiaaGreat

namespace Go.Proofs.YtpdlgiioahjhiaaGreat
open Go.RowKit Go.Shelf
open Int renaming toNat_natCast → qchh
set_option linter.unusedVariables false
section
variable {l : List UInt8} {b : Nat}
theorem qvr (hb : b ≤ l.length) (hl : l.length ≤ 256) (h : (rpD l b).2.2.2 = 0) : (rpD l b).2.2.1 ≤ l.length := by
 rcases qzf l b hb hl with ⟨h1, _⟩ | ⟨_, h1, h2, _⟩
 ·exact absurd h h1
 ·dsimp only at h1 h2;unfold endP at h2;rw [if_neg (by omega)] at h2
  rw [qchh] at h2
  by_cases hc : (0 : Int) = 0 ∧ qcc l (rpD l b).2.2.1 = false ∧ (l[(rpD l b).2.2.1]?.map fun c => isC (c.toNat : Int) 6) = some false
  ·obtain ⟨hc1, hc2, hc3⟩ := hc;have hlt : (rpD l b).2.2.1 < l.length := by
    cases hx : l[(rpD l b).2.2.1]? with
    | none => rw [hx] at hc3; cases hc3
    | some c => exact (List.getElem?_eq_some_iff.1 hx).1
   omega
  ·rw [if_neg hc] at h2;have h3 : (rpL l b).2.2 = 0 := by rw [h2]
   obtain ⟨e, k1, k2, k3⟩ := qbbg hb h3;rw [h2] at k1;dsimp only at k1;omega
theorem rp_bad (hb : b ≤ l.length) (hl : l.length ≤ 256) (h : (rpD l b).2.2.2 ≠ 0) : (rpL l b).2 = (((rpD l b).2.2.1 : Int), (rpD l b).2.2.2) := by
 rcases qzf l b hb hl with ⟨_, h2⟩ | ⟨h1, _⟩
 ·exact h2
 ·exact absurd h1 h
theorem qcbc (hb : b ≤ l.length) (hl : l.length ≤ 256) (h : (rpD l b).2.2.2 = 0) (h1 : qcc l (rpD l b).2.2.1 = false) (h2 : blk l (rpD l b).2.2.1 = (rpD l b).2.2.1) : (rpL l b).2 = (((rpD l b).2.2.1 : Int), 10) := by
 have hle := qvr hb hl h;rcases qzf l b hb hl with ⟨h3, _⟩ | ⟨_, h3, h4, _⟩
 ·exact absurd h h3
 ·dsimp only at h3 h4;have hlt : (rpD l b).2.2.1 < l.length := by
   rcases Nat.lt_or_ge (rpD l b).2.2.1 l.length with h | h
   ·exact h
   ·exfalso;unfold qcc at h1;rw [decide_eq_true (show (rpD l b).2.2.1 = l.length by omega)] at h1
    cases h1
  unfold endP at h4;rw [if_neg (by omega), qchh, if_pos ⟨rfl, h1, (qbpq hlt).1 h2⟩] at h4
  exact h4
theorem qbll (hb : b ≤ l.length) (hl : l.length ≤ 256) (h : (rpD l b).2.2.2 = 0) (h1 : qcc l (rpD l b).2.2.1 = true ∨ blk l (rpD l b).2.2.1 ≠ (rpD l b).2.2.1) : rpL l b = (qcw l (rpD l b).1 (rpD l b).2.1, ((rpD l b).2.2.1 : Int), 0) := by
 rcases qzf l b hb hl with ⟨h3, _⟩ | ⟨_, h3, h4, h5⟩
 ·exact absurd h h3
 ·dsimp only at h3 h4 h5;have hn : ¬ ((0 : Int) = 0 ∧ qcc l (rpD l b).2.2.1 = false ∧ (l[(rpD l b).2.2.1]?.map fun c => isC (c.toNat : Int) 6) = some false) := by
   rintro ⟨_, h6, h7⟩;rcases h1 with h1 | h1
   ·rw [h6] at h1; cases h1
   ·have hlt : (rpD l b).2.2.1 < l.length := by
     cases hx : l[(rpD l b).2.2.1]? with
     | none => rw [hx] at h7; cases h7
     | some c => exact (List.getElem?_eq_some_iff.1 hx).1
    rw [(qbpq hlt).2 h1] at h7;cases h7
  have he : endP l b (qcw l (rpD l b).1 (rpD l b).2.1) ((rpD l b).2.2.1 : Int) 0 = (qcw l (rpD l b).1 (rpD l b).2.1, ((rpD l b).2.2.1 : Int), 0) := by
   unfold endP;rw [if_neg (by omega), qchh, if_neg hn]
  rw [he] at h4 h5;have h6 : (rpL l b).2.2 = 0 := by rw [h4]
  exact Prod.ext (h5 h6) h4
end
def parB (l : QB) (c : Nat) : Nat := if (opD l c).2 = c then c else blk l (opD l c).2
theorem par_opE {l : QB} {c : Nat} (hc : blk l c = c) : opE l c = parB l c := by
 unfold opE parB;rw [qbsj];have h := (qrc (l.drop c)).2.1;show blk l (c + (opGo (l.drop c) 9).1.length) = _;rw [h];dsimp only
 by_cases h0 : (opR (l.drop c)).2 = 0
 ·rw [h0, Nat.add_zero, if_pos rfl, hc]
 ·rw [if_neg (by omega)]
theorem par_fn (l : QB) (c : Nat) : opFn (opD l c).1 (opL l c).2 := by
 rw [qbsj];exact (qrc (l.drop c)).1
theorem par_op {l : QB} {c : Nat} (h : (opD l c).2 ≠ c) : (rpL l c).2.2 ≠ 0 := by
 refine qbxw fun b hb => ?_;rw [qbsj] at h;dsimp only at h;obtain ⟨d, t, h1, h2⟩ := (qrc (l.drop c)).2.2.2 (fun e => h (by omega))
 have h3 : (l.drop c).head? = some d := by rw [h1]; rfl
 rw [List.head?_drop, hb] at h3;injection h3 with h3;rw [h3];exact h2
theorem qbmj {l : QB} {c : Nat} (hc : c ≤ l.length) : (opD l c).2 ≤ l.length ∧ parB l c ≤ l.length := by
 have h0 : (opD l c).2 ≤ l.length := by
  have h1 := qbzj hc;rw [qbsj];have h := (qrc (l.drop c)).2.1;dsimp only;rw [← h];exact h1
 refine ⟨h0, ?_⟩;unfold parB;split
 ·exact hc
 ·exact qdh h0
theorem qwx {l : QB} {c : Nat} (h : (opD l c).2 = c) : (opD l c).1 = [] ∧ parB l c = c := by
 refine ⟨?_, if_pos h⟩;rw [qbsj] at h ⊢;dsimp only at h ⊢;exact (qrc (l.drop c)).2.2.1 (by omega)
def RowF (l : QB) (a n c : Nat) (out : List Comp) : Prop := ∃ z : Nat, z ≤ l.length ∧ blk l z = c ∧ qbr l a = qhn (z : Int) out (rowG l (33 - n) n c)
structure SetI (l : QB) (a n c : Nat) (out : List Comp) : Prop where
 le : c ≤ l.length
 blank : blk l c = c
 num : n ≤ 32
 row : (n = 0 ∧ c = blk l a ∧ out = []) ∨ (0 < n ∧ RowF l a n c out)
 len : out.length ≤ 2 * n
theorem SetI.start {l : QB} {a : Nat} (ha : a ≤ l.length) : SetI l a 0 (blk l a) [] := ⟨qdh ha, qbqq, Nat.zero_le _, .inl ⟨rfl, rfl, rfl⟩, Nat.le_refl _⟩
section
variable {l : List UInt8} {a n c : Nat} {out : List Comp}
theorem SetI.rowF (h : SetI l a n c out) (ha : a ≤ l.length) (hf : n = 0 → qgw l (rpL l c) = false) : RowF l a n c out := by
 rcases h.row with ⟨h1, h2, h3⟩ | ⟨_, h2⟩
 ·subst h1 h3;refine ⟨a, ha, h2.symm, ?_⟩;have hf := hf rfl;unfold qbr qfw qhd;rw [← h2, if_neg (by rw [hf]; decide)]
  rfl
 ·exact h2
theorem qzd (h : (rpL l c).2.2 ≠ 0) : qgw l (rpL l c) = false := by
 unfold qgw;rw [decide_eq_false h]
 rfl
theorem SetI.ends (h : SetI l a n c out) (ha : a ≤ l.length) (he : qcc l c = true) : ∃ z : Nat, z ≤ l.length ∧ blk l z = c ∧ qbr l a = (0, (z : Int), out) := by
 obtain ⟨z, h1, h2, h3⟩ := h.rowF ha (fun _ => qzd (qbxw (qcdh he)));refine ⟨z, h1, h2, ?_⟩;have := h.num;obtain ⟨m, hm⟩ : ∃ m, 33 - n = m + 1 := ⟨32 - n, by omega⟩
 rw [h3, hm, qbrw he]
 rfl
theorem SetI.many (h : SetI l a 32 c out) (ha : a ≤ l.length) (he : qcc l c = false) : qbr l a = (12, (c : Int), out) := by
 obtain ⟨z, h1, h2, h3⟩ := h.rowF ha (fun h => by cases h)
 rw [h3, show 33 - 32 = 0 + 1 from rfl, qbjf he]
 rfl
theorem qbzr (h : SetI l a n c out) : qgf l c = ⟨(rpL l (parB l c)).1, (opL l c).2, (rpL l (parB l c)).2.2, (rpL l (parB l c)).2.1⟩ := by
 unfold qgf;rw [par_opE h.blank]
theorem SetI.bad' (h : SetI l a n c out) (ha : a ≤ l.length) (he : qcc l c = false) (hn : n ≠ 32) {p e : Int} (hr : (rpL l (parB l c)).2 = (p, e)) (h0 : e ≠ 0) : qbr l a = (e, p, out) := by
 obtain ⟨z, h1, h2, h3⟩ := h.rowF ha (fun _ => by
  by_cases hp : (opD l c).2 = c
  ·rw [(qwx hp).2] at hr;exact qzd (by rw [hr]; exact h0)
  ·exact qzd (par_op hp))
 have := h.num;obtain ⟨m, hm⟩ : ∃ m, 33 - n = m + 1 := ⟨32 - n, by omega⟩
 have hi := qbzr h;have hie : (qgf l c).err ≠ 0 := by rw [hi]; dsimp only; rw [hr]; exact h0
 rw [h3, hm, qbrk he hn hie];unfold qhn;rw [if_pos hie, hi];dsimp only;rw [hr]
theorem SetI.bad (h : SetI l a n c out) (ha : a ≤ l.length) (hl : l.length ≤ 256) (he : qcc l c = false) (hn : n ≠ 32) (hr : (rpD l (parB l c)).2.2.2 ≠ 0) : qbr l a = ((rpD l (parB l c)).2.2.2, ((rpD l (parB l c)).2.2.1 : Int), out) :=
 h.bad' ha he hn (rp_bad (qbmj h.le).2 hl hr) hr
theorem SetI.form (h : SetI l a n c out) (ha : a ≤ l.length) (hl : l.length ≤ 256) (he : qcc l c = false) (hn : n ≠ 32) (hr : (rpD l (parB l c)).2.2.2 = 0) (h1 : qcc l (rpD l (parB l c)).2.2.1 = false) (h2 : blk l (rpD l (parB l c)).2.2.1 = (rpD l (parB l c)).2.2.1) :
  qbr l a = (10, ((rpD l (parB l c)).2.2.1 : Int), out) :=
 h.bad' ha he hn (qcbc (qbmj h.le).2 hl hr h1 h2) (by decide)
theorem SetI.next (h : SetI l a n c out) (ha : a ≤ l.length) (hl : l.length ≤ 256) (he : qcc l c = false) (hn : n ≠ 32) (hr : (rpD l (parB l c)).2.2.2 = 0) (h1 : qcc l (rpD l (parB l c)).2.2.1 = true ∨ blk l (rpD l (parB l c)).2.2.1 ≠ (rpD l (parB l c)).2.2.1)
  (hnf : (opD l c).2 = c → n = 0 → ¬ l[blk l (rpD l (parB l c)).2.2.1]? = some 45) :
  SetI l a (n + 1) (blk l (rpD l (parB l c)).2.2.1) (out ++ qr (opL l c).2 (qcw l (rpD l (parB l c)).1 (rpD l (parB l c)).2.1)) := by
 have hb := (qbmj h.le).2;have hf := qbll hb hl hr h1;have hle := qvr hb hl hr;have hnum := h.num;obtain ⟨z, q1, q2, q3⟩ := h.rowF ha (fun hn0 => by
  by_cases hp : (opD l c).2 = c
  ·have hx := hnf hp hn0;rw [(qwx hp).2] at hf hx;unfold qgw;rw [hf];dsimp only;rw [qchh, decide_eq_false hx, Bool.and_false]
  ·exact qzd (par_op hp))
 obtain ⟨m, hm⟩ : ∃ m, 33 - n = m + 1 := ⟨32 - n, by omega⟩
 have hi := qbzr h;have hie : (qgf l c).err = 0 := by rw [hi]; dsimp only; rw [hf]
 have hip : (qgf l c).pos = ((rpD l (parB l c)).2.2.1 : Int) := by rw [hi]; dsimp only; rw [hf]
 refine ⟨qdh hle, qbqq, by omega, .inr ⟨by omega, _, hle, rfl, ?_⟩, ?_⟩
 ·rw [q3, hm, qbzz he hn hie, qlv hie, hip, qchh];have hm2 : 33 - (n + 1) = m := by omega
  rw [hm2, hi];dsimp only;rw [hf]
 ·have := qjl (opL l c).2 (qcw l (rpD l (parB l c)).1 (rpD l (parB l c)).2.1);have := h.len;rw [List.length_append];omega
theorem SetI.from_ (h : SetI l a 0 c out) (hl : l.length ≤ 256) (hp : (opD l c).2 = c) (hr : (rpD l c).2.2.2 = 0) (h1 : blk l (rpD l c).2.2.1 ≠ (rpD l c).2.2.1) (h45 : l[blk l (rpD l c).2.2.1]? = some 45) :
  qbr l a = qhn ((rpD l c).2.2.1 : Int) (qr 85 (qcw l (rpD l c).1 (rpD l c).2.1)) (toI l (rpD l c).2.2.1 :: (if (toI l (rpD l c).2.2.1).err = 0 ∧ qcc l (blk l (toI l (rpD l c).2.2.1).pos.toNat) = false then [⟨qcz, 0, 10, (blk l (toI l (rpD l c).2.2.1).pos.toNat : Int)⟩] else [])) := by
 have hf := qbll h.le hl hr (.inr h1);rcases h.row with ⟨_, h2, _⟩ | ⟨h2, _⟩
 ·have hF : qgw l (rpL l c) = true := by
   unfold qgw;rw [hf];dsimp only;rw [qchh, decide_eq_true h45]
   rfl
  unfold qbr qfw qhd;rw [← h2, if_pos hF, hf];dsimp only;rw [qchh];unfold ftL;rw [qlv rfl]
  rfl
 ·omega
end
def toD (l : QB) (d : Nat) : Int × Nat :=
 if blk l (d + 1) = d + 1 then (misL l.length (d + 1), d + 1)
 else if (rpD l (blk l (d + 1))).2.2.2 ≠ 0 then ((rpD l (blk l (d + 1))).2.2.2, (rpD l (blk l (d + 1))).2.2.1)
 else if qcc l (blk l (rpD l (blk l (d + 1))).2.2.1) = false then (10, blk l (rpD l (blk l (d + 1))).2.2.1)
 else (0, blk l (rpD l (blk l (d + 1))).2.2.1)
def toPD (l : QB) (d : Nat) : PartL := qcw l (rpD l (blk l (d + 1))).1 (rpD l (blk l (d + 1))).2.1
theorem toD_fold {l : QB} (hl : l.length ≤ 256) {e : Nat} (he : blk l e < l.length) (z : Int) (cs : List Comp) :
  ∃ p ds, qhn z cs (toI l e :: (if (toI l e).err = 0 ∧ qcc l (blk l (toI l e).pos.toNat) = false then [⟨qcz, 0, 10, (blk l (toI l e).pos.toNat : Int)⟩] else [])) = ((toD l (blk l e)).1, p, ds) ∧
   ((toD l (blk l e)).1 ≠ 0 → p = ((toD l (blk l e)).2 : Int)) ∧ ((toD l (blk l e)).1 = 0 → (∃ q : Nat, p = (q : Int) ∧ q ≤ l.length ∧ blk l q = (toD l (blk l e)).2) ∧ ds = cs ++ qr 87 (toPD l (blk l e))) := by
 obtain ⟨d, hd⟩ : ∃ d, blk l e = d := ⟨_, rfl⟩;rw [hd] at he ⊢;have hT : toI l e = ⟨(qgh l (d + 1)).1, 87, (qgh l (d + 1)).2.2, (qgh l (d + 1)).2.1⟩ := by unfold toI; rw [hd]
 unfold toD toPD
 by_cases h1 : blk l (d + 1) = d + 1
 ·rw [if_pos h1];have hD : qgh l (d + 1) = (qcz, ((d + 1 : Nat) : Int), misL l.length (d + 1)) := if_pos h1;have hE : (toI l e).err ≠ 0 := by rw [hT]; dsimp only; rw [hD]; exact qch _ _
  refine ⟨((d + 1 : Nat) : Int), cs, ?_, fun _ => rfl, fun h => absurd h (qch _ _)⟩;unfold qhn;rw [if_pos hE, hT];dsimp only;rw [hD]
 ·rw [if_neg h1];obtain ⟨b, hb⟩ : ∃ b, blk l (d + 1) = b := ⟨_, rfl⟩;have hbl : b ≤ l.length := by rw [← hb]; exact qdh (by omega)
  have hD : qgh l (d + 1) = rpL l b := by unfold qgh; rw [if_neg h1, hb]
  rw [hD] at hT;rw [hb]
  by_cases h2 : (rpD l b).2.2.2 ≠ 0
  ·rw [if_pos h2];have hB := rp_bad hbl hl h2;have hE : (toI l e).err ≠ 0 := by rw [hT]; dsimp only; rw [hB]; exact h2
   refine ⟨((rpD l b).2.2.1 : Int), cs, ?_, fun _ => rfl, fun h => absurd h h2⟩;unfold qhn;rw [if_pos hE, hT];dsimp only;rw [hB]
  ·rw [if_neg h2];have h2' : (rpD l b).2.2.2 = 0 := by omega
   have hle := qvr hbl hl h2'
   by_cases h3 : qcc l (rpD l b).2.2.1 = true ∨ blk l (rpD l b).2.2.1 ≠ (rpD l b).2.2.1
   ·have hF := qbll hbl hl h2' h3;rw [hF] at hT;have hE : (toI l e).err = 0 := by rw [hT]
    have hP : (toI l e).pos = ((rpD l b).2.2.1 : Int) := by rw [hT]
    have hM : (toI l e).f = 87 ∧ (toI l e).p = qcw l (rpD l b).1 (rpD l b).2.1 := by rw [hT]; exact ⟨rfl, rfl⟩
    rw [qlv hE, hP, hM.1, hM.2, qchh];cases h4 : qcc l (blk l (rpD l b).2.2.1)
    ·rw [if_pos ⟨hE, rfl⟩, if_pos rfl];exact ⟨_, _, rfl, fun _ => rfl, fun h => by simp at h⟩
    ·rw [if_neg (by simp), if_neg (by simp)]
     exact ⟨_, _, rfl, fun h => absurd rfl h, fun _ => ⟨⟨_, rfl, hle, rfl⟩, rfl⟩⟩
   ·have h5 : qcc l (rpD l b).2.2.1 = false := by
     cases h : qcc l (rpD l b).2.2.1
     ·rfl
     ·exact absurd (.inl h) h3
    have h6 : blk l (rpD l b).2.2.1 = (rpD l b).2.2.1 := Classical.byContradiction fun h => h3 (.inr h);have hB := qcbc hbl hl h2' h5 h6;have hE : (toI l e).err ≠ 0 := by rw [hT]; dsimp only; rw [hB]; simp
    rw [h6, if_pos h5];refine ⟨((rpD l b).2.2.1 : Int), cs, ?_, fun _ => rfl, fun h => by simp at h⟩
    unfold qhn;rw [if_pos hE, hT];dsimp only;rw [hB]
end Go.Proofs.YtpdlgiioahjhiaaGreat

namespace Go.Proofs.YtpdlgiioahjhiaaGreat
open Go.RowKit Go.Shelf
set_option linter.unusedVariables false
set_option maxHeartbeats 4000000
set_option maxRecDepth 100000
variable {A : Nat → Prop}
section
variable {P : Program} {ops : Array Oper} {Q : Exit → Act → World → Prop}
theorem qxt {o : Oper} {a : Act} {w w' : World} {K : Act → World → Prop} {E : Prop} (hg : o.guard = none) (s x : Operand) (t : TypeId)
  (hop : o.op = Op.call { callee := Callee.builtin Builtin.append, args := #[s, x], argTypes := #[t, t] }) (v u v' : Value) (hs : a.eval s = v) (hx : a.eval x = u)
  (hrun : (Builtin.append_ #[t, t] o.type #[v, u]).run P w = .ok v' w') (hK : K (a.put o.dst v') w') :
  if Region.wanted o (yielded ops a.tmps) = true then Oper.wp P o a w K Q else E := by
 have hw : Region.wanted o (yielded ops a.tmps) = true := by simp [Region.wanted, hg]
 rw [if_pos hw];unfold Oper.wp execOp;simp only [hop, resolve, invoke, builtin, Sem.run_bind, Sem.run_pure, Result.andThen_ok, List.map_toArray, List.map_cons, List.map_nil, hs, hx, hrun];exact hK
theorem qbl {rest : List Oper} {o : Oper} {a : Act} {w w' : World} (hgd : o.guard = none) (s x : Operand) (t : TypeId)
  (hop : o.op = Op.call { callee := Callee.builtin Builtin.append, args := #[s, x], argTypes := #[t, t] }) (v u v' : Value) (hs : a.eval s = v) (hx : a.eval x = u)
  (hrun : (Builtin.append_ #[t, t] o.type #[v, u]).run P w = .ok v' w') (h : wpList P ops Q rest (a.put o.dst v') w') : wpList P ops Q (o :: rest) a w :=
 wpList_plain hgd fun _ hK => by
  unfold Oper.wp execOp;simp only [hop, resolve, invoke, builtin, Sem.run_bind, Sem.run_pure, Result.andThen_ok, List.map_toArray, List.map_cons, List.map_nil, hs, hx, hrun];exact hK _ _ h
end
theorem app_R {w : World} {base b2 : Nat} {v u : Value} {cs ds : List Comp} {xs ys : List Value} (hown : w.ownsRow base 35 6 v cs.length xs) (hc : qbw A w cs xs)
    (hou : w.ownsRow b2 35 6 u ds.length ys) (hd : qbw A w ds ys) (hb : base ≤ w.heap.size) (hn : cs.length + ds.length ≤ 1048576) :
    ∃ v' w', (Builtin.append_ #[39, 39] 39 #[v, u]).run Tryz.prog w = .ok v' w' ∧ w'.ownsRow base 35 6 v' (cs ++ ds).length (xs ++ ys) ∧ qbw A w (cs ++ ds) (xs ++ ys) ∧ w.grownBy w' v.ownBlock ∧ (v'.ownBlock = v.ownBlock ∨ v'.ownBlock = some w.heap.size) := by
  obtain ⟨i0, hi, hz0, hz1, hz2⟩ := info_parts infoC;rcases hou.2 with ⟨rfl, h0⟩ | ⟨g, cap, cur, rfl, hg1, hg2, hg3, hg4, hg5, hg6⟩
  · have h1 : ds = [] := List.length_eq_zero_iff.1 h0
    subst h1;have h2 : ys = [] := hd;subst h2;refine ⟨v, w, run_append_owned_none w base 39 39 35 i0 6 Tryz.underlying39 hi v _ xs hown, ?_, ?_, ⟨rfl, rfl, rfl, Nat.le_refl _, fun _ _ _ => rfl⟩, .inl rfl⟩
    · rw [List.append_nil, List.append_nil]; exact hown
    · rw [List.append_nil, List.append_nil]; exact hc
  · obtain ⟨v', w', h1, h2, h3, _, h4⟩ := run_append_own_at (P := Tryz.prog) (w := w) base 39 39 35 i0 _ 6 104 Tryz.underlying39 hi hz0 hz1 hz2 rfl (by decide) v cs.length xs hown ⟨g, 0, none⟩ ds.length cap ys hd.len
      (fun j z hz => qvg (qd j hg2 (by
        rw [← hg6, List.getElem?_take] at hz;split at hz
        · simpa using hz
        · cases hz))) (one6 hd) (by unfold maxLen; omega) (by omega) hb
    exact ⟨v', w', h1, by rw [List.length_append]; exact h2, hc.app hd, h3, h4⟩
theorem qjd {B : Nat} {W W' : World} (h : Turn B W W') (hA : ∀ b, A b → b ≠ B) : Keep A W W' := ⟨h.size, fun b cs t m hb hh => (h.block b (Array.getElem?_eq_some_iff.1 hh).1 (hA b hb)).trans hh⟩
def qbwq (A : Nat → Prop) (w : World) (cs : List Comp) (e : Ending) (w' : World) : Prop :=
 Below w.heap.size w w' ∧ ∃ v xs, e = .returned v ∧ w'.ownsRow w.heap.size 35 6 v cs.length xs ∧ qbw (fun q => A q ∧ q < w.heap.size) w' cs xs ∧ ∃ a n c, v = .slice a n c
theorem meansF_0 (a b c : QB) (pr : List QB) (x : Option Addr) (n m : Nat) (w : World) (ht : Txt w (.slice x n m) pr) (hc : CapA A (.slice x n m)) :
  Calls Tryz.prog 98 #[.string (qg [62, 61]), .agg #[.string (qg a), .string (qg b), .string (qg c), .slice x n m, .int .i64 0]] w (qbwq A w []) := by
 obtain ⟨t, htl⟩ : ∃ t, qg [62, 61] = t := ⟨_, rfl⟩;have htl' : t.data.toList = [62, 61] := by rw [← htl, qj]
 rw [htl];clear htl;have g0 : t.toList.isEmpty = false := by rw [toL, htl']; rfl
 have g61 : (t.toList == [61]) = false := by rw [toL, htl']; rfl
 have g62 : (t.toList == [62]) = false := by rw [toL, htl']; rfl
 have g62_61 : (t.toList == [62, 61]) = true := by rw [toL, htl']; rfl
 skip
 have T0 := qb ht;have C0 : Hid (CapA (fun q => A q ∧ q < w.heap.size) (.slice x n m)) := qvw ht hc (fun q h1 h2 => ⟨h1, h2⟩);clear htl' ht hc;have b0 := qb ((Below.refl _ w).alloc (Nat.le_refl _) (.cells #[.string (qg a), .string (qg b), .string (qg c), .slice x n m, .int .i64 0] 123));have n0 := World.alloc_heap_new w (.cells #[.string (qg a), .string (qg b), .string (qg c), .slice x n m, .int .i64 0] 123);go_enter Tryz.func98, Tryz.ntmps98
 (go_wp2_with fail);go_ret
 exact ⟨b0.out, _, [], rfl, World.ownsRow_nil _ _ _ _, rfl, ⟨_, _, _, rfl⟩⟩
theorem meansF_n (a b c : QB) (pr : List QB) (x : Option Addr) (n m : Nat) (N : Nat) (hN : N ≠ 0) (w : World) (ht : Txt w (.slice x n m) pr) (hc : CapA A (.slice x n m)) :
  Calls Tryz.prog 98 #[.string (qg [62, 61]), .agg #[.string (qg a), .string (qg b), .string (qg c), .slice x n m, .int .i64 (N : Int)]] w (qbwq A w [(4, (⟨zN a, zN b, zN c, pr, []⟩ : SemL))]) := by
 obtain ⟨t, htl⟩ : ∃ t, qg [62, 61] = t := ⟨_, rfl⟩;have htl' : t.data.toList = [62, 61] := by rw [← htl, qj]
 rw [htl];clear htl;have g0 : t.toList.isEmpty = false := by rw [toL, htl']; rfl
 have g61 : (t.toList == [61]) = false := by rw [toL, htl']; rfl
 have g62 : (t.toList == [62]) = false := by rw [toL, htl']; rfl
 have g62_61 : (t.toList == [62, 61]) = true := by rw [toL, htl']; rfl
 have gN : ((N : Int) == 0) = false := by simp; omega
 clear hN;have T0 := qb ht;have C0 : Hid (CapA (fun q => A q ∧ q < w.heap.size) (.slice x n m)) := qvw ht hc (fun q h1 h2 => ⟨h1, h2⟩);clear htl' ht hc;have b0 := qb ((Below.refl _ w).alloc (Nat.le_refl _) (.cells #[.string (qg a), .string (qg b), .string (qg c), .slice x n m, .int .i64 (N : Int)] 123));have n0 := World.alloc_heap_new w (.cells #[.string (qg a), .string (qg b), .string (qg c), .slice x n m, .int .i64 (N : Int)] 123);go_enter Tryz.func98, Tryz.ntmps98
 (go_wp2_with fail);generalize w.alloc _ = W0 at *;have hl0 := qb (Array.getElem?_eq_some_iff.1 n0).1;have N0 := qb n0;clear n0;refine (qdx a b c x n m N W0).mono ?_;rintro e w1 ⟨rfl, h1⟩;have B1 := qb (b0.out.trans (h1.mono b0.out.size));clear h1;(go_wp2_with fail);refine (qdc (A := fun q => A q ∧ q < w.heap.size) 4 _ (⟨zN a, zN b, zN c, pr, []⟩ : SemL) w1 ⟨_, _, rfl, T0.out.below B1.out, qt _, C0.out, capZ (qt w)⟩).mono ?_;rintro e w2 h2;have HR := qb ((h2.toR (by simp)).back B1.out)
 obtain ⟨b1, x1, rfl, _⟩ := qdm h2;clear h2;(go_wp2_with fail);go_ret
 obtain ⟨q1, v, xs, q2, q3, q4⟩ := HR.out;injection q2 with q2;subst q2;exact ⟨q1, _, xs, rfl, q3, q4, ⟨_, _, _, rfl⟩⟩
end Go.Proofs.YtpdlgiioahjhiaaGreat
