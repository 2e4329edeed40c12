/- Plain: a partial that the document has read is a good one. -/
import Derived.Test.YtpdlgiioahjhiaaGreatPKo
import Derived.Test.YtpdlgiioahjhiaaGreatPLm
import Derived.Test.YtpdlgiioahjhiaaGreatPLx
namespace Go.Proofs.YtpdlgiioahjhiaaGreat
open Go.RowKit Go.Shelf
set_option linter.unusedVariables false
theorem ids_sh (p : Bool) (X Y : QB) (i : Nat) : idsR p (X ++ Y) (X.length + i) = match idsR p Y i with | .error y => .error (y.1, X.length + y.2) | .ok z => .ok (z.1.map (shP X.length), X.length + z.2) := by
 unfold idsR;rw [qzh X Y _ i rfl, bad_sh, last_sh];cases qcj p Y (qp Y i) <;> rfl
theorem qbrp (X Y : QB) (q : Nat) (pre : List (Nat × Nat)) : qcb (X ++ Y) (X.length + q) (pre.map (shP X.length)) = match qcb Y q pre with | .error y => .error (y.1, X.length + y.2) | .ok z => .ok (z.1.map (shP X.length), z.2.map (shP X.length)) := by
 unfold qcb;rw [qpp, List.length_append]
 by_cases h : Y[q]? = some 43
 ·rw [if_pos h, if_pos h, Nat.add_assoc, ids_sh];cases hi : idsR false Y (q + 1) with
  | error y => rfl
  | ok z =>
   obtain ⟨b, q2⟩ := z;dsimp only
   by_cases h2 : q2 < Y.length
   ·rw [if_pos h2, if_pos (by omega)]
   ·rw [if_neg h2, if_neg (by omega)]
 ·rw [if_neg h, if_neg h]
  by_cases h2 : q < Y.length
  ·rw [if_pos h2, if_pos (by omega)]
  ·rw [if_neg h2, if_neg (by omega)]
   rfl
theorem tail_sh (X Y : QB) : qdg (X ++ Y) X.length = match qdg Y 0 with | .error y => .error (y.1, X.length + y.2) | .ok z => .ok (z.1.map (shP X.length), z.2.map (shP X.length)) := by
 have hg : (X ++ Y)[X.length]? = Y[0]? := qpp X Y 0;unfold qdg;rw [hg]
 by_cases h : Y[0]? = some 45
 ·rw [if_pos h, if_pos h, ids_sh];cases hi : idsR true Y (0 + 1) with
  | error y => rfl
  | ok z =>
   obtain ⟨b, q2⟩ := z;exact qbrp X Y q2 b
 ·rw [if_neg h, if_neg h];exact qbrp X Y 0 []
def X5 : QB := [48, 46, 48, 46, 48]
theorem nums_X5 (Y : QB) (hY : Y[0]? = some 45 ∨ Y[0]? = some 43) : qdp (X5 ++ Y) = .ok (1, 2, 3, 4, 5) := by
 have h1 : numR (X5 ++ Y) 0 = .ok 1 := qbxj [] [48] (46 :: 48 :: 46 :: 48 :: Y) rfl (fun c hc => by injection hc with hc; subst hc; decide)
 have h2 : dotR (X5 ++ Y) 1 = .ok 2 := rfl;have h3 : numR (X5 ++ Y) 2 = .ok 3 := qbxj [48, 46] [48] (46 :: 48 :: Y) rfl (fun c hc => by injection hc with hc; subst hc; decide)
 have h4 : dotR (X5 ++ Y) 3 = .ok 4 := rfl;have h5 : numR (X5 ++ Y) 4 = .ok 5 := qbxj [48, 46, 48, 46] [48] Y rfl (fun c hc => by
  rw [← List.head?_eq_getElem?, hc] at hY;rcases hY with hY | hY <;> (injection hY with hY; subst hY; decide))
 unfold qdp;rw [h1]; dsimp only;rw [h2]; dsimp only;rw [h3]; dsimp only;rw [h4]; dsimp only;rw [h5]
theorem qbqb (Y : QB) (hY : Y[0]? = some 45 ∨ Y[0]? = some 43) (hl : Y.length ≤ 48) :
  fauP (X5 ++ Y) = (match qdg Y 0 with | .error y => (y.1, 5 + y.2) | .ok _ => (0, 0)) ∧ (∀ z, qdg Y 0 = .ok z → (semP (X5 ++ Y)).pre = z.1.map fun x => seg Y x.1 x.2) := by
 have hT := tail_sh X5 Y;have h5 : X5.length = 5 := rfl;rw [h5] at hT;have hp : qbf (X5 ++ Y) = match qdg (X5 ++ Y) 5 with | .error x => .error x | .ok (pre, bld) => .ok ⟨1, 2, 3, 4, 5, pre, bld⟩ := by
  unfold qbf;rw [if_neg (by rw [List.length_append, h5]; omega), nums_X5 Y hY]
  dsimp only;cases qdg (X5 ++ Y) 5 <;> rfl
 rw [hT] at hp;cases hc : qdg Y 0 with
 | error y =>
  rw [hc] at hp;refine ⟨by unfold fauP; rw [hp], fun z h => (nomatch h)⟩
 | ok z =>
  rw [hc] at hp;refine ⟨by unfold fauP; rw [hp], fun z' h => ?_⟩
  injection h with h;subst h;unfold semP;rw [hp];show ((z.1.map (shP 5)).map fun x => seg (X5 ++ Y) x.1 x.2) = _;rw [List.map_map];refine List.map_congr_left fun x _ => ?_;exact qbkw X5 Y x.1 x.2
theorem qcbl : ∀ l : QB, ∀ c ∈ l.take (prL l), qfv c = true
 | [], c, h => by simp at h
 | d :: r, c, h => by
  cases hd : qfv d
  ·rw [prL, hd] at h; simp at h
  ·rw [prL, if_pos hd, List.take_succ_cons] at h;rcases List.mem_cons.1 h with rfl | h
   ·exact hd
   ·exact qcbl r c h
theorem qbqm : ∀ l : QB, ∀ c, (l.drop (prL l)).head? = some c → qfv c = false
 | [], c, h => by simp at h
 | d :: r, c, h => by
  cases hd : qfv d
  ·rw [prL, hd] at h;injection h with h;rw [← h]; exact hd
  ·rw [prL, if_pos hd, List.drop_succ_cons] at h;exact qbqm r c h
theorem bD_sh (X M : QB) (L q : Nat) : bD (X ++ M) (X.length + L) (X.length + q) = (X.length + (bD M L q).1, (bD M L q).2) := by
 unfold bD;rw [qpp]
 by_cases h : M[q]? = some 43
 ·rw [if_pos h, if_pos h]
  by_cases h2 : L ≤ q
  ·rw [if_pos h2, if_pos (by omega)]
  ·rw [if_neg h2, if_neg (by omega), Nat.add_assoc, qzh X M _ _ rfl, qbnl false X M L _ (qcx M _)]
 ·rw [if_neg h, if_neg h]
theorem tD_sh (X M : QB) (L : Nat) : tD (X ++ M) (X.length + L) X.length = (X.length + (tD M L 0).1, (tD M L 0).2) := by
 have hg : (X ++ M)[X.length]? = M[0]? := qpp X M 0;have hb := bD_sh X M L 0;unfold tD;rw [hg]
 by_cases h : M[0]? = some 45
 ·rw [if_pos h, if_pos h]
  by_cases h2 : L ≤ 0
  ·rw [if_pos h2, if_pos (by omega)]; rfl
  ·rw [if_neg h2, if_neg (by omega), qzh X M _ 1 rfl, qbnl true X M L _ (qcx M _)]
   dsimp only
   by_cases h3 : (idsD true M L (qp M (0 + 1))).2 ≠ 0
   ·rw [if_pos h3, if_pos h3]
   ·rw [if_neg h3, if_neg h3];exact bD_sh X M L _
 ·rw [if_neg h, if_neg h];exact hb
theorem preD_sh (X M : QB) : preD (X ++ M) X.length = preD M 0 := by
 have hg : (X ++ M)[X.length]? = M[0]? := qpp X M 0;unfold preD;rw [hg, qzh X M _ 1 rfl, List.map_map]
 by_cases h : M[0]? = some 45
 ·rw [if_pos h, if_pos h];exact List.map_congr_left fun x _ => qbkw X M x.1 x.2
 ·rw [if_neg h, if_neg h]
end Go.Proofs.YtpdlgiioahjhiaaGreat

namespace Go.Proofs.YtpdlgiioahjhiaaGreat
open Go.RowKit Go.Shelf
set_option linter.unusedVariables false
set_option maxHeartbeats 4000000
theorem qpv (n : Int) (h : 0 ≤ n) (h2 : n ≤ 2000) : wrap64 n = n := by
 unfold wrap64;omega
theorem wr5 (e q : Nat) (h : e ≤ 256) (h2 : q ≤ 256) : wrap64 (wrap64 ((e : Int) + ((5 + q : Nat) : Int)) - 5) = ((e + q : Nat) : Int) := by
 rw [qpv ((e : Int) + ((5 + q : Nat) : Int)) (by omega) (by omega), qpv _ (by omega) (by omega)]
 omega
theorem qrm {l : QB} {a : Nat} {p : PartL} {z r : Int} (h : 48 < z - a) : endP l a p z r = (qcz, (a : Int) + 48, 12) := if_pos h
theorem qrt {l : QB} {a : Nat} {p : PartL} {z r : Int} (h : ¬ 48 < z - a) (hr : r ≠ 0) : endP l a p z r = (p, z, r) := by
 unfold endP; rw [if_neg h, if_neg (fun x => hr x.1)]
theorem qbld {l : QB} {a e L z : Nat} {p : PartL} {r : Int} (hL : a + 48 - e = L) (he : e ≤ a + 48) (hr : r ≠ 0) : (endP l a p ((e + z : Nat) : Int) r).2 = (((e + (GL L z r).1 : Nat) : Int), (GL L z r).2) := by
 by_cases h : L < z
 ·rw [qrm (by omega), qblb _ h]
  show ((a : Int) + 48, (12 : Int)) = (((e + L : Nat) : Int), 12);rw [show ((e + L : Nat) : Int) = (a : Int) + 48 by omega]
 ·rw [qrt (by omega) hr, qbhs _ (by omega)]
theorem endP_ten {l : QB} {a e L q : Nat} (p : PartL) (hL : a + 48 - e = L) (he : e ≤ a + 48) (hq : q ≤ L) : endP l a p ((e + q : Nat) : Int) 10 = (p, ((e + q : Nat) : Int), 10) :=
 qrt (by omega) (by decide)
theorem qccv {l : QB} {a e L q : Nat} (p : PartL) (hL : a + 48 - e = L) (he : e ≤ a + 48) (hq : q ≤ L) (h43 : l[e + q]? = some 43) : endP l a p ((e + q : Nat) : Int) 0 = (qcz, ((e + q : Nat) : Int), 10) := by
 have hlt := (List.getElem?_eq_some_iff.1 h43).1;have hends : qcc l ((e + q : Nat) : Int).toNat = false := by
  rw [Int.toNat_natCast];unfold qcc;rw [h43, decide_eq_false (by omega)]
  decide
 unfold endP;rw [if_neg (by omega), if_pos ⟨rfl, hends, by rw [Int.toNat_natCast, h43]; decide⟩]
def qwk (l : QB) (a : Nat) (P : List QB → PartL) (pr : List QB) (E : PartL × Int × Int) (D : Nat × Int) : Prop :=
 (D.2 ≠ 0 ∧ E.2 = ((D.1 : Int), D.2)) ∨ (D.2 = 0 ∧ D.1 ≤ a + 48 ∧ E.2 = (endP l a (P pr) (D.1 : Int) 0).2 ∧ (E.2.2 = 0 → E.1 = (endP l a (P pr) (D.1 : Int) 0).1))
theorem qcdk (l : QB) (a e : Nat) (hae : a + 5 ≤ e) (heL : e ≤ a + 48) (hel : e ≤ l.length) (hl : l.length ≤ 256) (P : List QB → PartL) :
  qwk l a P (preD l e) (endP l a (P (preR l e).1) (preR l e).2.1 (preR l e).2.2) (tD l (a + 48) e) := by
 by_cases hc : l[e]? = some 45 ∨ l[e]? = some 43
 ·obtain ⟨X, hX⟩ : ∃ X, l.take e = X := ⟨_, rfl⟩;obtain ⟨M, hM⟩ : ∃ M, l.drop e = M := ⟨_, rfl⟩;have hXM : l = X ++ M := by rw [← hX, ← hM, List.take_append_drop]
  have hXl : X.length = e := by rw [← hX, List.length_take]; omega
  obtain ⟨k, hk⟩ : ∃ k, min (prL M) 48 = k := ⟨_, rfl⟩;obtain ⟨L, hL⟩ : ∃ L, a + 48 - e = L := ⟨_, rfl⟩;have hprM := qbcs M;have hM0 : M[0]? = l[e]? := by rw [← hM, List.getElem?_drop]; rfl
  have hpr1 : 1 ≤ prL M := by
   cases hMc : M with
   | nil => rw [hMc] at hM0; rw [← hM0] at hc; simp at hc
   | cons c r =>
    rw [hMc] at hM0;rw [← hM0] at hc;have : qfv c = true := by
     rcases hc with hc | hc <;> (injection hc with hc; subst hc; decide)
    rw [prL, if_pos this];omega
  obtain ⟨Y, hY⟩ : ∃ Y, M.take k = Y := ⟨_, rfl⟩;obtain ⟨Z, hZ⟩ : ∃ Z, M.drop k = Z := ⟨_, rfl⟩;have hYZ : M = Y ++ Z := by rw [← hY, ← hZ, List.take_append_drop]
  have hYl : Y.length = k := by rw [← hY, List.length_take]; omega
  have hlen : l.length = e + (Y.length + Z.length) := by rw [hXM, hYZ, List.length_append, List.length_append, hXl]
  have hY0 : Y[0]? = l[e]? := by rw [← hM0, hYZ, List.getElem?_append_left (by omega)]
  have hclip : Clip Y Z L := by
   refine ⟨fun c h => ?_, ?_⟩
   ·rw [← hY] at h;refine qcbl M c ?_;have : M.take k = (M.take (prL M)).take k := by rw [List.take_take]; congr 1; omega
    rw [this] at h;exact List.mem_of_mem_take h
   ·by_cases h48 : prL M ≤ 48
    ·refine .inl fun c h => qbqm M c ?_;rw [← hZ] at h;rw [show prL M = k by omega]
     exact h
    ·exact .inr (by omega)
  have hcut : min (e + prL (l.drop e)) (e + 48) = e + k := by rw [hM]; omega
  have hT : preT l e (e + k) = X5 ++ Y := by
   unfold preT seg;rw [List.drop_take, Nat.add_sub_cancel_left, hM, hY]
   rfl
  have hD : tD l (a + 48) e = (e + (tD (Y ++ Z) L 0).1, (tD (Y ++ Z) L 0).2) := by
   have := tD_sh X M L;rw [hXl, show e + L = a + 48 by omega, ← hXM, hYZ] at this
   exact this
  have hpD : preD l e = preD (Y ++ Z) 0 := by
   have := preD_sh X M;rw [hXl, ← hXM, hYZ] at this;exact this
  have hY0' : Y[0]? = some 45 ∨ Y[0]? = some 43 := by rw [hY0]; exact hc
  have hF := qbqb Y hY0' (by omega)
  have hget : ∀ i, l[e + i]? = (Y ++ Z)[i]? := fun i => by
   have := qpp X M i;rw [hXl, ← hXM, hYZ] at this;exact this
  unfold qwk;rw [hD, hpD];dsimp only;have hpre : preR l e = if (fauP (X5 ++ Y)).1 = 0 then ((semP (X5 ++ Y)).pre, ((e + k : Nat) : Int), 0)
    else if (fauP (X5 ++ Y)).1 ≠ 11 then ([], wrap64 (wrap64 ((e : Int) + ((fauP (X5 ++ Y)).2 : Int)) - 5), (fauP (X5 ++ Y)).1)
    else if e + k < l.length ∧ (l[e + k - 1]?.map fun c => isC (c.toNat : Int) 1) = some true then ([], ((e + k : Nat) : Int), 14)
    else ([], ((e + k : Nat) : Int), misL l.length (e + k)) := by
   unfold preR;rw [if_pos hc, hcut, hT]
  rw [hpre];clear hpre;rcases qcds hclip hY0' with ⟨y, hy, hyy⟩ | ⟨z, hz, hzz⟩
  ·have hne := qbpg hy;have hyl : y.2 ≤ Y.length := qbzv (Nat.zero_le _) y hy;rw [hF.1, hy];dsimp only;rw [if_neg hne];rcases hyy with ⟨h1, h2⟩ | ⟨h1, h2, h3, h4⟩
   ·refine .inl ⟨h1, ?_⟩;rw [← h2];unfold finD
    by_cases h11 : y.1 ≠ 11
    ·rw [if_pos h11, if_pos h11];have hw : wrap64 (wrap64 ((e : Int) + ((5 + y.2 : Nat) : Int)) - 5) = ((e + y.2 : Nat) : Int) := wr5 e y.2 (by omega) (by omega)
     rw [hw];exact qbld hL heL hne
    ·rw [if_neg h11, if_neg h11];have hcond : (e + k < l.length ∧ (l[e + k - 1]?.map fun c => isC (c.toNat : Int) 1) = some true) ↔ (Z ≠ [] ∧ (Y[Y.length - 1]?.map fun c => isC (c.toNat : Int) 1) = some true) := by
      have h5 : l[e + k - 1]? = Y[Y.length - 1]? := by
       rw [show e + k - 1 = e + (k - 1) by omega, hget, List.getElem?_append_left (by omega), hYl]
      rw [h5];have h6 : e + k < l.length ↔ Z ≠ [] := by
       rw [hlen, ← List.length_pos_iff];omega
      rw [h6]
     have hmis : misL l.length (e + k) = misL (Y.length + Z.length) Y.length := by rw [hlen, qbxd, hYl]
     by_cases hcz : Z ≠ [] ∧ (Y[Y.length - 1]?.map fun c => isC (c.toNat : Int) 1) = some true
     ·rw [if_pos (hcond.2 hcz), if_pos hcz, hYl];exact qbld (r := 14) hL heL (by decide)
     ·rw [if_neg (fun x => hcz (hcond.1 x)), if_neg hcz, hmis, hYl];exact qbld hL heL (qch _ _)
   ·refine .inr ⟨h1, by omega, ?_⟩
    obtain ⟨q, hq⟩ : ∃ q, (tD (Y ++ Z) L 0).1 = q := ⟨_, rfl⟩;rw [hq] at h2 h3 h4 ⊢;have hy1 : y.1 = 10 := by rw [h2]
    have hy2 : y.2 = q := by rw [h2]
    have h11 : y.1 ≠ 11 := by rw [hy1]; decide
    have hw : wrap64 (wrap64 ((e : Int) + ((5 + y.2 : Nat) : Int)) - 5) = ((e + y.2 : Nat) : Int) := wr5 e y.2 (by omega) (by omega)
    rw [if_pos h11, hw, hy1, hy2];have hE := endP_ten (l := l) (P []) hL heL h3;have hF2 := qccv (P (preD (Y ++ Z) 0)) hL heL h3 (show l[e + q]? = some 43 by rw [hget]; exact h4)
    refine ⟨(congrArg Prod.snd hE).trans (by rw [hF2]), fun h => ?_⟩
    have h' : (endP l a (P []) ((e + q : Nat) : Int) 10).2.2 = 0 := h;rw [hE] at h';cases h'
  ·rw [hF.1, hz];dsimp only;rw [if_pos rfl, hF.2 z hz];dsimp only;rcases hzz with ⟨h1, h2, h3⟩ | ⟨h1, h2, h3⟩
   ·refine .inl ⟨h1, ?_⟩;rw [h3, qrm (by omega)]
    dsimp only;rw [show ((e + L : Nat) : Int) = (a : Int) + 48 by omega]
   ·rw [h1, h3, hYl];exact .inr ⟨rfl, by omega, rfl, fun _ => rfl⟩
 ·have h1 : preR l e = ([], (e : Int), 0) := if_neg hc;have h2 : tD l (a + 48) e = (e, 0) := by
   unfold tD bD;rw [if_neg (fun x => hc (.inl x)), if_neg (fun x => hc (.inr x))]
  have h3 : preD l e = [] := if_neg (fun x => hc (.inl x));unfold qwk;rw [h1, h2, h3];exact .inr ⟨rfl, heL, rfl, fun _ => rfl⟩
end Go.Proofs.YtpdlgiioahjhiaaGreat

namespace Go.Proofs.YtpdlgiioahjhiaaGreat
open Go.RowKit Go.Shelf
open List renaming getElem?_eq_some_iff → qcgn
set_option linter.unusedVariables false
def npD (l : QB) (p b : Nat) : Nat × Bool × Int :=
 if (l[b]?.map qkh).getD false then (if p + 48 ≤ b then (b, true, 12) else (b + 1, true, 0))
 else if qz 1 (l.drop b) = 0 then (b, false, misL l.length b)
 else ((numN l p b).1, false, (numN l p b).2)
def rnD (l : QB) (p : Nat) : Nat → Nat → Nat → List (Nat × Nat) → Except (Nat × Int) (List (Nat × Nat) × Nat)
 | 0, i, b, sg => if (npD l p b).2.2 ≠ 0 then .error ((npD l p b).1, (npD l p b).2.2) else .ok (addS sg i (npD l p b).2.1 b (npD l p b).1, (npD l p b).1)
 | k + 1, i, b, sg => if (npD l p b).2.2 ≠ 0 then .error ((npD l p b).1, (npD l p b).2.2)
   else if l[(npD l p b).1]? = some 46 then (if p + 48 ≤ (npD l p b).1 then .error ((npD l p b).1, 12) else rnD l p k (i + 1) ((npD l p b).1 + 1) (addS sg i (npD l p b).2.1 b (npD l p b).1))
   else .ok (addS sg i (npD l p b).2.1 b (npD l p b).1, (npD l p b).1)
theorem qblr (l : QB) (b : Nat) : b ≤ (npL l b).1 ∧ ((npL l b).2.2 = 0 → b + 1 ≤ (npL l b).1) := by
 unfold npL;split
 ·exact ⟨by simp, fun _ => by simp⟩
 ·split
  ·exact ⟨by simp, fun h => absurd h (qch _ _)⟩
  ·split
   ·exact ⟨by simp, fun _ => by simp⟩
   ·exact ⟨by simp, fun _ => by dsimp only; omega⟩
theorem qbnj (l : QB) : ∀ (k i b : Nat) (sg : List (Nat × Nat)), (∀ x, rnGo l k i b sg = .error x → b ≤ x.1) ∧ (∀ x, rnGo l k i b sg = .ok x → b + 1 ≤ x.2)
 | 0, i, b, sg => by
  have h := qblr l b;unfold rnGo
  by_cases hr : (npL l b).2.2 ≠ 0
  ·rw [if_pos hr];refine ⟨fun x e => ?_, fun x e => (nomatch e)⟩;injection e with e;rw [← e]; exact h.1
  ·rw [if_neg hr];refine ⟨fun x e => (nomatch e), fun x e => ?_⟩;injection e with e;rw [← e]; exact h.2 (by simpa using hr)
 | k + 1, i, b, sg => by
  have h := qblr l b;rw [rnGo]
  by_cases hr : (npL l b).2.2 ≠ 0
  ·rw [if_pos hr];refine ⟨fun x e => ?_, fun x e => (nomatch e)⟩;injection e with e;rw [← e]; exact h.1
  ·rw [if_neg hr]
   by_cases hd : l[(npL l b).1]? = some 46
   ·rw [if_pos hd];have := qbnj l k (i + 1) ((npL l b).1 + 1) (addS sg i (npL l b).2.1 b (npL l b).1);exact ⟨fun x e => by have := this.1 x e; omega, fun x e => by have := this.2 x e; omega⟩
   ·rw [if_neg hd];refine ⟨fun x e => (nomatch e), fun x e => ?_⟩;injection e with e;rw [← e]; exact h.2 (by simpa using hr)
def RnLong (L : Nat) (x : Except (Nat × Int) (List (Nat × Nat) × Nat)) : Prop := (∀ y, x = .error y → L < y.1) ∧ (∀ y, x = .ok y → L < y.2)
theorem qbzk (l : QB) (L k i b : Nat) (sg : List (Nat × Nat)) (h : L < b) : RnLong L (rnGo l k i b sg) :=
 ⟨fun y e => by have := (qbnj l k i b sg).1 y e; omega, fun y e => by have := (qbnj l k i b sg).2 y e; omega⟩
theorem np_one (l : QB) (p b : Nat) (hb : b ≤ p + 48) :
  (npD l p b = npL l b ∧ (npL l b).1 ≤ p + 48) ∨ (npD l p b = (p + 48, (npD l p b).2.1, 12) ∧ p + 48 < (npL l b).1) := by
 unfold npD npL
 by_cases ho : ((l[b]?.map qkh).getD false) = true
 ·rw [if_pos ho, if_pos ho]
  by_cases hL : p + 48 ≤ b
  ·rw [if_pos hL];exact .inr ⟨by rw [show b = p + 48 by omega], by dsimp only; omega⟩
  ·rw [if_neg hL];exact .inl ⟨rfl, by dsimp only; omega⟩
 ·rw [if_neg ho, if_neg ho]
  by_cases hr : qz 1 (l.drop b) = 0
  ·rw [if_pos hr, if_pos hr];exact .inl ⟨rfl, hb⟩
  ·rw [if_neg hr, if_neg hr];unfold numN;rw [if_neg hr]
   by_cases hL : p + 48 ≤ b
   ·rw [if_pos hL];refine .inr ⟨by rw [show b = p + 48 by omega], ?_⟩
    split <;> (dsimp only; omega)
   ·rw [if_neg hL]
    by_cases hz : l[b]? = some 48 ∧ 2 ≤ qz 1 (l.drop b)
    ·rw [if_pos hz, if_pos (show l[b]? = some 48 ∧ 1 < qz 1 (l.drop b) from ⟨hz.1, by have := hz.2; omega⟩)]
     exact .inl ⟨rfl, by dsimp only; omega⟩
    ·rw [if_neg hz, if_neg (show ¬ (l[b]? = some 48 ∧ 1 < qz 1 (l.drop b)) from fun x => hz ⟨x.1, by have := x.2; omega⟩)]
     by_cases hl : p + 48 < b + qz 1 (l.drop b)
     ·rw [if_pos hl];exact .inr ⟨rfl, hl⟩
     ·rw [if_neg hl];exact .inl ⟨rfl, by dsimp only; omega⟩
theorem qvj (l : QB) (p : Nat) : ∀ (k i b : Nat) (sg : List (Nat × Nat)), b ≤ p + 48 →
  (∀ x, rnD l p k i b sg = .ok x → rnGo l k i b sg = .ok x ∧ x.2 ≤ p + 48) ∧ (∀ x, rnD l p k i b sg = .error x → (rnGo l k i b sg = .error x ∧ x.1 ≤ p + 48 ∧ x.2 ≠ 0) ∨ (x = (p + 48, 12) ∧ RnLong (p + 48) (rnGo l k i b sg)))
 | 0, i, b, sg, hb => by
  rw [rnD, rnGo];rcases np_one l p b hb with ⟨h1, h2⟩ | ⟨h1, h2⟩
  ·rw [h1]
   by_cases hr : (npL l b).2.2 ≠ 0
   ·rw [if_pos hr];refine ⟨fun x e => (nomatch e), fun x e => .inl ⟨e, ?_, ?_⟩⟩ <;> (injection e with e; rw [← e])
    ·exact h2
    ·exact hr
   ·rw [if_neg hr];refine ⟨fun x e => ⟨e, ?_⟩, fun x e => (nomatch e)⟩;injection e with e;rw [← e]; exact h2
  ·rw [if_pos (by rw [h1]; simp)]
   refine ⟨fun x e => (nomatch e), fun x e => .inr ⟨?_, ?_⟩⟩
   ·injection e with e;rw [← e, h1]
   ·by_cases hr : (npL l b).2.2 ≠ 0
    ·rw [if_pos hr];refine ⟨fun y e => ?_, fun y e => (nomatch e)⟩;injection e with e;rw [← e]; exact h2
    ·rw [if_neg hr];refine ⟨fun y e => (nomatch e), fun y e => ?_⟩;injection e with e;rw [← e]; exact h2
 | k + 1, i, b, sg, hb => by
  rw [rnD, rnGo];rcases np_one l p b hb with ⟨h1, h2⟩ | ⟨h1, h2⟩
  ·rw [h1]
   by_cases hr : (npL l b).2.2 ≠ 0
   ·rw [if_pos hr, if_pos hr];refine ⟨fun x e => (nomatch e), fun x e => .inl ⟨e, ?_, ?_⟩⟩ <;> (injection e with e; rw [← e])
    ·exact h2
    ·exact hr
   ·rw [if_neg hr, if_neg hr]
    by_cases hd : l[(npL l b).1]? = some 46
    ·rw [if_pos hd, if_pos hd]
     by_cases hL : p + 48 ≤ (npL l b).1
     ·rw [if_pos hL];refine ⟨fun x e => (nomatch e), fun x e => .inr ⟨?_, qbzk l _ _ _ _ _ (by omega)⟩⟩
      injection e with e;rw [← e, show (npL l b).1 = p + 48 by omega]
     ·rw [if_neg hL];exact qvj l p k (i + 1) _ _ (by omega)
    ·rw [if_neg hd, if_neg hd];refine ⟨fun x e => ⟨e, ?_⟩, fun x e => (nomatch e)⟩;injection e with e;rw [← e]; exact h2
  ·rw [if_pos (by rw [h1]; simp)]
   refine ⟨fun x e => (nomatch e), fun x e => .inr ⟨?_, ?_⟩⟩
   ·injection e with e;rw [← e, h1]
   ·by_cases hr : (npL l b).2.2 ≠ 0
    ·rw [if_pos hr];refine ⟨fun y e => ?_, fun y e => (nomatch e)⟩;injection e with e;rw [← e]; exact h2
    ·rw [if_neg hr]
     by_cases hd : l[(npL l b).1]? = some 46
     ·rw [if_pos hd];exact qbzk l _ _ _ _ _ (by omega)
     ·rw [if_neg hd];refine ⟨fun y e => (nomatch e), fun y e => ?_⟩;injection e with e;rw [← e]; exact h2
theorem qbhp (l : QB) : ∀ (k i b : Nat) (sg : List (Nat × Nat)) (x : List (Nat × Nat) × Nat), rnGo l k i b sg = .ok x → b + 2 * x.1.length ≤ x.2 + 1 + 2 * sg.length
 | 0, i, b, sg, x, e => by
  have h := qblr l b;rw [rnGo] at e
  by_cases hr : (npL l b).2.2 ≠ 0
  ·rw [if_pos hr] at e; cases e
  ·rw [if_neg hr] at e;injection e with e;have h2 := h.2 (by simpa using hr)
   have h3 : (addS sg i (npL l b).2.1 b (npL l b).1).length ≤ sg.length + 1 := by unfold addS; split <;> simp
   rw [← e];dsimp only;omega
 | k + 1, i, b, sg, x, e => by
  have h := qblr l b;have h3 : (addS sg i (npL l b).2.1 b (npL l b).1).length ≤ sg.length + 1 := by unfold addS; split <;> simp
  rw [rnGo] at e
  by_cases hr : (npL l b).2.2 ≠ 0
  ·rw [if_pos hr] at e; cases e
  ·rw [if_neg hr] at e;have h2 := h.2 (by simpa using hr)
   by_cases hd : l[(npL l b).1]? = some 46
   ·rw [if_pos hd] at e;have := qbhp l k _ _ _ x e;omega
   ·rw [if_neg hd] at e;injection e with e;rw [← e];dsimp only;omega
theorem fau_ge (l : QB) (e : Nat) (hc : l[e]? = some 45 ∨ l[e]? = some 43) (h0 : ¬ (fauP (preT l e (min (e + prL (l.drop e)) (e + 48)))).1 = 0) : 5 ≤ (fauP (preT l e (min (e + prL (l.drop e)) (e + 48)))).2 := by
 have hlt : e < l.length := by rcases hc with hc | hc <;> exact (qcgn.1 hc).1
 have hpr1 : 1 ≤ prL (l.drop e) := by
  rw [List.drop_eq_getElem_cons hlt, prL, if_pos]
  ·omega
  ·rw [List.getElem?_eq_getElem hlt] at hc;rcases hc with hc | hc <;> (injection hc with hc; rw [hc]; decide)
 obtain ⟨c, hcc⟩ : ∃ c, min (e + prL (l.drop e)) (e + 48) = c := ⟨_, rfl⟩;rw [hcc] at h0 ⊢;have hT : preT l e c = X5 ++ seg l e c := rfl;have hY : (seg l e c)[0]? = l[e]? := by
  unfold seg;rw [List.getElem?_drop, Nat.add_zero, List.getElem?_take_of_lt (by omega)]
 have hlen : (seg l e c).length ≤ 48 := by unfold seg; simp; omega
 have hp := (qbqb (seg l e c) (by rw [hY]; exact hc) hlen).1
 rw [hT, hp] at h0 ⊢;cases hy : qdg (seg l e c) 0 with
 | error y => dsimp only; omega
 | ok z => rw [hy] at h0; exact absurd rfl h0
theorem pre_geD (l : QB) (e : Nat) (hl : l.length ≤ 256) (he : e ≤ l.length) : (e : Int) ≤ (preR l e).2.1 := by
 by_cases hc : l[e]? = some 45 ∨ l[e]? = some 43
 ·have hlt : e < l.length := by rcases hc with hc | hc <;> exact (qcgn.1 hc).1
  unfold preR;rw [if_pos hc];have hm : e ≤ min (e + prL (l.drop e)) (e + 48) := by omega
  split
  ·dsimp only; omega
  ·split
   ·have h5 : 5 ≤ (fauP (preT l e (min (e + prL (l.drop e)) (e + 48)))).2 := by
     rename_i h0 _;exact fau_ge l e hc h0
    have h6 := fau_le (preT l e (min (e + prL (l.drop e)) (e + 48)));have h7 : (preT l e (min (e + prL (l.drop e)) (e + 48))).length ≤ 5 + l.length := by unfold preT seg; simp; omega
    dsimp only;generalize (fauP (preT l e (min (e + prL (l.drop e)) (e + 48)))).2 = n at *;rw [qpv ((e : Int) + (n : Int)) (by omega) (by omega), qpv _ (by omega) (by omega)]
    omega
   ·split
    ·dsimp only; omega
    ·dsimp only; omega
 ·have h1 : preR l e = ([], (e : Int), 0) := if_neg hc;rw [h1];exact Int.le_refl _
def segE (l : QB) (sg : List (Nat × Nat)) (i : Nat) : QB := match sg[i]? with | some x => seg l x.1 x.2 | none => []
def rpD (l : QB) (a : Nat) : List (Nat × Nat) × List QB × Nat × Int :=
 match rnD l a 2 0 (vL l a) [] with
 | .error x => ([], [], x.1, x.2)
 | .ok x => if x.1.length = 3 then (x.1, preD l x.2, (tD l (a + 48) x.2).1, (tD l (a + 48) x.2).2) else (x.1, [], x.2, 0)
def qcw (l : QB) (sg : List (Nat × Nat)) (pr : List QB) : PartL := ⟨segT l sg 0, segT l sg 1, segT l sg 2, pr, sg.length⟩
theorem qzf (l : QB) (a : Nat) (ha : a ≤ l.length) (hl : l.length ≤ 256) :
  qwk l a (qcw l (rpD l a).1) (rpD l a).2.1 (rpL l a) ((rpD l a).2.2.1, (rpD l a).2.2.2) := by
 have hv : vL l a ≤ a + 1 ∧ a ≤ vL l a ∧ vL l a ≤ l.length := by
  unfold vL;split
  ·rename_i h;have := (qcgn.1 h).1;omega
  ·omega
 have hs := qvj l a 2 0 (vL l a) [] (by omega)
 have hle := qbfj (l := l) 2 0 (vL l a) [] hv.2.2 (Nat.le_refl _);unfold rpD rpL;cases hd : rnD l a 2 0 (vL l a) [] with
 | error x =>
  dsimp only;unfold qwk;dsimp only;rcases hs.2 x hd with ⟨h1, h2, h3⟩ | ⟨h1, h2⟩
  ·rw [h1];dsimp only;refine .inl ⟨h3, ?_⟩;rw [qrt (by omega) h3]
  ·subst h1;refine .inl ⟨by simp, ?_⟩
   cases hg : rnGo l 2 0 (vL l a) [] with
   | error y =>
    dsimp only;have := h2.1 y hg;rw [qrm (by omega)]
    rfl
   | ok y =>
    dsimp only;have h4 := h2.2 y hg;have h5 := (hle.2 y hg).1;have h6 := pre_geD l y.2 hl h5
    by_cases h3 : y.1.length = 3
    ·rw [if_pos h3, qrm (by omega)]
     rfl
    ·rw [if_neg h3, qrm (by omega)]
     rfl
 | ok x =>
  obtain ⟨h1, h2⟩ := hs.1 x hd;rw [h1];dsimp only
  by_cases h3 : x.1.length = 3
  ·rw [if_pos h3, if_pos h3];have h4 := qbhp l 2 0 (vL l a) [] x h1;have h5 := (hle.2 x h1).1;have := qcdk l a x.2 (by simp at h4; omega) h2 h5 hl (fun pr => ⟨segT l x.1 0, segT l x.1 1, segT l x.1 2, pr, 3⟩)
   have he : qcw l x.1 = fun pr => ⟨segT l x.1 0, segT l x.1 1, segT l x.1 2, pr, 3⟩ := by
    funext pr
    unfold qcw;rw [h3]
   dsimp only;rw [he];exact this
  ·rw [if_neg h3, if_neg h3];unfold qwk;exact .inr ⟨rfl, h2, rfl, fun _ => rfl⟩
end Go.Proofs.YtpdlgiioahjhiaaGreat

namespace Go.Proofs.YtpdlgiioahjhiaaGreat
open Go.RowKit Go.Shelf
open List renaming getElem?_eq_some_iff → qcgn
set_option linter.unusedVariables false
theorem qccz (l : QB) : ∀ n i, l.length - i = n → ∀ x ∈ qp l i, x.2 = x.1 + idL (l.drop x.1) := by
 intro n
 induction n using Nat.strongRecOn with
 | _ n ih =>
  intro i hn x hx
  by_cases h : l[i + idL (l.drop i)]? = some 46
  ·rw [qdk l i _ rfl h] at hx;have hlt := (qcgn.1 h).1;rcases List.mem_cons.1 hx with rfl | hx
   ·rfl
   ·exact ih (l.length - (i + idL (l.drop i) + 1)) (by omega) _ rfl x hx
  ·rw [qcs l i _ rfl h] at hx;rw [List.mem_singleton.1 hx]
theorem qbqs : ∀ l : QB, idL (l.take (idL l)) = idL l
 | [] => rfl
 | c :: r => by
  cases hc : isId c
  ·have h0 : idL (c :: r) = 0 := by unfold idL; rw [hc]; rfl
   rw [h0]
   rfl
  ·have h0 : idL (c :: r) = idL r + 1 := by rw [idL, if_pos hc]
   rw [h0, List.take_succ_cons, idL, if_pos hc, qbqs r]
theorem seg_idB (l : QB) (a : Nat) (hn : seg l a (a + idL (l.drop a)) ≠ []) : idB (seg l a (a + idL (l.drop a))) = true := by
 rw [qblp] at hn ⊢;have h1 := qrq (l.drop a);unfold idB;rw [qbqs, List.length_take, Nat.min_eq_left h1, Bool.and_eq_true];refine ⟨?_, by simp⟩
 cases h : (l.drop a).take (idL (l.drop a)) with
 | nil => exact absurd h hn
 | cons c r => rfl
theorem qbqk (p : Bool) (l : QB) (L : Nat) : ∀ xs : List (Nat × Nat), (idsD p l L xs).2 = 0 → ∀ x ∈ xs, x.2 ≤ L ∧ qdq p l (seg l x.1 x.2) x.2 = 0
 | [], _, x, hx => by cases hx
 | y :: r, h, x, hx => by
  rw [idsD] at h
  by_cases h1 : L < y.2
  ·rw [if_pos h1] at h; simp at h
  ·rw [if_neg h1] at h
   by_cases h2 : qdq p l (seg l y.1 y.2) y.2 ≠ 0
   ·rw [if_pos h2] at h; exact absurd h h2
   ·rw [if_neg h2] at h;have hy : y.2 ≤ L ∧ qdq p l (seg l y.1 y.2) y.2 = 0 := ⟨by omega, by omega⟩
    rcases List.mem_cons.1 hx with rfl | hx
    ·exact hy
    ·by_cases h3 : r = []
     ·subst h3; cases hx
     ·rw [if_neg h3] at h
      by_cases h4 : L ≤ y.2
      ·rw [if_pos h4] at h; simp at h
      ·rw [if_neg h4] at h;exact qbqk p l L r h x hx
theorem qcdt {l x : QB} {e : Nat} (h : qdq true l x e = 0) : x ≠ [] ∧ qcq x = false := by
 unfold qdq at h
 by_cases h1 : x = []
 ·rw [if_pos h1] at h; exact absurd h (qch _ _)
 ·rw [if_neg h1] at h;refine ⟨h1, ?_⟩;cases hz : qcq x
  ·rfl
  ·exfalso;rw [hz] at h;simp only [Bool.and_self, if_true] at h;split at h <;> exact absurd h (by decide)
theorem qccn (l : QB) (L : Nat) : ∀ n i, l.length - i = n → (∀ x ∈ qp l i, x.2 ≤ L) → i + lenI ((qp l i).map fun x => seg l x.1 x.2) ≤ L + 1 := by
 intro n
 induction n using Nat.strongRecOn with
 | _ n ih =>
  intro i hn hL;have hw := qnr l i (i + idL (l.drop i))
  by_cases h : l[i + idL (l.drop i)]? = some 46
  ·have hlt := (qcgn.1 h).1;have hm := qdk l i _ rfl h;have h1 := ih (l.length - (i + idL (l.drop i) + 1)) (by omega) _ rfl (fun x hx => hL x (by rw [hm]; exact List.mem_cons_of_mem _ hx))
   rw [hm, List.map_cons, lenI];dsimp only;omega
  ·have hm := qcs l i _ rfl h;have h1 := hL (i, i + idL (l.drop i)) (by rw [hm]; exact List.mem_cons_self)
   rw [hm, List.map_cons, List.map_nil, lenI, lenI];dsimp only at h1 ⊢;omega
theorem idsD_pre {l : QB} {L i : Nat} (h : (idsD true l L (qp l i)).2 = 0) : (∀ t ∈ (qp l i).map (fun x => seg l x.1 x.2), preB t = true) ∧ i + lenI ((qp l i).map fun x => seg l x.1 x.2) ≤ L + 1 := by
 have ha := qbqk true l L _ h;refine ⟨fun t ht => ?_, qccn l L _ i rfl (fun x hx => (ha x hx).1)⟩;obtain ⟨⟨a, e⟩, hx, rfl⟩ := List.mem_map.1 ht;have h1 := qccz l _ i rfl _ hx;obtain ⟨h2, h3⟩ := qcdt (ha _ hx).2;dsimp only at h1 h2 h3 ⊢;subst h1;unfold preB;rw [seg_idB l a h2, h3]
 rfl
theorem tD_pre {l : QB} {L e : Nat} (he : e ≤ L) (h : (tD l L e).2 = 0) : (∀ t ∈ preD l e, preB t = true) ∧ e + lenI (preD l e) ≤ L := by
 unfold tD at h;unfold preD
 by_cases h45 : l[e]? = some 45
 ·rw [if_pos h45] at h ⊢
  by_cases hL : L ≤ e
  ·rw [if_pos hL] at h; simp at h
  ·rw [if_neg hL] at h
   by_cases hi : (idsD true l L (qp l (e + 1))).2 ≠ 0
   ·rw [if_pos hi] at h; exact absurd h hi
   ·have := idsD_pre (l := l) (L := L) (i := e + 1) (by omega)
    exact ⟨this.1, by omega⟩
 ·rw [if_neg h45];exact ⟨(fun t ht => by cases ht), by simpa [lenI] using he⟩
theorem vL_in (l : QB) (a : Nat) : a ≤ vL l a ∧ vL l a ≤ a + 1 := by unfold vL; split <;> omega
theorem qbcp {l : QB} {a : Nat} (h : (rpD l a).2.2.2 = 0) : GoodP (qcw l (rpD l a).1 (rpD l a).2.1) ∧ (rpD l a).1.length ≤ 3 ∧ (∀ x ∈ (rpD l a).1, numB (seg l x.1 x.2) = true) ∧ (rpD l a).2.2.1 ≤ (rpD l a).2.2.1 := by
 have hv := vL_in l a;have hs := qvj l a 2 0 (vL l a) [] (by omega)
 unfold rpD at h ⊢;cases hrn : rnD l a 2 0 (vL l a) [] with
 | error x =>
  rw [hrn] at h;exfalso;rcases hs.2 x hrn with ⟨_, _, h3⟩ | ⟨h1, _⟩
  ·exact h3 h
  ·subst h1; simp at h
 | ok x =>
  obtain ⟨sg, e⟩ := x;obtain ⟨hgo, heL⟩ := hs.1 _ hrn;rw [hrn] at h;dsimp only at h heL ⊢;obtain ⟨r1, r2, r3, r4⟩ := qbwx 2 0 (vL l a) [] sg e hgo (by intro x hx; cases hx) (Nat.le_refl _)
  have hs0 : numB [48] = true := qmm
  by_cases h3 : sg.length = 3
  ·rw [if_pos h3] at h ⊢;dsimp only at h ⊢;obtain ⟨p4, p3⟩ := tD_pre heL h;refine ⟨?_, by omega, r3, Nat.le_refl _⟩
   match sg, h3 with
   | [x, y, u], _ =>
    have w1 := qnr l x.1 x.2;have w2 := qnr l y.1 y.2;have w3 := qnr l u.1 u.2;unfold Wt at r4;simp at r4;refine ⟨r3 x (by simp), r3 y (by simp), r3 u (by simp), p4, Nat.le_refl _, fun h => absurd rfl h, fun _ => ?_, ?_⟩
    ·show (seg l x.1 x.2).length + (seg l y.1 y.2).length + (seg l u.1 u.2).length ≤ 50;omega
    ·show (seg l x.1 x.2).length + (seg l y.1 y.2).length + (seg l u.1 u.2).length + 2 + lenI (preD l e) + 0 ≤ 54;omega
  ·rw [if_neg h3] at h ⊢;dsimp only at h ⊢;refine ⟨?_, by omega, r3, Nat.le_refl _⟩
   match sg, h3, r2 with
   | [], _, _ =>
    exact ⟨hs0, hs0, hs0, (fun t ht => by cases ht), Nat.zero_le _, fun _ => rfl, fun h => absurd rfl h, by show 1 + 1 + 1 + 2 + 0 + 0 ≤ 54; omega⟩
   | [x], _, _ =>
    have w1 := qnr l x.1 x.2;unfold Wt at r4;simp at r4;refine ⟨r3 x (by simp), hs0, hs0, (fun t ht => by cases ht), by show 1 ≤ 3; omega, fun _ => rfl, fun _ => ?_, ?_⟩
    ·show (seg l x.1 x.2).length + 1 + 1 ≤ 50;omega
    ·show (seg l x.1 x.2).length + 1 + 1 + 2 + 0 + 0 ≤ 54;omega
   | [x, y], _, _ =>
    have w1 := qnr l x.1 x.2;have w2 := qnr l y.1 y.2;unfold Wt at r4;simp at r4;refine ⟨r3 x (by simp), r3 y (by simp), hs0, (fun t ht => by cases ht), by show 2 ≤ 3; omega, fun _ => rfl, fun _ => ?_, ?_⟩
    ·show (seg l x.1 x.2).length + (seg l y.1 y.2).length + 1 ≤ 50;omega
    ·show (seg l x.1 x.2).length + (seg l y.1 y.2).length + 1 + 2 + 0 + 0 ≤ 54;omega
   | [x, y, u], h3, _ => exact absurd rfl h3
   | x :: y :: u :: v :: r, _, r2 => simp at r2
theorem numB_ne {t : QB} (h : numB t = true) : t ≠ [] := by
 intro e;subst e;exact absurd h (by decide)
theorem qwq {l : QB} {sg : List (Nat × Nat)} (h : ∀ x ∈ sg, numB (seg l x.1 x.2) = true) (i : Nat) : zN (segE l sg i) = segT l sg i ∧ (i < sg.length → segE l sg i ≠ []) := by
 unfold segE segT;cases hx : sg[i]? with
 | none =>
  refine ⟨rfl, fun hi => ?_⟩;have := List.getElem?_eq_none_iff.1 hx;omega
 | some x =>
  obtain ⟨hi, he⟩ := qcgn.1 hx;have hn := numB_ne (h x (by rw [← he]; exact List.getElem_mem hi))
  dsimp only;exact ⟨qbkm hn, fun _ => hn⟩
theorem qbbm {l : QB} {sg : List (Nat × Nat)} (h : ∀ x ∈ sg, numB (seg l x.1 x.2) = true) (pr : List QB) : qcw l sg pr = pD (segE l sg 0) (segE l sg 1) (segE l sg 2) pr sg.length := by
 unfold qcw pD;rw [(qwq h 0).1, (qwq h 1).1, (qwq h 2).1]
end Go.Proofs.YtpdlgiioahjhiaaGreat
