/- Where a version goes wrong lies within its text; so do a par -/
import Derived.Test.YtpdlgiioahjhiaaGreatPJoin
import Derived.Test.YtpdlgiioahjhiaaGreatPBa
import Derived.Test.YtpdlgiioahjhiaaGreatPSe
namespace Go.Proofs.YtpdlgiioahjhiaaGreat
open Go.RowKit
open Nat renaming le_refl → qcgl, le_trans → qcgs
set_option linter.unusedVariables false
set_option maxHeartbeats 4000000
set_option maxRecDepth 100000
def preT (l : QB) (a e : Nat) : QB := [48, 46, 48, 46, 48] ++ seg l a e
def preR (l : QB) (a : Nat) : List QB × Int × Int :=
 if l[a]? = some 45 ∨ l[a]? = some 43 then
  if (fauP (preT l a (min (a + prL (l.drop a)) (a + 48)))).1 = 0 then ((semP (preT l a (min (a + prL (l.drop a)) (a + 48)))).pre, ((min (a + prL (l.drop a)) (a + 48) : Nat) : Int), 0)
  else if (fauP (preT l a (min (a + prL (l.drop a)) (a + 48)))).1 ≠ 11 then ([], wrap64 (wrap64 ((a : Int) + ((fauP (preT l a (min (a + prL (l.drop a)) (a + 48)))).2 : Int)) - 5), (fauP (preT l a (min (a + prL (l.drop a)) (a + 48)))).1)
  else if min (a + prL (l.drop a)) (a + 48) < l.length ∧ (l[min (a + prL (l.drop a)) (a + 48) - 1]?.map fun c => isC (c.toNat : Int) 1) = some true then ([], ((min (a + prL (l.drop a)) (a + 48) : Nat) : Int), 14)
  else ([], ((min (a + prL (l.drop a)) (a + 48) : Nat) : Int), misL l.length (min (a + prL (l.drop a)) (a + 48)))
 else ([], (a : Int), 0)
def PreP (w : World) (x : List QB × Int × Int) (e : Ending) (w' : World) : Prop :=
 Below w.heap.size w w' ∧ ∃ v, e = .returned (.tuple #[v, .int .i64 x.2.1, .int .i64 x.2.2]) ∧ Txt w' v x.1 ∧ qhm w.heap.size v ∧ Cap v ∧ ∃ a n c, v = .slice a n c
theorem qlg {w w' : World} (h : Below w.heap.size w w') (e r : Int) : PreP w ([], e, r) (.returned (.tuple #[.slice none 0 0, .int .i64 e, .int .i64 r])) w' :=
 ⟨h, _, rfl, qt w', (by rintro a i c h; cases h), (by rintro a n c h; cases h; exact qcgl _), _, _, _, rfl⟩
theorem qbsm (s : QY) (a e : Nat) : ((⟨#[48, 46, 48, 46, 48]⟩ : QY) ++ s.extract a e).data.toList = preT s.data.toList a e := by
 unfold preT;rw [ByteArray.data_append, Array.toList_append, qfb]
theorem qdn {n m : Nat} {v : Value} (h : qhm n v) (hm : m ≤ n) : qhm m v := fun a i c e => qcgs hm (h a i c e)
theorem qbtt (s : QY) (a : Nat) (w : World) (hs : s.size ≤ 256) (ha : a ≤ s.size) :
  Calls Tryz.prog 120 #[.string s, .int .i64 (a : Int)] w (PreP w (preR s.data.toList a)) := by
 have C0 := qb (fun W => qlr s a 45 W hs);have C1 := qb (fun W => qlr s a 43 W hs);have PE := qb (fun W => qbws s a W hs ha);have CP := qb (fun t W => qxc qvp t W);have hb1 := eqE (oneB 45) (by decide)
 have hb2 := eqE (oneB 43) (by decide)
 by_cases hd : s.data.toList[a]? = some 45 ∨ s.data.toList[a]? = some 43
 ·have hX : preR s.data.toList a = preR s.data.toList a := rfl
  conv at hX => rhs; unfold preR
  rw [if_pos hd, qh] at hX;generalize preR s.data.toList a = X at *;have hlt : a < s.size := by
   rcases Nat.lt_or_ge a s.size with h | h
   ·exact h
   ·rw [qft s a (by omega)] at hd; simp at hd
  have hone : 1 ≤ prL (s.data.toList.drop a) := by
   rw [qblh s a hlt (by
    rw [qdz s a hlt] at hd;rcases hd with h | h <;> (rw [show s[a] = _ from Option.some.inj h]; decide))]
   omega
  have hpl : a + prL (s.data.toList.drop a) ≤ s.size := by have := qbcs (s.data.toList.drop a); rw [List.length_drop, qh] at this; omega
  generalize prL (s.data.toList.drop a) = k at *;obtain ⟨E, hE⟩ : ∃ E, E = min (a + k) (a + 48) := ⟨_, rfl⟩;rw [← hE] at hX;have HX := qb hX;clear hX;have HE := qb hE;have hE1 : a + 1 ≤ E := by omega
  have hE2 : E ≤ s.size := by omega
  clear hE;rcases hd with hd | hd
  ·rw [qmk hd] at C0;clear hd;go_enter Tryz.func120, Tryz.ntmps120
   (go_wp2_with fail);refine (C0.out _).mono ?_;rintro e w1 ⟨rfl, hw1⟩;(go_wp2_with fail);refine (PE.out _).mono ?_;rintro e w' ⟨rfl, rfl⟩;(go_wp2_with fail);have hEI : ((a : Int) + min (k : Int) 48) = (E : Int) := by have := HE.out; omega
   rw [hEI, Int.toNat_natCast];clear hEI;refine (CP.out _ _).mono ?_;rintro e w2 ⟨hw2, v, rfl, hF, hCap⟩;rw [qbsm] at hF ⊢;obtain ⟨vp, vb, rfl, t1, t2, fr1, fr2⟩ := hF;obtain ⟨cp1, cp2⟩ := hCap _ _ _ _ _ rfl;obtain ⟨a1, c1, rfl, x1⟩ := id t1;obtain ⟨a2, c2, rfl, x2⟩ := id t2;have B2 := qb (hw1.trans (hw2.mono hw1.size));have FR := qb (qdn fr1 hw1.size);have T1 := qb t1;clear fr1 fr2 t1 t2 x1 x2 hCap hw2;generalize hfq : (fauP (preT s.data.toList a E)) = fq at *;obtain ⟨f1, f2⟩ := fq;generalize hsq : (semP (preT s.data.toList a E)) = sq at *;have hX := HX.out;clear hfq hsq HX;dsimp only at hX
   by_cases hz : f1 = 0
   ·rw [if_pos hz] at hX;subst hz hX;(go_wp2_with fail);go_ret3
    exact ⟨(B2.out.alloc (qcgs (qcgl _) B2.out.size) _).alloc (by have := B2.out.size; simp; omega) _, _, rfl, (T1.out.below ((Below.refl _ _).alloc (qcgl _) _)).below ((Below.refl _ _).alloc (qcgl _) _), FR.out, cp1, _, _, _, rfl⟩
   rw [if_neg hz] at hX;have z1 : (f1 == 0) = false := by simpa using hz
   by_cases h11 : f1 = 11
   ·rw [if_neg (fun h => h h11)] at hX;subst h11
    by_cases hl : E < s.size
    ·have hi : E - 1 < s.size := by omega
     rw [qdz s (E - 1) hi] at hX;have w1 : (0 : Int) ≤ (E : Int) - 1 := by omega
     have w2 : (E : Int) - 1 < (s.size : Int) := by omega
     have w3 : ((E : Int) - 1).toNat = E - 1 := by omega
     have l1 : decide ((E : Int) < (s.size : Int)) = true := by simp; omega
     cases hc : isC (s[E - 1].toNat : Int) 1
     ·rw [if_neg (by simp [hc])] at hX
      subst hX;go_wp2_with (first | (go_at_call 55; refine (qgz _ _ _).mono ?_; rintro e w' ⟨rfl, rfl⟩) | (go_at_call 57; refine (qcl _ _ _).mono ?_; rintro e w' ⟨rfl, rfl⟩))
      go_ret3
      exact qlg ((B2.out.alloc (qcgs (qcgl _) B2.out.size) _).alloc (by have := B2.out.size; simp; omega) _) _ _
     ·rw [if_pos ⟨hl, by simp [hc]⟩] at hX
      subst hX;go_wp2_with (first | (go_at_call 55; refine (qgz _ _ _).mono ?_; rintro e w' ⟨rfl, rfl⟩) | (go_at_call 57; refine (qcl _ _ _).mono ?_; rintro e w' ⟨rfl, rfl⟩))
      go_ret3
      exact qlg ((B2.out.alloc (qcgs (qcgl _) B2.out.size) _).alloc (by have := B2.out.size; simp; omega) _) _ _
    ·rw [if_neg (fun h => hl h.1)] at hX;subst hX;have l1 : decide ((E : Int) < (s.size : Int)) = false := by simp; omega
     go_wp2_with (go_at_call 57; refine (qcl _ _ _).mono ?_; rintro e w' ⟨rfl, rfl⟩)
     go_ret3
     exact qlg ((B2.out.alloc (qcgs (qcgl _) B2.out.size) _).alloc (by have := B2.out.size; simp; omega) _) _ _
   rw [if_pos h11] at hX;have z2 : (f1 != 11) = true := by simpa using h11
   subst hX;(go_wp2_with fail);go_quiet (fail)
   (go_wp2_with fail);go_ret3
   exact qlg (((B2.out.alloc (qcgs (qcgl _) B2.out.size) _).alloc (by have := B2.out.size; simp; omega) _).trans (qbm _ _ _)) _ _
  ·rw [qmk hd] at C1;rw [qkt (by rw [hd]; decide)] at C0
   clear hd;go_enter Tryz.func120, Tryz.ntmps120
   (go_wp2_with fail);refine (C0.out _).mono ?_;rintro e w0 ⟨rfl, hw0⟩;(go_wp2_with fail);refine (C1.out _).mono ?_;rintro e w1' ⟨rfl, hw1'⟩;have hw1 := hw0.trans (hw1'.mono hw0.size);(go_wp2_with fail);refine (PE.out _).mono ?_;rintro e w' ⟨rfl, rfl⟩;(go_wp2_with fail);have hEI : ((a : Int) + min (k : Int) 48) = (E : Int) := by have := HE.out; omega
   rw [hEI, Int.toNat_natCast];clear hEI;refine (CP.out _ _).mono ?_;rintro e w2 ⟨hw2, v, rfl, hF, hCap⟩;rw [qbsm] at hF ⊢;obtain ⟨vp, vb, rfl, t1, t2, fr1, fr2⟩ := hF;obtain ⟨cp1, cp2⟩ := hCap _ _ _ _ _ rfl;obtain ⟨a1, c1, rfl, x1⟩ := id t1;obtain ⟨a2, c2, rfl, x2⟩ := id t2;have B2 := qb (hw1.trans (hw2.mono hw1.size));have FR := qb (qdn fr1 hw1.size);have T1 := qb t1;clear fr1 fr2 t1 t2 x1 x2 hCap hw2;generalize hfq : (fauP (preT s.data.toList a E)) = fq at *;obtain ⟨f1, f2⟩ := fq;generalize hsq : (semP (preT s.data.toList a E)) = sq at *;have hX := HX.out;clear hfq hsq HX;dsimp only at hX
   by_cases hz : f1 = 0
   ·rw [if_pos hz] at hX;subst hz hX;(go_wp2_with fail);go_ret3
    exact ⟨(B2.out.alloc (qcgs (qcgl _) B2.out.size) _).alloc (by have := B2.out.size; simp; omega) _, _, rfl, (T1.out.below ((Below.refl _ _).alloc (qcgl _) _)).below ((Below.refl _ _).alloc (qcgl _) _), FR.out, cp1, _, _, _, rfl⟩
   rw [if_neg hz] at hX;have z1 : (f1 == 0) = false := by simpa using hz
   by_cases h11 : f1 = 11
   ·rw [if_neg (fun h => h h11)] at hX;subst h11
    by_cases hl : E < s.size
    ·have hi : E - 1 < s.size := by omega
     rw [qdz s (E - 1) hi] at hX;have w1 : (0 : Int) ≤ (E : Int) - 1 := by omega
     have w2 : (E : Int) - 1 < (s.size : Int) := by omega
     have w3 : ((E : Int) - 1).toNat = E - 1 := by omega
     have l1 : decide ((E : Int) < (s.size : Int)) = true := by simp; omega
     cases hc : isC (s[E - 1].toNat : Int) 1
     ·rw [if_neg (by simp [hc])] at hX
      subst hX;go_wp2_with (first | (go_at_call 55; refine (qgz _ _ _).mono ?_; rintro e w' ⟨rfl, rfl⟩) | (go_at_call 57; refine (qcl _ _ _).mono ?_; rintro e w' ⟨rfl, rfl⟩))
      go_ret3
      exact qlg ((B2.out.alloc (qcgs (qcgl _) B2.out.size) _).alloc (by have := B2.out.size; simp; omega) _) _ _
     ·rw [if_pos ⟨hl, by simp [hc]⟩] at hX
      subst hX;go_wp2_with (first | (go_at_call 55; refine (qgz _ _ _).mono ?_; rintro e w' ⟨rfl, rfl⟩) | (go_at_call 57; refine (qcl _ _ _).mono ?_; rintro e w' ⟨rfl, rfl⟩))
      go_ret3
      exact qlg ((B2.out.alloc (qcgs (qcgl _) B2.out.size) _).alloc (by have := B2.out.size; simp; omega) _) _ _
    ·rw [if_neg (fun h => hl h.1)] at hX;subst hX;have l1 : decide ((E : Int) < (s.size : Int)) = false := by simp; omega
     go_wp2_with (go_at_call 57; refine (qcl _ _ _).mono ?_; rintro e w' ⟨rfl, rfl⟩)
     go_ret3
     exact qlg ((B2.out.alloc (qcgs (qcgl _) B2.out.size) _).alloc (by have := B2.out.size; simp; omega) _) _ _
   rw [if_pos h11] at hX;have z2 : (f1 != 11) = true := by simpa using h11
   subst hX;(go_wp2_with fail);go_quiet (fail)
   (go_wp2_with fail);go_ret3
   exact qlg (((B2.out.alloc (qcgs (qcgl _) B2.out.size) _).alloc (by have := B2.out.size; simp; omega) _).trans (qbm _ _ _)) _ _
 ·have hX : preR s.data.toList a = ([], (a : Int), 0) := if_neg hd;rw [hX];clear hX;rw [qkt (fun h => hd (.inl h))] at C0;rw [qkt (fun h => hd (.inr h))] at C1;clear hd PE CP;go_enter Tryz.func120, Tryz.ntmps120
  (go_wp2_with fail);refine (C0.out _).mono ?_;rintro e w1 ⟨rfl, hw1⟩;(go_wp2_with fail);refine (C1.out _).mono ?_;rintro e w2 ⟨rfl, hw2⟩;(go_wp2_with fail);go_ret3
  exact qlg (hw1.trans (hw2.mono hw1.size)) _ _
end Go.Proofs.YtpdlgiioahjhiaaGreat

namespace Go.Proofs.YtpdlgiioahjhiaaGreat
open Go.RowKit
open Go renaming World → QW, Value → QV
set_option linter.unusedVariables false
structure PartL where
 maj : QB
 min : QB
 pat : QB
 pre : List QB
 told : Nat
def qcz : PartL := ⟨[], [], [], [], 0⟩
def segT (l : QB) (qp : List (Nat × Nat)) (i : Nat) : QB := match qp[i]? with | some x => seg l x.1 x.2 | none => [48]
theorem segS_eq (s : QY) (qp : List (Nat × Nat)) (i : Nat) : segS s qp i = qg (segT s.data.toList qp i) := by
 unfold segS segT;split
 ·rename_i x h; rw [h]; exact qbx s x.1 x.2
 ·rename_i h; rw [h]; rfl
def endP (l : QB) (a : Nat) (p : PartL) (z r : Int) : PartL × Int × Int :=
 if 48 < z - a then (qcz, (a : Int) + 48, 12)
 else if r = 0 ∧ qcc l z.toNat = false ∧ (l[z.toNat]?.map fun c => isC (c.toNat : Int) 6) = some false then (qcz, z, 10)
 else (p, z, r)
def vL (l : QB) (a : Nat) : Nat := if l[a]? = some 118 then a + 1 else a
def rpL (l : QB) (a : Nat) : PartL × Int × Int :=
 match rnGo l 2 0 (vL l a) [] with
 | .error x => endP l a qcz (x.1 : Int) x.2
 | .ok x => if x.1.length = 3 then endP l a ⟨segT l x.1 0, segT l x.1 1, segT l x.1 2, (preR l x.2).1, 3⟩ (preR l x.2).2.1 (preR l x.2).2.2
   else endP l a ⟨segT l x.1 0, segT l x.1 1, segT l x.1 2, [], x.1.length⟩ (x.2 : Int) 0
def qjj (p : PartL) (v : QV) : QV := .agg #[.string (qg p.maj), .string (qg p.min), .string (qg p.pat), v, .slice none 0 0, .int .i64 (p.told : Int)]
def PartP (w : QW) (x : PartL × Int × Int) (e : Ending) (w' : QW) : Prop :=
 Below w.heap.size w w' ∧ ∃ v, e = .returned (.tuple #[qjj x.1 v, .int .i64 x.2.1, .int .i64 x.2.2]) ∧ Txt w' v x.1.pre ∧ qhm w.heap.size v ∧ Cap v ∧ ∃ a n c, v = .slice a n c
structure PB (w W : QW) (B : Nat) (x y z : QY) (p : QV) (t : Int) : Prop where
 res : W.heap[w.heap.size]? = some (.cells #[.string ⟨#[]⟩, .string ⟨#[]⟩, .string ⟨#[]⟩, .slice none 0 0, .slice none 0 0, .int .i64 0] 54 (0, 0))
 par : W.heap[B]? = some (.cells #[.string x, .string y, .string z, p, .slice none 0 0, .int .i64 t] 54 (0, 0))
 bel : Below w.heap.size w W
 big : w.heap.size < B
theorem PB.lt {w W : QW} {B : Nat} {x y z : QY} {p : QV} {t : Int} (h : PB w W B x y z p t) : B < W.heap.size := (Array.getElem?_eq_some_iff.1 h.par).1
theorem PB.below {w W W' : QW} {B : Nat} {x y z : QY} {p : QV} {t : Int} (h : PB w W B x y z p t) (hb : Below W.heap.size W W') : PB w W' B x y z p t :=
 ⟨(hb.block _ (by have := h.lt; have := h.big; omega)).trans h.res, (hb.block _ h.lt).trans h.par, h.bel.trans (hb.mono (by have := h.lt; have := h.big; omega)), h.big⟩
theorem PB.start {w W1 W2 : QW} (h1 : W1.heap[w.heap.size]? = some (.cells #[.string ⟨#[]⟩, .string ⟨#[]⟩, .string ⟨#[]⟩, .slice none 0 0, .slice none 0 0, .int .i64 0] 54 (0, 0))) (b1 : Below w.heap.size w W1) (b2 : Below W1.heap.size W1 W2) (x y z : QY) (p : QV) (t : Int) :
  PB w (W2.alloc (.cells #[.string x, .string y, .string z, p, .slice none 0 0, .int .i64 t] 54)) W2.heap.size x y z p t := by
 have hlt := (Array.getElem?_eq_some_iff.1 h1).1;have h2 := (b2.block _ hlt).trans h1;have l1 := (qbb.cons h2 (qbb.nil W2)).alloc (.cells #[.string x, .string y, .string z, p, .slice none 0 0, .int .i64 t] 54);exact ⟨l1.head, World.alloc_heap_new W2 _, (b1.trans (b2.mono b1.size)).alloc (Nat.le_trans b1.size b2.size) _, Nat.lt_of_lt_of_le hlt b2.size⟩
theorem PB.seen {w W : QW} {B : Nat} {x y z : QY} {p : QV} {t : Int} (h : PB w W B x y z p t) :
  W.cell? ⟨B, 0, none⟩ = some (.string x) ∧ W.cell? ⟨B, 1, none⟩ = some (.string y) ∧ W.cell? ⟨B, 2, none⟩ = some (.string z) ∧ W.cell? ⟨B, 3, none⟩ = some p ∧ W.cell? ⟨B, 4, none⟩ = some (.slice none 0 0) ∧ W.cell? ⟨B, 5, none⟩ = some (.int .i64 t) ∧ W.frozen? ⟨B, 3, none⟩ = false :=
 ⟨qd 0 h.par rfl, qd 1 h.par rfl, qd 2 h.par rfl, qd 3 h.par rfl, qd 4 h.par rfl, qd 5 h.par rfl, qf 3 h.par⟩
theorem PB.seenR {w W : QW} {B : Nat} {x y z : QY} {p : QV} {t : Int} (h : PB w W B x y z p t) :
  W.cell? ⟨w.heap.size, 0, none⟩ = some (.string ⟨#[]⟩) ∧ W.frozen? ⟨w.heap.size, 0, none⟩ = false ∧ W.frozen? ⟨w.heap.size, 1, none⟩ = false ∧ W.frozen? ⟨w.heap.size, 2, none⟩ = false ∧ W.frozen? ⟨w.heap.size, 3, none⟩ = false ∧ W.frozen? ⟨w.heap.size, 4, none⟩ = false ∧ W.frozen? ⟨w.heap.size, 5, none⟩ = false ∧
  W.cell? ⟨w.heap.size, 1, none⟩ = some (.string ⟨#[]⟩) ∧ W.cell? ⟨w.heap.size, 2, none⟩ = some (.string ⟨#[]⟩) ∧ W.cell? ⟨w.heap.size, 3, none⟩ = some (.slice none 0 0) ∧ W.cell? ⟨w.heap.size, 4, none⟩ = some (.slice none 0 0) ∧ W.cell? ⟨w.heap.size, 5, none⟩ = some (.int .i64 0) :=
 ⟨qd 0 h.res rfl, qf 0 h.res, qf 1 h.res, qf 2 h.res, qf 3 h.res, qf 4 h.res, qf 5 h.res, qd 1 h.res rfl, qd 2 h.res rfl, qd 3 h.res rfl, qd 4 h.res rfl, qd 5 h.res rfl⟩
theorem PB.put {w W : QW} {B : Nat} {x y z : QY} {p : QV} {t : Int} (u : QV) (h : PB w W B x y z p t) : PB w (W.setCell ⟨B, 3, none⟩ u) B x y z u t := by
 have h1 := qv 3 u h.par;have l1 := (qbb.cons h.res (qbb.nil W)).other B 3 u (by intro q hq; simp at hq; subst hq; have := h.big; exact fun e => by simp at e; omega)
 exact ⟨l1.head, h1, h.bel.setCell (Nat.le_of_lt h.big) _, h.big⟩
theorem qdv {W : QW} {v : QV} {ts : List QB} {n B : Nat} (h : Txt W v ts) (hf : qhm n v) (hB : B < n) (o : Nat) (u : QV) : Txt (W.setCell ⟨B, o, none⟩ u) v ts := by
 obtain ⟨a, cap, hv, h0 | ⟨b, off, ha, hlt, hc⟩⟩ := h
 ·exact ⟨a, cap, hv, .inl h0⟩
 ·have hn : n ≤ b := hf _ _ _ (by rw [hv, ha])
  refine ⟨a, cap, hv, .inr ⟨b, off, ha, Nat.lt_of_lt_of_le hlt (Below.refl 0 W |>.setCell (Nat.zero_le _) u).size, fun i hi => ?_⟩⟩;rw [← hc i hi];simp only [World.cell?];rw [Below.heap_setCell _ _ _ b (by simp only; omega)]
theorem qqz {R : Ending → QW → Prop} (tmps : Array QV) (W : QW) (B : Nat) (x y z : QY) (p : QV) (t e r : Int) (hp : ∃ a n c, p = .slice a n c)
  (h4 : tmps.getD 4 undef = .pointer (some ⟨B, 0, none⟩)) (h5 : tmps.getD 5 undef = .int .i64 e) (h6 : tmps.getD 6 undef = .int .i64 r)
  (e1 : W.heap[B]? = some (.cells #[.string x, .string y, .string z, p, .slice none 0 0, .int .i64 t] 54 (0, 0)))
  (hR : R (.returned (.tuple #[.agg #[.string x, .string y, .string z, p, .slice none 0 0, .int .i64 t], .int .i64 e, .int .i64 r])) W) :
  bodyPost Tryz.prog Tryz.f83 R .ret { tmps := tmps, defers := [] } W := by
 obtain ⟨pa, pn, pc, rfl⟩ := hp;have r0 := qd 0 e1 rfl;have r1 := qd 1 e1 rfl;have r2 := qd 2 e1 rfl;have r3 := qd 3 e1 rfl;have r4 := qd 4 e1 rfl;have r5 := qd 5 e1 rfl;rw [Array.getD_eq_getD_getElem?] at h4 h5 h6;refine ⟨rfl, _, ?_, hR⟩;simp [results, Tryz.results83, go_sem, h4, h5, h6, r0, r1, r2, r3, r4, r5]
 try rfl
theorem pre_ok {l : QB} {a : Nat} (ha : a ≤ l.length) (h : (preR l a).2.2 = 0) : ∃ e : Nat, (preR l a).2.1 = (e : Int) ∧ a ≤ e ∧ e ≤ l.length := by
 have hm : ∀ n b, misL n b ≠ 0 := fun n b => by unfold misL; split <;> decide
 have hp := qbcs (l.drop a);rw [List.length_drop] at hp;unfold preR at h ⊢;split at h
 ·rename_i hd;rw [if_pos hd];split at h
  ·rename_i hf;rw [if_pos hf];exact ⟨_, rfl, by omega, by omega⟩
  ·rename_i hf;rw [if_neg hf];split at h
   ·exact absurd h hf
   ·split at h
    ·cases h
    ·exact absurd h (hm _ _)
 ·rename_i hd;rw [if_neg hd];exact ⟨a, rfl, Nat.le_refl _, ha⟩
end Go.Proofs.YtpdlgiioahjhiaaGreat

namespace Go.Proofs.YtpdlgiioahjhiaaGreat
open Go.RowKit
open List renaming getElem?_eq_some_iff → qcgn
set_option linter.unusedVariables false
theorem qvk (k : Int) : ∀ l : QB, qz k l ≤ l.length
 | [] => Nat.le_refl _
 | c :: r => by
  unfold qz;split
  ·have := qvk k r; simp; omega
  ·simp
theorem num_e {l : QB} {a : Nat} (ha : a ≤ l.length) : (∀ x, numR l a = .error x → x.2 ≤ l.length) ∧ (∀ e, numR l a = .ok e → e ≤ l.length) := by
 have h := qvk 1 (l.drop a);rw [List.length_drop] at h;unfold numR;split
 ·exact ⟨fun x hx => by cases hx; exact ha, fun e he => by cases he⟩
 ·split
  ·exact ⟨fun x hx => by cases hx; simp only; omega, fun e he => by cases he⟩
  ·exact ⟨fun x hx => (by cases hx), fun e he => by cases he; omega⟩
theorem dot_e {l : QB} {a : Nat} (ha : a ≤ l.length) : (∀ x, dotR l a = .error x → x.2 ≤ l.length) ∧ (∀ e, dotR l a = .ok e → e ≤ l.length) := by
 unfold dotR;split
 ·rename_i h;have := (qcgn.1 h).1;exact ⟨fun x hx => (by cases hx), fun e he => by cases he; omega⟩
 ·exact ⟨fun x hx => by cases hx; exact ha, fun e he => by cases he⟩
theorem nums_e (l : QB) : (∀ x, qdp l = .error x → x.2 ≤ l.length) ∧ (∀ a b c d e, qdp l = .ok (a, b, c, d, e) → e ≤ l.length) := by
 unfold qdp;have n0 := num_e (l := l) (Nat.zero_le _);cases h0 : numR l 0 with
 | error x => exact ⟨fun y hy => by cases hy; exact n0.1 _ h0, fun _ _ _ _ _ h => by cases h⟩
 | ok a =>
  have d0 := dot_e (n0.2 _ h0);dsimp only;cases h1 : dotR l a with
  | error x => exact ⟨fun y hy => by cases hy; exact d0.1 _ h1, fun _ _ _ _ _ h => by cases h⟩
  | ok b =>
   have n1 := num_e (d0.2 _ h1);dsimp only;cases h2 : numR l b with
   | error x => exact ⟨fun y hy => by cases hy; exact n1.1 _ h2, fun _ _ _ _ _ h => by cases h⟩
   | ok c =>
    have d1 := dot_e (n1.2 _ h2);dsimp only;cases h3 : dotR l c with
    | error x => exact ⟨fun y hy => by cases hy; exact d1.1 _ h3, fun _ _ _ _ _ h => by cases h⟩
    | ok d =>
     have n2 := num_e (d1.2 _ h3);dsimp only;cases h4 : numR l d with
     | error x => exact ⟨fun y hy => by cases hy; exact n2.1 _ h4, fun _ _ _ _ _ h => by cases h⟩
     | ok e => exact ⟨fun y hy => (by cases hy), fun _ _ _ _ _ h => by cases h; exact n2.2 _ h4⟩
theorem qzn (p : Bool) (l : QB) : ∀ (xs : List (Nat × Nat)) (x : Int × Nat), qcj p l xs = some x → ∃ y ∈ xs, y.2 = x.2
 | [], x, h => by cases h
 | y :: r, x, h => by
  unfold qcj at h;split at h
  ·obtain ⟨z, hz, e⟩ := qzn p l r x h;exact ⟨z, List.mem_cons_of_mem _ hz, e⟩
  ·cases h; exact ⟨y, List.mem_cons_self, rfl⟩
theorem qbqc {z : Nat} {xs : List (Nat × Nat)} (h : xs ≠ []) : ∃ y ∈ xs, qcm z xs = y.2 := by
 unfold qcm;rw [List.getLast?_eq_some_getLast h];exact ⟨_, List.getLast_mem h, rfl⟩
theorem ids_le {p : Bool} {l : QB} {a : Nat} (ha : a ≤ l.length) : (∀ x, idsR p l a = .error x → x.2 ≤ l.length) ∧ (∀ y, idsR p l a = .ok y → y.2 ≤ l.length) := by
 have he := qhz l _ a rfl ha;unfold idsR;split
 ·rename_i x hx;obtain ⟨y, hy, e⟩ := qzn p l _ _ hx;exact ⟨fun z hz => by cases hz; rw [← e]; exact (he y hy).2.1, fun z hz => by cases hz⟩
 ·refine ⟨fun z hz => (by cases hz), fun z hz => ?_⟩
  cases hz;obtain ⟨y, hy, e⟩ := qbqc (z := a) (xs := qp l a) (by rw [qp]; exact List.cons_ne_nil _ _)
  show qcm a (qp l a) ≤ _;rw [e]; exact (he y hy).2.1
theorem qbnt {l : QB} {p : Nat} {pre : List (Nat × Nat)} (hp : p ≤ l.length) : ∀ x, qcb l p pre = .error x → x.2 ≤ l.length := by
 intro x hx;unfold qcb at hx;split at hx
 ·rename_i h;have := (qcgn.1 h).1;have hi := ids_le (p := false) (l := l) (a := p + 1) (by omega)
  cases h1 : idsR false l (p + 1) with
  | error y => rw [h1] at hx; cases hx; exact hi.1 _ h1
  | ok y =>
   rw [h1] at hx;obtain ⟨b, q⟩ := y;dsimp only at hx;split at hx
   ·cases hx; exact hi.2 _ h1
   ·cases hx
 ·split at hx
  ·cases hx; exact hp
  ·cases hx
theorem qbzv {l : QB} {e : Nat} (he : e ≤ l.length) : ∀ x, qdg l e = .error x → x.2 ≤ l.length := by
 intro x hx;unfold qdg at hx;split at hx
 ·rename_i h;have := (qcgn.1 h).1;have hi := ids_le (p := true) (l := l) (a := e + 1) (by omega)
  cases h1 : idsR true l (e + 1) with
  | error y => rw [h1] at hx; cases hx; exact hi.1 _ h1
  | ok y =>
   rw [h1] at hx;obtain ⟨b, q⟩ := y;exact qbnt (hi.2 _ h1) x hx
 ·exact qbnt he x hx
theorem fau_le (l : QB) : (fauP l).2 ≤ l.length := by
 unfold fauP;split
 ·exact Nat.zero_le _
 ·rename_i y hy;unfold qbf at hy;split at hy
  ·cases hy; simp only; omega
  ·cases h : qdp l with
   | error x => rw [h] at hy; cases hy; exact (nums_e l).1 _ h
   | ok x =>
    rw [h] at hy;obtain ⟨a, b, c, d, e⟩ := x;dsimp only at hy;cases ht : qdg l e with
    | error z => rw [ht] at hy; cases hy; exact qbzv ((nums_e l).2 _ _ _ _ _ h) _ ht
    | ok z => rw [ht] at hy; obtain ⟨p, q⟩ := z; cases hy
theorem np_le {l : QB} {a : Nat} (ha : a ≤ l.length) : (npL l a).1 ≤ l.length := by
 have h := qvk 1 (l.drop a);rw [List.length_drop] at h;unfold npL;split
 ·rename_i h;have : a < l.length := by
   rcases Nat.lt_or_ge a l.length with h' | h'
   ·exact h'
   ·rw [List.getElem?_eq_none h'] at h; simp at h
  exact this
 ·split
  ·exact ha
  ·split
   ·simp only; omega
   ·simp only; omega
theorem qbmn {sg : List (Nat × Nat)} {i : Nat} (h : sg.length ≤ i) (o : Bool) (a e : Nat) : (addS sg i o a e).length ≤ i + 1 := by
 unfold addS;split
 ·simp; omega
 ·omega
theorem qbfj {l : QB} : ∀ (k i a : Nat) (sg : List (Nat × Nat)), a ≤ l.length → sg.length ≤ i → (∀ x, rnGo l k i a sg = .error x → x.1 ≤ l.length) ∧ (∀ x, rnGo l k i a sg = .ok x → x.2 ≤ l.length ∧ x.1.length ≤ i + k + 1)
 | 0, i, a, sg, ha, hs => by
  have h := np_le ha;unfold rnGo;split
  ·exact ⟨fun x hx => by cases hx; exact h, fun x hx => by cases hx⟩
  ·exact ⟨fun x hx => (by cases hx), fun x hx => by cases hx; exact ⟨h, qbmn hs _ _ _⟩⟩
 | k + 1, i, a, sg, ha, hs => by
  have h := np_le ha;unfold rnGo;split
  ·exact ⟨fun x hx => by cases hx; exact h, fun x hx => by cases hx⟩
  ·split
   ·rename_i hd;have hlt := (qcgn.1 hd).1;have := qbfj (l := l) k (i + 1) ((npL l a).1 + 1) (addS sg i (npL l a).2.1 a (npL l a).1) (by omega) (qbmn hs _ _ _)
    exact ⟨this.1, fun x hx => ⟨(this.2 x hx).1, by have := (this.2 x hx).2; omega⟩⟩
   ·exact ⟨fun x hx => (by cases hx), fun x hx => by cases hx; exact ⟨h, by have := qbmn hs (npL l a).2.1 a (npL l a).1; simp only; omega⟩⟩
theorem rn_ne {l : QB} : ∀ (k i a : Nat) (sg : List (Nat × Nat)) (x : Nat × Int), rnGo l k i a sg = .error x → x.2 ≠ 0
 | 0, i, a, sg, x, h => by
  unfold rnGo at h;split at h
  ·rename_i hr; cases h; exact hr
  ·cases h
 | k + 1, i, a, sg, x, h => by
  unfold rnGo at h;split at h
  ·rename_i hr; cases h; exact hr
  ·split at h
   ·exact rn_ne (l := l) k _ _ _ x h
   ·cases h
theorem txt6 {W : World} {v : Value} {ts : List QB} {n B : Nat} (h : Txt W v ts) (hf : qhm n v) (hB : B < n) (v0 v1 v2 v3 v4 v5 : Value) :
  Txt ((((((W.setCell ⟨B, 0, none⟩ v0).setCell ⟨B, 1, none⟩ v1).setCell ⟨B, 2, none⟩ v2).setCell ⟨B, 3, none⟩ v3).setCell ⟨B, 4, none⟩ v4).setCell ⟨B, 5, none⟩ v5) v ts :=
 qdv (qdv (qdv (qdv (qdv (qdv h hf hB _ _) hf hB _ _) hf hB _ _) hf hB _ _) hf hB _ _) hf hB _ _
theorem pre_le {l : QB} {a : Nat} (ha : a ≤ l.length) (hl : l.length ≤ 256) : -5 ≤ (preR l a).2.1 ∧ (preR l a).2.1 ≤ 600 := by
 have hp := qbcs (l.drop a);rw [List.length_drop] at hp;have hf := fau_le (preT l a (min (a + prL (l.drop a)) (a + 48)));have ht : (preT l a (min (a + prL (l.drop a)) (a + 48))).length ≤ 261 := by
  unfold preT seg;simp;omega
 unfold preR;split
 ·split
  ·simp only; omega
  ·split
   ·simp only [wrap64]; omega
   ·split <;> (simp only; omega)
 ·simp only; omega
end Go.Proofs.YtpdlgiioahjhiaaGreat
