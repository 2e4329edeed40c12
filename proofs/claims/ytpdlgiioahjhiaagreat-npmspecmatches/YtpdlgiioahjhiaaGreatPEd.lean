/- Walks: the numbers of a partial. -/
import Derived.Test.YtpdlgiioahjhiaaGreatPEc
namespace Go.Proofs.YtpdlgiioahjhiaaGreat
open Go.RowKit
open Nat renaming lt_or_ge → qcfc
set_option linter.unusedVariables false
set_option maxHeartbeats 16000000
set_option maxRecDepth 100000
def addS (qp : List (Nat × Nat)) (i : Nat) (o : Bool) (a e : Nat) : List (Nat × Nat) := if !o && qp.length == i then qp ++ [(a, e)] else qp
def rnGo (l : QB) : Nat → Nat → Nat → List (Nat × Nat) → Except (Nat × Int) (List (Nat × Nat) × Nat)
 | 0, i, a, qp => if (npL l a).2.2 ≠ 0 then .error ((npL l a).1, (npL l a).2.2) else .ok (addS qp i (npL l a).2.1 a (npL l a).1, (npL l a).1)
 | k + 1, i, a, qp => if (npL l a).2.2 ≠ 0 then .error ((npL l a).1, (npL l a).2.2)
   else if l[(npL l a).1]? = some 46 then rnGo l k (i + 1) ((npL l a).1 + 1) (addS qp i (npL l a).2.1 a (npL l a).1) else .ok (addS qp i (npL l a).2.1 a (npL l a).1, (npL l a).1)
theorem qrl {l : QB} {a e : Nat} {o : Bool} {r : Int} (h : npL l a = (e, o, r)) (hr : r ≠ 0) (k i : Nat) (qp : List (Nat × Nat)) : rnGo l k i a qp = .error (e, r) := by
 cases k <;> (unfold rnGo; rw [h, if_pos hr])
theorem qmx {l : QB} {a e : Nat} {o : Bool} (h : npL l a = (e, o, 0)) (i : Nat) (qp : List (Nat × Nat)) : rnGo l 0 i a qp = .ok (addS qp i o a e, e) := by
 unfold rnGo; rw [h, if_neg (by simp)]
theorem qsc {l : QB} {a e : Nat} {o : Bool} (h : npL l a = (e, o, 0)) (hd : ¬ l[e]? = some 46) (k i : Nat) (qp : List (Nat × Nat)) : rnGo l (k + 1) i a qp = .ok (addS qp i o a e, e) := by
 unfold rnGo; rw [h, if_neg (by simp), if_neg hd]
theorem qfm {l : QB} {a e : Nat} {o : Bool} (h : npL l a = (e, o, 0)) (hd : l[e]? = some 46) (k i : Nat) (qp : List (Nat × Nat)) : rnGo l (k + 1) i a qp = rnGo l k (i + 1) (e + 1) (addS qp i o a e) := by
 rw [rnGo, h, if_neg (by simp), if_pos hd]
theorem np_cases (s : QY) (a : Nat) (ha : a ≤ s.size) : (∃ e o r, npL s.data.toList a = (e, o, r) ∧ r ≠ 0) ∨ (∃ e o, npL s.data.toList a = (e, o, 0) ∧ a < e ∧ e ≤ s.size) := by
 unfold npL;rw [qh];have hm : misL s.size a ≠ 0 := by unfold misL; split <;> decide
 have hle := qjn 1 s a ha;split
 ·rename_i h;have hlt : a < s.size := by
   rcases qcfc a s.size with h' | h'
   ·exact h'
   ·rw [qft s a (by omega)] at h; simp at h
  exact .inr ⟨_, _, rfl, by omega, by omega⟩
 ·split
  ·exact .inl ⟨_, _, _, rfl, hm⟩
  ·split
   ·exact .inl ⟨_, _, _, rfl, by decide⟩
   ·exact .inr ⟨_, _, rfl, by omega, hle⟩
def segS (s : QY) (qp : List (Nat × Nat)) (i : Nat) : QY := match qp[i]? with | some x => s.extract x.1 x.2 | none => ⟨#[48]⟩
def qbzn (x y z : QY) (p : Value) (t : Nat) : Value := .agg #[.string x, .string y, .string z, p, .slice none 0 0, .int .i64 (t : Int)]
def partZ : Value := qbzn ⟨#[]⟩ ⟨#[]⟩ ⟨#[]⟩ (.slice none 0 0) 0
def rnV (s : QY) : Except (Nat × Int) (List (Nat × Nat) × Nat) → Value
 | .error x => .tuple #[partZ, .int .i64 (x.1 : Int), .int .i64 x.2]
 | .ok x => .tuple #[qbzn (segS s x.1 0) (segS s x.1 1) (segS s x.1 2) (.slice none 0 0) x.1.length, .int .i64 (x.2 : Int), .int .i64 0]
theorem put6 {W : World} {B : Nat} {t : TypeId} {u0 u1 u2 u3 u4 u5 : Value} (v0 v1 v2 v3 v4 v5 : Value) (h : W.heap[B]? = some (.cells #[u0, u1, u2, u3, u4, u5] t (0, 0))) :
  ((((((W.setCell ⟨B, 0, none⟩ v0).setCell ⟨B, 1, none⟩ v1).setCell ⟨B, 2, none⟩ v2).setCell ⟨B, 3, none⟩ v3).setCell ⟨B, 4, none⟩ v4).setCell ⟨B, 5, none⟩ v5).heap[B]? = some (.cells #[v0, v1, v2, v3, v4, v5] t (0, 0)) :=
 qv 5 v5 (qv 4 v4 (qv 3 v3 (qv 2 v2 (qv 1 v1 (qv 0 v0 h)))))
theorem qck {w W : World} (h : Below w.heap.size w W) (v0 v1 v2 v3 v4 v5 : Value) :
  Below w.heap.size w ((((((W.setCell ⟨w.heap.size, 0, none⟩ v0).setCell ⟨w.heap.size, 1, none⟩ v1).setCell ⟨w.heap.size, 2, none⟩ v2).setCell ⟨w.heap.size, 3, none⟩ v3).setCell ⟨w.heap.size, 4, none⟩ v4).setCell ⟨w.heap.size, 5, none⟩ v5) :=
 (((((h.setCell (Nat.le_refl _) _).setCell (Nat.le_refl _) _).setCell (Nat.le_refl _) _).setCell (Nat.le_refl _) _).setCell (Nat.le_refl _) _).setCell (Nat.le_refl _) _
theorem qfr {R : Ending → World → Prop} (tmps : Array Value) (W : World) (B : Nat) (x y z : QY) (p : Value) (t e r : Int) (hp : ∃ a n c, p = .slice a n c)
  (h4 : tmps.getD 4 undef = .pointer (some ⟨B, 0, none⟩)) (h5 : tmps.getD 5 undef = .int .i64 e) (h6 : tmps.getD 6 undef = .int .i64 r)
  (e1 : W.heap[B]? = some (.cells #[.string x, .string y, .string z, p, .slice none 0 0, .int .i64 t] 54 (0, 0)))
  (hR : R (.returned (.tuple #[.agg #[.string x, .string y, .string z, p, .slice none 0 0, .int .i64 t], .int .i64 e, .int .i64 r])) W) :
  bodyPost Tryz.prog Tryz.f119 R .ret { tmps := tmps, defers := [] } W := by
 obtain ⟨pa, pn, pc, rfl⟩ := hp;have r0 := qd 0 e1 rfl;have r1 := qd 1 e1 rfl;have r2 := qd 2 e1 rfl;have r3 := qd 3 e1 rfl;have r4 := qd 4 e1 rfl;have r5 := qd 5 e1 rfl;rw [Array.getD_eq_getD_getElem?] at h4 h5 h6;refine ⟨rfl, _, ?_, hR⟩;simp [results, Tryz.results119, go_sem, h4, h5, h6, r0, r1, r2, r3, r4, r5]
 try rfl
theorem qxx (s : QY) (a : Nat) (w : World) (hs : s.size ≤ 256) (ha : a ≤ s.size) :
  Calls Tryz.prog 119 #[.string s, .int .i64 (a : Int)] w fun e w' => e = .returned (rnV s (rnGo s.data.toList 2 0 a [])) ∧ Below w.heap.size w w' := by
 have C0 := qb (fun (a : Nat) W => qlr s a 46 W hs);have NC := qb (fun (a : Nat) (z : Int) W (hz : z = (a : Int)) (ha : a ≤ s.size) => (by rw [hz]; exact qbfp s a W hs ha : Calls Tryz.prog 146 #[.string s, .int .i64 z] W fun e w' => e = .returned (npV (npL s.data.toList a)) ∧ w' = W))
 have ND := qb (np_cases s);generalize hX : rnGo s.data.toList 2 0 a [] = X at *;have HX := qb hX;clear hX;have B0 := NB.start w;go_enter Tryz.func119, Tryz.ntmps119
 (go_wp2_with fail);refine wp_loop_rounds 4 ?_;generalize ((w.alloc _).alloc _).alloc _ = W at *;have B0 := qb B0;obtain ⟨q0, q1, q2, q3, q4, q5, q6, q7⟩ := B0.out.seen;obtain ⟨r1, f1, f2, f3, f4, f5, f6, r2, r3, r4, r5, r6⟩ := B0.out.seenR;obtain ⟨p1, p2, p3, p4, p5⟩ := B0.out.seenP;rw [rounds_succ];(go_wp2_with fail);refine (NC.out a _ _ rfl ha).mono ?_;rintro e' w' ⟨rfl, hw'⟩;rw [hw'];clear hw' w';rcases ND.out a ha with ⟨e0, o0, r, hn, hr⟩ | ⟨e0, o0, hn, he0, hl0⟩
 ·rw [hn];unfold npV;have hx := bne_iff_ne.2 hr;have hn0 := qb hn;have hr0 := qb hr;clear hn hr;(go_wp2_with fail);have hX := HX.out;rw [qrl hn0.out hr0.out] at hX;subst hX;exact qfr _ _ w.heap.size _ _ _ _ _ _ _ ⟨_, _, _, rfl⟩ rfl rfl rfl (put6 _ _ _ _ _ _ B0.out.res) ⟨rfl, qck B0.out.bel _ _ _ _ _ _⟩
 rw [hn];unfold npV;have hn0 := qb hn;clear hn;cases o0
 ·have hA0 : (0 : Int) ≤ (a : Int) := by omega
  have hB0 : (a : Int) ≤ (e0 : Int) := by omega
  have hC0 : (e0 : Int) ≤ (s.size : Int) := by omega
  (go_wp2_with fail);have d0 := qb (B0.out.put0 (u := s.extract a e0) 1);clear q0 q1 q2 q3 q4 q5 q6 q7 r1 f1 f2 f3 f4 f5 f6 r2 r3 r4 r5 r6 p1 p2 p3 p4 p5;generalize hW : (World.setCell _ ⟨w.heap.size + 1, 0, none⟩ _).setCell ⟨w.heap.size + 1, 5, none⟩ _ = V0 at *;clear hW;obtain ⟨q0, q1, q2, q3, q4, q5, q6, q7⟩ := d0.out.seen;obtain ⟨r1, f1, f2, f3, f4, f5, f6, r2, r3, r4, r5, r6⟩ := d0.out.seenR;obtain ⟨p1, p2, p3, p4, p5⟩ := d0.out.seenP;rw [rounds_succ];(go_wp2_with fail);refine (C0.out e0 _).mono ?_;rintro e' W1 ⟨rfl, hb1⟩;have c1 := qb (d0.out.below hb1);clear hb1;clear q0 q1 q2 q3 q4 q5 q6 q7 r1 f1 f2 f3 f4 f5 f6 r2 r3 r4 r5 r6 p1 p2 p3 p4 p5;obtain ⟨q0, q1, q2, q3, q4, q5, q6, q7⟩ := c1.out.seen;obtain ⟨r1, f1, f2, f3, f4, f5, f6, r2, r3, r4, r5, r6⟩ := c1.out.seenR;obtain ⟨p1, p2, p3, p4, p5⟩ := c1.out.seenP
  by_cases hd : s.data.toList[e0]? = some 46
  rotate_left
  ·rw [qkt hd];have hd0 := qb hd;clear hd;(go_wp2_with fail);have hX := HX.out;rw [qsc hn0.out hd0.out] at hX;subst hX;exact qfr _ _ w.heap.size _ _ _ _ _ _ _ ⟨_, _, _, rfl⟩ rfl rfl rfl (put6 _ _ _ _ _ _ c1.out.res) ⟨rfl, qck c1.out.bel _ _ _ _ _ _⟩
  rw [qmk hd];have hq := eqE (oneB 46) (by decide)
  have hp1 : e0 + 1 ≤ s.size := by
   rcases qcfc e0 s.size with h | h
   ·exact h
   ·rw [qft s e0 (by omega)] at hd; cases hd
  have hd0 := qb hd;clear hd;(go_wp2_with fail);refine (NC.out (e0 + 1) _ _ (by simp) hp1).mono ?_
  rintro e' w' ⟨rfl, hw'⟩;rw [hw'];clear hw' w';rcases ND.out (e0 + 1) hp1 with ⟨e1, o1, r, hn, hr⟩ | ⟨e1, o1, hn, he1, hl1⟩
  ·rw [hn];unfold npV;have hx := bne_iff_ne.2 hr;have hn1 := qb hn;have hr1 := qb hr;clear hn hr;(go_wp2_with fail);have hX := HX.out;rw [qfm hn0.out hd0.out, qrl hn1.out hr1.out] at hX;subst hX;exact qfr _ _ w.heap.size _ _ _ _ _ _ _ ⟨_, _, _, rfl⟩ rfl rfl rfl (put6 _ _ _ _ _ _ c1.out.res) ⟨rfl, qck c1.out.bel _ _ _ _ _ _⟩
  rw [hn];unfold npV;have hn1 := qb hn;clear hn;cases o1
  ·have hA1 : (0 : Int) ≤ ((e0 : Int) + 1) := by omega
   have hB1 : ((e0 : Int) + 1) ≤ (e1 : Int) := by omega
   have hC1 : (e1 : Int) ≤ (s.size : Int) := by omega
   (go_wp2_with fail);have d1 := qb (c1.out.put1 (u := s.extract (e0 + 1) e1) 2);clear q0 q1 q2 q3 q4 q5 q6 q7 r1 f1 f2 f3 f4 f5 f6 r2 r3 r4 r5 r6 p1 p2 p3 p4 p5;generalize hW : (World.setCell _ ⟨w.heap.size + 1, 1, none⟩ _).setCell ⟨w.heap.size + 1, 5, none⟩ _ = V1 at *;clear hW;obtain ⟨q0, q1, q2, q3, q4, q5, q6, q7⟩ := d1.out.seen;obtain ⟨r1, f1, f2, f3, f4, f5, f6, r2, r3, r4, r5, r6⟩ := d1.out.seenR;obtain ⟨p1, p2, p3, p4, p5⟩ := d1.out.seenP;rw [rounds_succ];(go_wp2_with fail);refine (C0.out e1 _).mono ?_;rintro e' W2 ⟨rfl, hb2⟩;have c2 := qb (d1.out.below hb2);clear hb2;clear q0 q1 q2 q3 q4 q5 q6 q7 r1 f1 f2 f3 f4 f5 f6 r2 r3 r4 r5 r6 p1 p2 p3 p4 p5;obtain ⟨q0, q1, q2, q3, q4, q5, q6, q7⟩ := c2.out.seen;obtain ⟨r1, f1, f2, f3, f4, f5, f6, r2, r3, r4, r5, r6⟩ := c2.out.seenR;obtain ⟨p1, p2, p3, p4, p5⟩ := c2.out.seenP
   by_cases hd : s.data.toList[e1]? = some 46
   rotate_left
   ·rw [qkt hd];have hd1 := qb hd;clear hd;(go_wp2_with fail);have hX := HX.out;rw [qfm hn0.out hd0.out, qsc hn1.out hd1.out] at hX;subst hX;exact qfr _ _ w.heap.size _ _ _ _ _ _ _ ⟨_, _, _, rfl⟩ rfl rfl rfl (put6 _ _ _ _ _ _ c2.out.res) ⟨rfl, qck c2.out.bel _ _ _ _ _ _⟩
   rw [qmk hd];have hq := eqE (oneB 46) (by decide)
   have hp2 : e1 + 1 ≤ s.size := by
    rcases qcfc e1 s.size with h | h
    ·exact h
    ·rw [qft s e1 (by omega)] at hd; cases hd
   have hd1 := qb hd;clear hd;(go_wp2_with fail);refine (NC.out (e1 + 1) _ _ (by simp) hp2).mono ?_
   rintro e' w' ⟨rfl, hw'⟩;rw [hw'];clear hw' w';rcases ND.out (e1 + 1) hp2 with ⟨e2, o2, r, hn, hr⟩ | ⟨e2, o2, hn, he2, hl2⟩
   ·rw [hn];unfold npV;have hx := bne_iff_ne.2 hr;have hn2 := qb hn;have hr2 := qb hr;clear hn hr;(go_wp2_with fail);have hX := HX.out;rw [qfm hn0.out hd0.out, qfm hn1.out hd1.out, qrl hn2.out hr2.out] at hX;subst hX;exact qfr _ _ w.heap.size _ _ _ _ _ _ _ ⟨_, _, _, rfl⟩ rfl rfl rfl (put6 _ _ _ _ _ _ c2.out.res) ⟨rfl, qck c2.out.bel _ _ _ _ _ _⟩
   rw [hn];unfold npV;have hn2 := qb hn;clear hn;cases o2
   ·have hA2 : (0 : Int) ≤ ((e1 : Int) + 1) := by omega
    have hB2 : ((e1 : Int) + 1) ≤ (e2 : Int) := by omega
    have hC2 : (e2 : Int) ≤ (s.size : Int) := by omega
    (go_wp2_with fail);have d2 := qb (c2.out.put2 (u := s.extract (e1 + 1) e2) 3);clear q0 q1 q2 q3 q4 q5 q6 q7 r1 f1 f2 f3 f4 f5 f6 r2 r3 r4 r5 r6 p1 p2 p3 p4 p5;generalize hW : (World.setCell _ ⟨w.heap.size + 1, 2, none⟩ _).setCell ⟨w.heap.size + 1, 5, none⟩ _ = V2 at *;clear hW;obtain ⟨q0, q1, q2, q3, q4, q5, q6, q7⟩ := d2.out.seen;obtain ⟨r1, f1, f2, f3, f4, f5, f6, r2, r3, r4, r5, r6⟩ := d2.out.seenR;obtain ⟨p1, p2, p3, p4, p5⟩ := d2.out.seenP;rw [rounds_succ];(go_wp2_with fail);have hX := HX.out;rw [qfm hn0.out hd0.out, qfm hn1.out hd1.out, qmx hn2.out] at hX;subst hX;exact qfr _ _ w.heap.size _ _ _ _ _ _ _ ⟨_, _, _, rfl⟩ rfl rfl rfl (put6 _ _ _ _ _ _ d2.out.res) ⟨rfl, qck d2.out.bel _ _ _ _ _ _⟩
   ·(go_wp2_with fail);rw [rounds_succ];(go_wp2_with fail);have hX := HX.out;rw [qfm hn0.out hd0.out, qfm hn1.out hd1.out, qmx hn2.out] at hX;subst hX;exact qfr _ _ w.heap.size _ _ _ _ _ _ _ ⟨_, _, _, rfl⟩ rfl rfl rfl (put6 _ _ _ _ _ _ c2.out.res) ⟨rfl, qck c2.out.bel _ _ _ _ _ _⟩
  ·(go_wp2_with fail);rw [rounds_succ];(go_wp2_with fail);refine (C0.out e1 _).mono ?_;rintro e' W2 ⟨rfl, hb2⟩;have c2 := qb (c1.out.below hb2);clear hb2;clear q0 q1 q2 q3 q4 q5 q6 q7 r1 f1 f2 f3 f4 f5 f6 r2 r3 r4 r5 r6 p1 p2 p3 p4 p5;obtain ⟨q0, q1, q2, q3, q4, q5, q6, q7⟩ := c2.out.seen;obtain ⟨r1, f1, f2, f3, f4, f5, f6, r2, r3, r4, r5, r6⟩ := c2.out.seenR;obtain ⟨p1, p2, p3, p4, p5⟩ := c2.out.seenP
   by_cases hd : s.data.toList[e1]? = some 46
   rotate_left
   ·rw [qkt hd];have hd1 := qb hd;clear hd;(go_wp2_with fail);have hX := HX.out;rw [qfm hn0.out hd0.out, qsc hn1.out hd1.out] at hX;subst hX;exact qfr _ _ w.heap.size _ _ _ _ _ _ _ ⟨_, _, _, rfl⟩ rfl rfl rfl (put6 _ _ _ _ _ _ c2.out.res) ⟨rfl, qck c2.out.bel _ _ _ _ _ _⟩
   rw [qmk hd];have hq := eqE (oneB 46) (by decide)
   have hp2 : e1 + 1 ≤ s.size := by
    rcases qcfc e1 s.size with h | h
    ·exact h
    ·rw [qft s e1 (by omega)] at hd; cases hd
   have hd1 := qb hd;clear hd;(go_wp2_with fail);refine (NC.out (e1 + 1) _ _ (by simp) hp2).mono ?_
   rintro e' w' ⟨rfl, hw'⟩;rw [hw'];clear hw' w';rcases ND.out (e1 + 1) hp2 with ⟨e2, o2, r, hn, hr⟩ | ⟨e2, o2, hn, he2, hl2⟩
   ·rw [hn];unfold npV;have hx := bne_iff_ne.2 hr;have hn2 := qb hn;have hr2 := qb hr;clear hn hr;(go_wp2_with fail);have hX := HX.out;rw [qfm hn0.out hd0.out, qfm hn1.out hd1.out, qrl hn2.out hr2.out] at hX;subst hX;exact qfr _ _ w.heap.size _ _ _ _ _ _ _ ⟨_, _, _, rfl⟩ rfl rfl rfl (put6 _ _ _ _ _ _ c2.out.res) ⟨rfl, qck c2.out.bel _ _ _ _ _ _⟩
   rw [hn];unfold npV;have hn2 := qb hn;clear hn;cases o2
   ·have hA2 : (0 : Int) ≤ ((e1 : Int) + 1) := by omega
    have hB2 : ((e1 : Int) + 1) ≤ (e2 : Int) := by omega
    have hC2 : (e2 : Int) ≤ (s.size : Int) := by omega
    (go_wp2_with fail);rw [rounds_succ];(go_wp2_with fail);have hX := HX.out;rw [qfm hn0.out hd0.out, qfm hn1.out hd1.out, qmx hn2.out] at hX;subst hX;exact qfr _ _ w.heap.size _ _ _ _ _ _ _ ⟨_, _, _, rfl⟩ rfl rfl rfl (put6 _ _ _ _ _ _ c2.out.res) ⟨rfl, qck c2.out.bel _ _ _ _ _ _⟩
   ·(go_wp2_with fail);rw [rounds_succ];(go_wp2_with fail);have hX := HX.out;rw [qfm hn0.out hd0.out, qfm hn1.out hd1.out, qmx hn2.out] at hX;subst hX;exact qfr _ _ w.heap.size _ _ _ _ _ _ _ ⟨_, _, _, rfl⟩ rfl rfl rfl (put6 _ _ _ _ _ _ c2.out.res) ⟨rfl, qck c2.out.bel _ _ _ _ _ _⟩
 ·(go_wp2_with fail);rw [rounds_succ];(go_wp2_with fail);refine (C0.out e0 _).mono ?_;rintro e' W1 ⟨rfl, hb1⟩;have c1 := qb (B0.out.below hb1);clear hb1;clear q0 q1 q2 q3 q4 q5 q6 q7 r1 f1 f2 f3 f4 f5 f6 r2 r3 r4 r5 r6 p1 p2 p3 p4 p5;obtain ⟨q0, q1, q2, q3, q4, q5, q6, q7⟩ := c1.out.seen;obtain ⟨r1, f1, f2, f3, f4, f5, f6, r2, r3, r4, r5, r6⟩ := c1.out.seenR;obtain ⟨p1, p2, p3, p4, p5⟩ := c1.out.seenP
  by_cases hd : s.data.toList[e0]? = some 46
  rotate_left
  ·rw [qkt hd];have hd0 := qb hd;clear hd;(go_wp2_with fail);have hX := HX.out;rw [qsc hn0.out hd0.out] at hX;subst hX;exact qfr _ _ w.heap.size _ _ _ _ _ _ _ ⟨_, _, _, rfl⟩ rfl rfl rfl (put6 _ _ _ _ _ _ c1.out.res) ⟨rfl, qck c1.out.bel _ _ _ _ _ _⟩
  rw [qmk hd];have hq := eqE (oneB 46) (by decide)
  have hp1 : e0 + 1 ≤ s.size := by
   rcases qcfc e0 s.size with h | h
   ·exact h
   ·rw [qft s e0 (by omega)] at hd; cases hd
  have hd0 := qb hd;clear hd;(go_wp2_with fail);refine (NC.out (e0 + 1) _ _ (by simp) hp1).mono ?_
  rintro e' w' ⟨rfl, hw'⟩;rw [hw'];clear hw' w';rcases ND.out (e0 + 1) hp1 with ⟨e1, o1, r, hn, hr⟩ | ⟨e1, o1, hn, he1, hl1⟩
  ·rw [hn];unfold npV;have hx := bne_iff_ne.2 hr;have hn1 := qb hn;have hr1 := qb hr;clear hn hr;(go_wp2_with fail);have hX := HX.out;rw [qfm hn0.out hd0.out, qrl hn1.out hr1.out] at hX;subst hX;exact qfr _ _ w.heap.size _ _ _ _ _ _ _ ⟨_, _, _, rfl⟩ rfl rfl rfl (put6 _ _ _ _ _ _ c1.out.res) ⟨rfl, qck c1.out.bel _ _ _ _ _ _⟩
  rw [hn];unfold npV;have hn1 := qb hn;clear hn;cases o1
  ·have hA1 : (0 : Int) ≤ ((e0 : Int) + 1) := by omega
   have hB1 : ((e0 : Int) + 1) ≤ (e1 : Int) := by omega
   have hC1 : (e1 : Int) ≤ (s.size : Int) := by omega
   (go_wp2_with fail);rw [rounds_succ];(go_wp2_with fail);refine (C0.out e1 _).mono ?_;rintro e' W2 ⟨rfl, hb2⟩;have c2 := qb (c1.out.below hb2);clear hb2;clear q0 q1 q2 q3 q4 q5 q6 q7 r1 f1 f2 f3 f4 f5 f6 r2 r3 r4 r5 r6 p1 p2 p3 p4 p5;obtain ⟨q0, q1, q2, q3, q4, q5, q6, q7⟩ := c2.out.seen;obtain ⟨r1, f1, f2, f3, f4, f5, f6, r2, r3, r4, r5, r6⟩ := c2.out.seenR;obtain ⟨p1, p2, p3, p4, p5⟩ := c2.out.seenP
   by_cases hd : s.data.toList[e1]? = some 46
   rotate_left
   ·rw [qkt hd];have hd1 := qb hd;clear hd;(go_wp2_with fail);have hX := HX.out;rw [qfm hn0.out hd0.out, qsc hn1.out hd1.out] at hX;subst hX;exact qfr _ _ w.heap.size _ _ _ _ _ _ _ ⟨_, _, _, rfl⟩ rfl rfl rfl (put6 _ _ _ _ _ _ c2.out.res) ⟨rfl, qck c2.out.bel _ _ _ _ _ _⟩
   rw [qmk hd];have hq := eqE (oneB 46) (by decide)
   have hp2 : e1 + 1 ≤ s.size := by
    rcases qcfc e1 s.size with h | h
    ·exact h
    ·rw [qft s e1 (by omega)] at hd; cases hd
   have hd1 := qb hd;clear hd;(go_wp2_with fail);refine (NC.out (e1 + 1) _ _ (by simp) hp2).mono ?_
   rintro e' w' ⟨rfl, hw'⟩;rw [hw'];clear hw' w';rcases ND.out (e1 + 1) hp2 with ⟨e2, o2, r, hn, hr⟩ | ⟨e2, o2, hn, he2, hl2⟩
   ·rw [hn];unfold npV;have hx := bne_iff_ne.2 hr;have hn2 := qb hn;have hr2 := qb hr;clear hn hr;(go_wp2_with fail);have hX := HX.out;rw [qfm hn0.out hd0.out, qfm hn1.out hd1.out, qrl hn2.out hr2.out] at hX;subst hX;exact qfr _ _ w.heap.size _ _ _ _ _ _ _ ⟨_, _, _, rfl⟩ rfl rfl rfl (put6 _ _ _ _ _ _ c2.out.res) ⟨rfl, qck c2.out.bel _ _ _ _ _ _⟩
   rw [hn];unfold npV;have hn2 := qb hn;clear hn;cases o2
   ·have hA2 : (0 : Int) ≤ ((e1 : Int) + 1) := by omega
    have hB2 : ((e1 : Int) + 1) ≤ (e2 : Int) := by omega
    have hC2 : (e2 : Int) ≤ (s.size : Int) := by omega
    (go_wp2_with fail);rw [rounds_succ];(go_wp2_with fail);have hX := HX.out;rw [qfm hn0.out hd0.out, qfm hn1.out hd1.out, qmx hn2.out] at hX;subst hX;exact qfr _ _ w.heap.size _ _ _ _ _ _ _ ⟨_, _, _, rfl⟩ rfl rfl rfl (put6 _ _ _ _ _ _ c2.out.res) ⟨rfl, qck c2.out.bel _ _ _ _ _ _⟩
   ·(go_wp2_with fail);rw [rounds_succ];(go_wp2_with fail);have hX := HX.out;rw [qfm hn0.out hd0.out, qfm hn1.out hd1.out, qmx hn2.out] at hX;subst hX;exact qfr _ _ w.heap.size _ _ _ _ _ _ _ ⟨_, _, _, rfl⟩ rfl rfl rfl (put6 _ _ _ _ _ _ c2.out.res) ⟨rfl, qck c2.out.bel _ _ _ _ _ _⟩
  ·(go_wp2_with fail);rw [rounds_succ];(go_wp2_with fail);refine (C0.out e1 _).mono ?_;rintro e' W2 ⟨rfl, hb2⟩;have c2 := qb (c1.out.below hb2);clear hb2;clear q0 q1 q2 q3 q4 q5 q6 q7 r1 f1 f2 f3 f4 f5 f6 r2 r3 r4 r5 r6 p1 p2 p3 p4 p5;obtain ⟨q0, q1, q2, q3, q4, q5, q6, q7⟩ := c2.out.seen;obtain ⟨r1, f1, f2, f3, f4, f5, f6, r2, r3, r4, r5, r6⟩ := c2.out.seenR;obtain ⟨p1, p2, p3, p4, p5⟩ := c2.out.seenP
   by_cases hd : s.data.toList[e1]? = some 46
   rotate_left
   ·rw [qkt hd];have hd1 := qb hd;clear hd;(go_wp2_with fail);have hX := HX.out;rw [qfm hn0.out hd0.out, qsc hn1.out hd1.out] at hX;subst hX;exact qfr _ _ w.heap.size _ _ _ _ _ _ _ ⟨_, _, _, rfl⟩ rfl rfl rfl (put6 _ _ _ _ _ _ c2.out.res) ⟨rfl, qck c2.out.bel _ _ _ _ _ _⟩
   rw [qmk hd];have hq := eqE (oneB 46) (by decide)
   have hp2 : e1 + 1 ≤ s.size := by
    rcases qcfc e1 s.size with h | h
    ·exact h
    ·rw [qft s e1 (by omega)] at hd; cases hd
   have hd1 := qb hd;clear hd;(go_wp2_with fail);refine (NC.out (e1 + 1) _ _ (by simp) hp2).mono ?_
   rintro e' w' ⟨rfl, hw'⟩;rw [hw'];clear hw' w';rcases ND.out (e1 + 1) hp2 with ⟨e2, o2, r, hn, hr⟩ | ⟨e2, o2, hn, he2, hl2⟩
   ·rw [hn];unfold npV;have hx := bne_iff_ne.2 hr;have hn2 := qb hn;have hr2 := qb hr;clear hn hr;(go_wp2_with fail);have hX := HX.out;rw [qfm hn0.out hd0.out, qfm hn1.out hd1.out, qrl hn2.out hr2.out] at hX;subst hX;exact qfr _ _ w.heap.size _ _ _ _ _ _ _ ⟨_, _, _, rfl⟩ rfl rfl rfl (put6 _ _ _ _ _ _ c2.out.res) ⟨rfl, qck c2.out.bel _ _ _ _ _ _⟩
   rw [hn];unfold npV;have hn2 := qb hn;clear hn;cases o2
   ·have hA2 : (0 : Int) ≤ ((e1 : Int) + 1) := by omega
    have hB2 : ((e1 : Int) + 1) ≤ (e2 : Int) := by omega
    have hC2 : (e2 : Int) ≤ (s.size : Int) := by omega
    (go_wp2_with fail);rw [rounds_succ];(go_wp2_with fail);have hX := HX.out;rw [qfm hn0.out hd0.out, qfm hn1.out hd1.out, qmx hn2.out] at hX;subst hX;exact qfr _ _ w.heap.size _ _ _ _ _ _ _ ⟨_, _, _, rfl⟩ rfl rfl rfl (put6 _ _ _ _ _ _ c2.out.res) ⟨rfl, qck c2.out.bel _ _ _ _ _ _⟩
   ·(go_wp2_with fail);rw [rounds_succ];(go_wp2_with fail);have hX := HX.out;rw [qfm hn0.out hd0.out, qfm hn1.out hd1.out, qmx hn2.out] at hX;subst hX;exact qfr _ _ w.heap.size _ _ _ _ _ _ _ ⟨_, _, _, rfl⟩ rfl rfl rfl (put6 _ _ _ _ _ _ c2.out.res) ⟨rfl, qck c2.out.bel _ _ _ _ _ _⟩
end Go.Proofs.YtpdlgiioahjhiaaGreat
