/- Walks: what stands behind the dash of a from-to; an operator -/
import Derived.Test.YtpdlgiioahjhiaaGreatPEi
import Derived.Laws.EntriesVeiled
namespace Go.Proofs.YtpdlgiioahjhiaaGreat
open Go.RowKit
open Nat renaming le_refl → qcgl
set_option linter.unusedVariables false
set_option maxHeartbeats 8000000
set_option maxRecDepth 100000
theorem qvv {l : QB} {a : Nat} {p : PartL} {z r : Int} (h : 48 < z - a) : endP l a p z r = (qcz, (a : Int) + 48, 12) := if_pos h
theorem qbnx {l : QB} {a : Nat} {p : PartL} {z r : Int} (h : ¬ 48 < z - a) (hr : ¬ r = 0) : endP l a p z r = (p, z, r) := by
 unfold endP; rw [if_neg h, if_neg (fun x => hr x.1)]
theorem qbcj {l : QB} {a : Nat} {p : PartL} {e : Nat} (h : ¬ 48 < (e : Int) - a) (he : qcc l e = false) (hc : (l[e]?.map fun c => isC (c.toNat : Int) 6) = some false) : endP l a p (e : Int) 0 = (qcz, (e : Int), 10) := by
 unfold endP; rw [if_neg h, Int.toNat_natCast, if_pos ⟨rfl, he, hc⟩]
theorem qbcf {l : QB} {a : Nat} {p : PartL} {e : Nat} (h : ¬ 48 < (e : Int) - a) (hc : (l[e]?.map fun c => isC (c.toNat : Int) 6) = some true) : endP l a p (e : Int) 0 = (p, (e : Int), 0) := by
 unfold endP; rw [if_neg h, Int.toNat_natCast, if_neg (fun x => by rw [x.2.2] at hc; cases hc)]
theorem qbsw {l : QB} {a : Nat} {p : PartL} {e : Nat} (h : ¬ 48 < (e : Int) - a) (he : qcc l e = true) : endP l a p (e : Int) 0 = (p, (e : Int), 0) := by
 unfold endP; rw [if_neg h, Int.toNat_natCast, if_neg (fun x => by rw [x.2.1] at he; cases he)]
theorem qkv (s : QY) (a : Nat) (w : World) (hs : s.size ≤ 256) (ha : a ≤ s.size) :
  Calls Tryz.prog 83 #[.string s, .int .i64 (a : Int)] w (PartP w (rpL s.data.toList a)) := by
 have C0 := qb (fun W => qlr s a 118 W hs);have hv : vL s.data.toList a ≤ s.size ∧ (vL s.data.toList a : Int) = (a : Int) + ((staB s.data.toList a 118).size : Int) := by
  unfold vL
  by_cases h : s.data.toList[a]? = some 118
  ·rw [if_pos h, qmk h];refine ⟨?_, by show _ = (a : Int) + 1; omega⟩
   rcases Nat.lt_or_ge a s.size with h' | h'
   ·exact h'
   ·rw [qft s a (by omega)] at h; cases h
  ·rw [if_neg h, qkt h];exact ⟨ha, by show _ = (a : Int) + 0; omega⟩
 have NC := qb (fun (z : Int) W (hz : z = (a : Int) + ((staB s.data.toList a 118).size : Int)) => (by rw [hz, ← hv.2]; exact qxx s _ W hs hv.1 : Calls Tryz.prog 119 #[.string s, .int .i64 z] W fun e w' => e = .returned (rnV s (rnGo s.data.toList 2 0 (vL s.data.toList a) [])) ∧ Below W.heap.size W w'))
 have hX : rpL s.data.toList a = rpL s.data.toList a := rfl
 conv at hX => rhs; unfold rpL
 have hv1 := hv.1;have hsz : ((staB s.data.toList a 118).size : Int) ≤ 1 := by
  by_cases h : s.data.toList[a]? = some 118
  ·rw [qmk h]; decide
  ·rw [qkt h]; decide
 generalize rpL s.data.toList a = X at *;generalize staB s.data.toList a 118 = sv at *;generalize vL s.data.toList a = b at *;have HX := qb hX;clear hv hX;go_enter Tryz.func83, Tryz.ntmps83
 (go_wp2_with fail);have hr0 := World.alloc_heap_new w (.cells #[.string ⟨#[]⟩, .string ⟨#[]⟩, .string ⟨#[]⟩, .slice none 0 0, .slice none 0 0, .int .i64 0] 54);have br0 : Below w.heap.size w (w.alloc (.cells #[.string ⟨#[]⟩, .string ⟨#[]⟩, .string ⟨#[]⟩, .slice none 0 0, .slice none 0 0, .int .i64 0] 54)) := (Below.refl _ w).alloc (qcgl _) _;generalize w.alloc _ = W0 at *;refine (C0.out _).mono ?_;rintro e w1 ⟨rfl, hw1⟩;have hr1 := (hw1.block _ (Array.getElem?_eq_some_iff.1 hr0).1).trans hr0;have br1 := br0.trans (hw1.mono br0.size);clear hr0 br0 hw1;(go_wp2_with fail);refine (NC.out _ _ rfl).mono ?_;rintro e w2 ⟨rfl, hw2⟩;have HR1 := qb hr1;have BR1 := qb br1;have HW2 := qb hw2;clear hr1 br1 hw2;cases hg : rnGo s.data.toList 2 0 b []
 case error x =>
  rw [hg] at HX;have hx1 := (qbfj 2 0 b [] (by rw [qh]; exact hv1) (Nat.zero_le _)).1 x hg
  rw [qh] at hx1;have hne := rn_ne 2 0 b [] x hg;obtain ⟨x1, x2⟩ := x;dsimp only at hx1 hne HX;have hnb : (x2 == 0) = false := by simpa using hne
  unfold rnV partZ qbzn;clear hg NC;have P2 := qb (PB.start HR1.out BR1.out HW2.out ⟨#[]⟩ ⟨#[]⟩ ⟨#[]⟩ (.slice none 0 0) 0);dsimp only;obtain ⟨q0, q1, q2, q3, q4, q5, q6⟩ := P2.out.seen;obtain ⟨r1, f1, f2, f3, f4, f5, f6, r2, r3, r4, r5, r6⟩ := P2.out.seenR
  by_cases hlong : 48 < (x1 : Int) - (a : Int)
  ·have hX := HX.out.trans (qvv hlong);clear HX;subst hX;have hq : decide (48 < (x1 : Int) - (a : Int)) = true := by simp; omega
   clear hlong;(go_wp2_with fail);exact qqz _ _ w.heap.size _ _ _ _ _ _ _ ⟨_, _, _, rfl⟩ rfl rfl rfl (put6 _ _ _ _ _ _ P2.out.res) ⟨qck P2.out.bel _ _ _ _ _ _, _, rfl, qt _, (by rintro a i c h; cases h), (by rintro a n c h; cases h; exact qcgl _), _, _, _, rfl⟩
  have hq : decide (48 < (x1 : Int) - (a : Int)) = false := by simp; omega
  have hX := HX.out.trans (qbnx hlong hne);clear HX hlong;subst hX;(go_wp2_with fail);exact qqz _ _ w.heap.size _ _ _ _ _ _ _ ⟨_, _, _, rfl⟩ rfl rfl rfl (put6 _ _ _ _ _ _ P2.out.res) ⟨qck P2.out.bel _ _ _ _ _ _, _, rfl, qt _, (by rintro a i c h; cases h), (by rintro a n c h; cases h; exact qcgl _), _, _, _, rfl⟩
 case ok x =>
  rw [hg] at HX;have hx := (qbfj 2 0 b [] (by rw [qh]; exact hv1) (Nat.zero_le _)).2 x hg
  rw [qh] at hx;obtain ⟨sg, e⟩ := x;obtain ⟨hx1, hx2⟩ := hx;dsimp only at hx1 hx2 HX;clear hg NC;unfold rnV qbzn;simp only [segS_eq]
  by_cases h3 : sg.length = 3
  ·replace HX := qb (HX.out.trans (if_pos h3));rw [h3];have RP := qb (fun W => qbtt s e W hs hx1);have hpl := pre_le (l := s.data.toList) (a := e) (by rw [qh]; exact hx1) (by rw [qh]; exact hs)
   have hok := fun h => pre_ok (l := s.data.toList) (a := e) (by rw [qh]; exact hx1) h
   rw [qh] at hok;generalize preR s.data.toList e = pq at *;obtain ⟨pl, z, r⟩ := pq;dsimp only at hpl hok HX;obtain ⟨hpl1, hpl2⟩ := hpl;have hok := qb hok;have P2 := qb (PB.start HR1.out BR1.out HW2.out (qg (segT s.data.toList sg 0)) (qg (segT s.data.toList sg 1)) (qg (segT s.data.toList sg 2)) (.slice none 0 0) 3)
   try dsimp only
   obtain ⟨q0, q1, q2, q3, q4, q5, q6⟩ := P2.out.seen;obtain ⟨r1, f1, f2, f3, f4, f5, f6, r2, r3, r4, r5, r6⟩ := P2.out.seenR;(go_wp2_with fail);have HBW := qb P2.out.lt;clear q0 q1 q2 q3 q4 q5 q6 r1 f1 f2 f3 f4 f5 f6 r2 r3 r4 r5 r6;generalize w2.alloc _ = W3 at *;refine (RP.out _).mono ?_;rintro e' w4 ⟨b4, v, rfl, t1, fr, cp, av, nv, cv, rfl⟩;have P3 := qb (P2.out.below b4);have P4 := qb (P3.out.put (.slice av nv cv));have TX := qb (qdv t1 fr HBW.out 3 (.slice av nv cv));have FR := qb fr;have CPX := qb cp;clear t1 fr cp b4 RP;obtain ⟨g0, g1, g2, g3, g4, g5, g6⟩ := P3.out.seen;obtain ⟨q0, q1, q2, q3, q4, q5, q6⟩ := P4.out.seen;obtain ⟨r1, f1, f2, f3, f4, f5, f6, r2, r3, r4, r5, r6⟩ := P4.out.seenR;dsimp only at HX TX
   by_cases hlong : 48 < (z : Int) - (a : Int)
   ·have hX := HX.out.trans (qvv hlong);clear HX;subst hX;have hq : decide (48 < (z : Int) - (a : Int)) = true := by simp; omega
    clear hlong;(go_wp2_with fail);exact qqz _ _ w.heap.size _ _ _ _ _ _ _ ⟨_, _, _, rfl⟩ rfl rfl rfl (put6 _ _ _ _ _ _ P4.out.res) ⟨qck P4.out.bel _ _ _ _ _ _, _, rfl, qt _, (by rintro a i c h; cases h), (by rintro a n c h; cases h; exact qcgl _), _, _, _, rfl⟩
   have hq : decide (48 < (z : Int) - (a : Int)) = false := by simp; omega
   by_cases hr0 : r = 0
   ·obtain ⟨e2, hzn, hza, hzb⟩ := hok.out hr0;subst hr0 hzn;clear hok;have hlz : e2 ≤ s.size := by omega
    cases he : qcc s.data.toList e2
    ·have hlt : e2 < s.size := by
      rcases Nat.lt_or_ge e2 s.size with h | h
      ·exact h
      ·have h5 : e2 = s.data.toList.length := by rw [qh]; omega
       unfold qcc at he; rw [decide_eq_true h5] at he; cases he
     have CE := qb (fun W => qgj s e2 W hlz);rw [he] at CE;cases hc : isC (s[e2].toNat : Int) 6
     ·have hX := HX.out.trans (qbcj hlong he (by rw [qdz s e2 hlt]; simp [hc]))
      clear HX he hlong;subst hX;go_wp2_with (first | (go_at_call 88; refine (CE.out _).mono ?_; rintro e9 w9 ⟨rfl, rfl⟩) | (go_at_call 55; refine (qgz _ _ _).mono ?_; rintro e9 w9 ⟨rfl, rfl⟩))
      exact qqz _ _ w.heap.size _ _ _ _ _ _ _ ⟨_, _, _, rfl⟩ rfl rfl rfl (put6 _ _ _ _ _ _ P4.out.res) ⟨qck P4.out.bel _ _ _ _ _ _, _, rfl, qt _, (by rintro a i c h; cases h), (by rintro a n c h; cases h; exact qcgl _), _, _, _, rfl⟩
     ·have hX := HX.out.trans (qbcf hlong (by rw [qdz s e2 hlt]; simp [hc]))
      clear HX he hlong;subst hX;go_wp2_with (first | (go_at_call 88; refine (CE.out _).mono ?_; rintro e9 w9 ⟨rfl, rfl⟩) | (go_at_call 55; refine (qgz _ _ _).mono ?_; rintro e9 w9 ⟨rfl, rfl⟩))
      exact qqz _ _ w.heap.size _ _ _ _ _ _ _ ⟨_, _, _, rfl⟩ rfl rfl rfl (put6 _ _ _ _ _ _ P4.out.res) ⟨qck P4.out.bel _ _ _ _ _ _, _, rfl, txt6 TX.out FR.out (by have := P4.out.big; have := HBW.out; omega) _ _ _ _ _ _, qdn FR.out (by have := P4.out.big; have := HBW.out; omega), CPX.out, _, _, _, rfl⟩
    ·have hX := HX.out.trans (qbsw hlong he);have CE := qb (fun W => qgj s e2 W hlz);rw [he] at CE;clear HX he hlong;subst hX;go_wp2_with (first | (go_at_call 88; refine (CE.out _).mono ?_; rintro e9 w9 ⟨rfl, rfl⟩) | (go_at_call 55; refine (qgz _ _ _).mono ?_; rintro e9 w9 ⟨rfl, rfl⟩))
     exact qqz _ _ w.heap.size _ _ _ _ _ _ _ ⟨_, _, _, rfl⟩ rfl rfl rfl (put6 _ _ _ _ _ _ P4.out.res) ⟨qck P4.out.bel _ _ _ _ _ _, _, rfl, txt6 TX.out FR.out (by have := P4.out.big; have := HBW.out; omega) _ _ _ _ _ _, qdn FR.out (by have := P4.out.big; have := HBW.out; omega), CPX.out, _, _, _, rfl⟩
   have hne : ¬ r = 0 := hr0;have hnb : (r == 0) = false := by simpa using hr0
   clear hr0;have hX := HX.out.trans (qbnx hlong hne);clear HX hlong;subst hX;(go_wp2_with fail);exact qqz _ _ w.heap.size _ _ _ _ _ _ _ ⟨_, _, _, rfl⟩ rfl rfl rfl (put6 _ _ _ _ _ _ P4.out.res) ⟨qck P4.out.bel _ _ _ _ _ _, _, rfl, txt6 TX.out FR.out (by have := P4.out.big; have := HBW.out; omega) _ _ _ _ _ _, qdn FR.out (by have := P4.out.big; have := HBW.out; omega), CPX.out, _, _, _, rfl⟩
  ·replace HX := qb (HX.out.trans (if_neg h3));have h3b : ((sg.length : Int) == 3) = false := by simp; omega
   clear h3;have P2 := qb (PB.start HR1.out BR1.out HW2.out (qg (segT s.data.toList sg 0)) (qg (segT s.data.toList sg 1)) (qg (segT s.data.toList sg 2)) (.slice none 0 0) (sg.length : Int))
   try dsimp only
   obtain ⟨q0, q1, q2, q3, q4, q5, q6⟩ := P2.out.seen;obtain ⟨r1, f1, f2, f3, f4, f5, f6, r2, r3, r4, r5, r6⟩ := P2.out.seenR
   by_cases hlong : 48 < (e : Int) - (a : Int)
   ·have hX := HX.out.trans (qvv hlong);clear HX;subst hX;have hq : decide (48 < (e : Int) - (a : Int)) = true := by simp; omega
    clear hlong;(go_wp2_with fail);exact qqz _ _ w.heap.size _ _ _ _ _ _ _ ⟨_, _, _, rfl⟩ rfl rfl rfl (put6 _ _ _ _ _ _ P2.out.res) ⟨qck P2.out.bel _ _ _ _ _ _, _, rfl, qt _, (by rintro a i c h; cases h), (by rintro a n c h; cases h; exact qcgl _), _, _, _, rfl⟩
   have hq : decide (48 < (e : Int) - (a : Int)) = false := by simp; omega
   have hlz : e ≤ s.size := by omega
   cases he : qcc s.data.toList e
   ·have hlt : e < s.size := by
     rcases Nat.lt_or_ge e s.size with h | h
     ·exact h
     ·have h5 : e = s.data.toList.length := by rw [qh]; omega
      unfold qcc at he; rw [decide_eq_true h5] at he; cases he
    have CE := qb (fun W => qgj s e W hlz);rw [he] at CE;cases hc : isC (s[e].toNat : Int) 6
    ·have hX := HX.out.trans (qbcj hlong he (by rw [qdz s e hlt]; simp [hc]))
     clear HX he hlong;subst hX;go_wp2_with (first | (go_at_call 88; refine (CE.out _).mono ?_; rintro e9 w9 ⟨rfl, rfl⟩) | (go_at_call 55; refine (qgz _ _ _).mono ?_; rintro e9 w9 ⟨rfl, rfl⟩))
     exact qqz _ _ w.heap.size _ _ _ _ _ _ _ ⟨_, _, _, rfl⟩ rfl rfl rfl (put6 _ _ _ _ _ _ P2.out.res) ⟨qck P2.out.bel _ _ _ _ _ _, _, rfl, qt _, (by rintro a i c h; cases h), (by rintro a n c h; cases h; exact qcgl _), _, _, _, rfl⟩
    ·have hX := HX.out.trans (qbcf hlong (by rw [qdz s e hlt]; simp [hc]))
     clear HX he hlong;subst hX;go_wp2_with (first | (go_at_call 88; refine (CE.out _).mono ?_; rintro e9 w9 ⟨rfl, rfl⟩) | (go_at_call 55; refine (qgz _ _ _).mono ?_; rintro e9 w9 ⟨rfl, rfl⟩))
     exact qqz _ _ w.heap.size _ _ _ _ _ _ _ ⟨_, _, _, rfl⟩ rfl rfl rfl (put6 _ _ _ _ _ _ P2.out.res) ⟨qck P2.out.bel _ _ _ _ _ _, _, rfl, qt _, (by rintro a i c h; cases h), (by rintro a n c h; cases h; exact qcgl _), _, _, _, rfl⟩
   ·have hX := HX.out.trans (qbsw hlong he);have CE := qb (fun W => qgj s e W hlz);rw [he] at CE;clear HX he hlong;subst hX;go_wp2_with (first | (go_at_call 88; refine (CE.out _).mono ?_; rintro e9 w9 ⟨rfl, rfl⟩) | (go_at_call 55; refine (qgz _ _ _).mono ?_; rintro e9 w9 ⟨rfl, rfl⟩))
    exact qqz _ _ w.heap.size _ _ _ _ _ _ _ ⟨_, _, _, rfl⟩ rfl rfl rfl (put6 _ _ _ _ _ _ P2.out.res) ⟨qck P2.out.bel _ _ _ _ _ _, _, rfl, qt _, (by rintro a i c h; cases h), (by rintro a n c h; cases h; exact qcgl _), _, _, _, rfl⟩
end Go.Proofs.YtpdlgiioahjhiaaGreat

namespace Go.Proofs.YtpdlgiioahjhiaaGreat
open Go.RowKit
open Calls renaming quiet_of_same → qcgr
open Nat renaming le_of_ble_eq_true → qcfd
open World renaming alloc_heap_new → qcgj
set_option linter.unusedVariables false
set_option maxHeartbeats 4000000
set_option maxRecDepth 100000
def ops9 : List (QB × Nat) := [([], 160), ([61], 160), ([60], 161), ([60, 61], 87), ([62], 162), ([62, 61], 85), ([126], 163), ([126, 62], 163), ([94], 164)]
def qhb (l : QB) (x y : QB × Nat) : QB × Nat := if hasP l y.1 = true ∧ x.1.length ≤ y.1.length then y else x
def opGo (l : QB) (k : Nat) : QB × Nat := (ops9.take k).foldl (qhb l) ([], 0)
def opL (l : QB) (a : Nat) : QB × Nat := opGo (l.drop a) 9
theorem qjz (l : QB) (k : Nat) (h : k < ops9.length) : opGo l (k + 1) = qhb l (opGo l k) ops9[k] := by
 unfold opGo;rw [List.take_succ_eq_append_getElem h, List.foldl_append]
 rfl
def qqb : Array Value := #[.string ⟨#[]⟩, .func (.func 160) #[] #[], .string ⟨#[61]⟩, .func (.func 160) #[] #[], .string ⟨#[60]⟩, .func (.func 161) #[] #[], .string ⟨#[60, 61]⟩, .func (.func 87) #[] #[], .string ⟨#[62]⟩, .func (.func 162) #[] #[], .string ⟨#[62, 61]⟩, .func (.func 85) #[] #[], .string ⟨#[126]⟩, .func (.func 163) #[] #[], .string ⟨#[126, 62]⟩, .func (.func 163) #[] #[], .string ⟨#[94]⟩, .func (.func 164) #[] #[]]
theorem qbgs (w : World) : Calls Tryz.prog 150 #[] w fun e w' => e = .returned (.slice (some ⟨w.heap.size, 0, none⟩) 9 9) ∧ w' = w.alloc (.cells qqb 148) := by
 go_enter Tryz.func150, Tryz.ntmps150
 (go_wp2_with fail);go_ret
 exact ⟨rfl, rfl⟩
def fnV (f : Nat) : Value := if f = 0 then .nilFunc else .func (.func f) #[] #[]
structure OW (w W : World) (x : QB × Nat) : Prop where
 res : W.heap[w.heap.size]? = some (.cells #[.string ⟨#[]⟩, .nilFunc] 148 (0, 0))
 top : W.heap[w.heap.size + 1]? = some (.cells #[.string (qg x.1), fnV x.2] 148 (0, 0))
 row : W.heap[w.heap.size + 2]? = some (.cells qqb 148 (0, 0))
 bel : Below w.heap.size w W
theorem OW.lt {w W : World} {x : QB × Nat} (h : OW w W x) : w.heap.size + 2 < W.heap.size := (Array.getElem?_eq_some_iff.1 h.row).1
theorem OW.below {w W W' : World} {x : QB × Nat} (h : OW w W x) (hb : Below W.heap.size W W') : OW w W' x :=
 ⟨(hb.block _ (by have := h.lt; omega)).trans h.res, (hb.block _ (by have := h.lt; omega)).trans h.top, (hb.block _ h.lt).trans h.row, h.bel.trans (hb.mono (by have := h.lt; omega))⟩
theorem OW.put {w W : World} {x : QB × Nat} (h : OW w W x) (y : QB × Nat) : OW w ((W.setCell ⟨w.heap.size + 1, 0, none⟩ (.string (qg y.1))).setCell ⟨w.heap.size + 1, 1, none⟩ (fnV y.2)) y := by
 have h1 := qv 1 (fnV y.2) (qv 0 (.string (qg y.1)) h.top);have l : qbb W [(w.heap.size, _), (w.heap.size + 2, _)] := qbb.cons h.res (qbb.cons h.row (qbb.nil W));have l1 := (l.other (w.heap.size + 1) 0 (.string (qg y.1)) (by intro p hp; simp at hp; rcases hp with rfl | rfl <;> simp)).other (w.heap.size + 1) 1 (fnV y.2) (by intro p hp; simp at hp; rcases hp with rfl | rfl <;> simp)
 exact ⟨l1.head, h1, l1.tail.head, (h.bel.setCell (by simp) _).setCell (by simp) _⟩
theorem OW.start (w : World) : OW w (((w.alloc (.cells #[.string ⟨#[]⟩, .nilFunc] 148)).alloc (.cells #[.string ⟨#[]⟩, .nilFunc] 148)).alloc (.cells qqb 148)) ([], 0) := by
 have h1 := qcgj w (.cells #[.string ⟨#[]⟩, .nilFunc] 148);have b1 : Below w.heap.size w (w.alloc (.cells #[.string ⟨#[]⟩, .nilFunc] 148)) := (Below.refl _ w).alloc (Nat.le_refl _) _;have s1 : (w.alloc (.cells #[.string ⟨#[]⟩, .nilFunc] 148)).heap.size = w.heap.size + 1 := by simp
 generalize w.alloc (.cells #[.string ⟨#[]⟩, .nilFunc] 148) = A at *;have h2 := qcgj A (.cells #[.string ⟨#[]⟩, .nilFunc] 148);have l2 := (qbb.cons h1 (qbb.nil A)).alloc (.cells #[.string ⟨#[]⟩, .nilFunc] 148);have b2 : Below w.heap.size w (A.alloc (.cells #[.string ⟨#[]⟩, .nilFunc] 148)) := b1.alloc (by omega) _
 have s2 : (A.alloc (.cells #[.string ⟨#[]⟩, .nilFunc] 148)).heap.size = w.heap.size + 2 := by simp [s1]
 rw [s1] at h2;generalize A.alloc (.cells #[.string ⟨#[]⟩, .nilFunc] 148) = C at *;have h3 := qcgj C (.cells qqb 148);have l3 := (qbb.cons h2 l2).alloc (.cells qqb 148);rw [s2] at h3;exact ⟨l3.tail.head, l3.head, h3, b2.alloc (by omega) _⟩
theorem OW.seen {w W : World} {x : QB × Nat} (h : OW w W x) : W.cell? ⟨w.heap.size + 1, 0, none⟩ = some (.string (qg x.1)) ∧ W.cell? ⟨w.heap.size + 1, 1, none⟩ = some (fnV x.2) ∧ W.frozen? ⟨w.heap.size + 1, 0, none⟩ = false ∧ W.frozen? ⟨w.heap.size + 1, 1, none⟩ = false ∧
  W.cell? ⟨w.heap.size, 0, none⟩ = some (.string ⟨#[]⟩) ∧ W.cell? ⟨w.heap.size, 1, none⟩ = some .nilFunc ∧ W.frozen? ⟨w.heap.size, 0, none⟩ = false ∧ W.frozen? ⟨w.heap.size, 1, none⟩ = false :=
 ⟨qd 0 h.top rfl, qd 1 h.top rfl, qf 0 h.top, qf 1 h.top, qd 0 h.res rfl, qd 1 h.res rfl, qf 0 h.res, qf 1 h.res⟩
theorem qbbp (k : Nat) (h : k < 9) : qqb[k * 2]? = some (.string (qg (ops9[k]'h).1)) ∧ qqb[k * 2 + 1]? = some (.func (.func (ops9[k]'h).2) #[] #[]) ∧ (ops9[k]'h).2 ≠ 0 ∧ (ops9[k]'h).1.length ≤ 2 := by
 match k, h with
 | 0, _ => exact ⟨rfl, rfl, Nat.ne_of_beq_eq_false rfl, qcfd rfl⟩
 | 1, _ => exact ⟨rfl, rfl, Nat.ne_of_beq_eq_false rfl, qcfd rfl⟩
 | 2, _ => exact ⟨rfl, rfl, Nat.ne_of_beq_eq_false rfl, qcfd rfl⟩
 | 3, _ => exact ⟨rfl, rfl, Nat.ne_of_beq_eq_false rfl, qcfd rfl⟩
 | 4, _ => exact ⟨rfl, rfl, Nat.ne_of_beq_eq_false rfl, qcfd rfl⟩
 | 5, _ => exact ⟨rfl, rfl, Nat.ne_of_beq_eq_false rfl, qcfd rfl⟩
 | 6, _ => exact ⟨rfl, rfl, Nat.ne_of_beq_eq_false rfl, qcfd rfl⟩
 | 7, _ => exact ⟨rfl, rfl, Nat.ne_of_beq_eq_false rfl, qcfd rfl⟩
 | 8, _ => exact ⟨rfl, rfl, Nat.ne_of_beq_eq_false rfl, qcfd rfl⟩
theorem op_len (l : QB) : ∀ k, k ≤ 9 → (opGo l k).1.length ≤ 2
 | 0, _ => qcfd rfl
 | k + 1, h => by
  rw [qjz l k h];unfold qhb;split
  ·exact (qbbp k h).2.2.2
  ·exact op_len l k (by omega)
theorem op_fn (l : QB) : ∀ k, k ≤ 9 → 0 < k → (opGo l k).2 ≠ 0
 | 0, _, h => absurd h (by decide)
 | 1, _, _ => by
  rw [qjz l 0 (by decide)]
  unfold qhb;rw [if_pos ⟨by show hasP l [] = true; simp [hasP], qcfd rfl⟩]
  exact Nat.ne_of_beq_eq_false rfl
 | k + 2, h, _ => by
  rw [qjz l (k + 1) h];unfold qhb;split
  ·exact (qbbp (k + 1) h).2.2.1
  ·exact op_fn l (k + 1) (by omega) (by omega)
theorem put2 {W : World} {B : Nat} {t : TypeId} {u0 u1 : Value} (v0 v1 : Value) (h : W.heap[B]? = some (.cells #[u0, u1] t (0, 0))) :
  ((W.setCell ⟨B, 0, none⟩ v0).setCell ⟨B, 1, none⟩ v1).heap[B]? = some (.cells #[v0, v1] t (0, 0)) := qv 1 v1 (qv 0 v0 h)
theorem fin121 {R : Ending → World → Prop} (tmps : Array Value) (W : World) (B : Nat) (x : QY) (f : Nat)
  (h4 : tmps.getD 4 undef = .pointer (some ⟨B, 0, none⟩)) (e1 : W.heap[B]? = some (.cells #[.string x, .func (.func f) #[] #[]] 148 (0, 0)))
  (hR : R (.returned (.agg #[.string x, .func (.func f) #[] #[]])) W) : bodyPost Tryz.prog Tryz.f123 R .ret { tmps := tmps, defers := [] } W := by
 have r0 := qd 0 e1 rfl;have r1 := qd 1 e1 rfl;rw [Array.getD_eq_getD_getElem?] at h4;refine ⟨rfl, _, ?_, hR⟩;simp [results, Tryz.results123, go_sem, h4, r0, r1]
 try rfl
theorem qbbs (s : QY) (a : Nat) (w : World) (hs : s.size ≤ 256) (ha : a ≤ s.size) :
  Calls Tryz.prog 123 #[.string s, .int .i64 (a : Int)] w fun e w' => e = .returned (.agg #[.string (qg (opL s.data.toList a).1), .func (.func (opL s.data.toList a).2) #[] #[]]) ∧ Below w.heap.size w w' := by
 have CH := qb (fun (x : QB) W => (by have := qsl (s.extract a s.size) (qg x) W; rw [qj, show (s.extract a s.size).data.toList = s.data.toList.drop a by rw [qnc, qj]] at this; exact this : Calls Tryz.prog 124 #[.string (s.extract a s.size), .string (qg x)] W fun e w' => e = .returned (.bool (hasP (s.data.toList.drop a) x)) ∧ w' = W))
 unfold opL;generalize s.data.toList.drop a = l at *;have hA : (0 : Int) ≤ (a : Int) := Int.natCast_nonneg _;have hB : (a : Int) ≤ (s.size : Int) := by omega
 go_enter Tryz.func123, Tryz.ntmps123
 (go_wp2_with fail);refine (qbgs _).mono ?_;rintro e w1 ⟨rfl, rfl⟩;have W0 := OW.start w;generalize ((w.alloc _).alloc _).alloc _ = V0 at *;have W0 := qb W0
 try dsimp only
 (go_wp2_with fail);go_loopw [10] (fun y wr => ∃ k : Nat, k ≤ 9 ∧ y = .int .i64 k ∧ OW w wr (opGo l k)) (fun y _ => 9 - (intOf y).toNat)
 case atStart => exact ⟨0, by omega, rfl, W0.out⟩
 case round =>
  obtain ⟨k, hk, rfl, hW⟩ := hrel;obtain ⟨g0, g1, g2, g3, g4, g5, g6, g7⟩ := hW.seen;have hbl := qb (op_len l k hk)
  by_cases hlt : k < 9
  ·have hlt' : (k : Int) < 9 := by omega
   obtain ⟨o1, o2, o3, o4⟩ := qbbp k hlt;have c0 := qd (k * 2) hW.row o1;have c1 := qd (k * 2 + 1) hW.row o2;have HN := qb (qjz l k hlt);generalize ops9[k]'hlt = y at *;obtain ⟨y1, y2⟩ := y;dsimp only at c0 c1 o3 o4 HN;have HS := qb hW;generalize hxq : opGo l k = x at *;obtain ⟨x1, x2⟩ := x;clear o1 o2 hW;dsimp only at g0 g1 HS hbl;have hfy : fnV y2 = .func (.func y2) #[] #[] := if_neg o3;have hB1 := qb (HS.out.below ((Below.refl _ wr).alloc (Nat.le_refl _) (.cells #[.string (qg y1), .func (.func y2) #[] #[]] 148)));have n0 := qcgj wr (.cells #[.string (qg y1), .func (.func y2) #[] #[]] 148);clear g0 g1 g2 g3 g4 g5 g6 g7;have CY := qb (CH.out y1);have HSZ : Hid ((qg x1).size = x1.length ∧ (qg y1).size = y1.length) := ⟨qx x1, qx y1⟩;cases hp : hasP l y1
   ·have HN2 : Hid (opGo l (k + 1) = (x1, x2)) := qb (by rw [HN.out]; exact if_neg (fun h => by rw [hp] at h; cases h.1))
    rw [hp] at CY;clear hp HN hxq;(go_wp2_with fail);generalize wr.alloc _ = V at *;obtain ⟨g0, g1, g2, g3, g4, g5, g6, g7⟩ := hB1.out.seen;have v0 := qd 0 n0 rfl;have v1 := qd 1 n0 rfl;dsimp only at g0 g1;go_quiet ((go_at_call 124; exact qcgr (CY.out _)))
    (go_wp2_with fail);go_roundw
    case rel => exact ⟨k + 1, by omega, by go_num, by rw [HN2.out]; exact hB1.out.below (qbm _ _ _)⟩
    case measure => simp [intOf]; omega
   ·rw [hp] at CY
    by_cases hle : x1.length ≤ y1.length
    ·have HN2 : Hid (opGo l (k + 1) = (y1, y2)) := qb (by rw [HN.out]; exact if_pos ⟨hp, hle⟩)
     have b1 : (qg x1).size ≤ (qg y1).size := by rw [HSZ.out.1, HSZ.out.2]; exact hle
     clear hp HN hle hxq;(go_wp2_with fail);generalize wr.alloc _ = V at *;obtain ⟨g0, g1, g2, g3, g4, g5, g6, g7⟩ := hB1.out.seen;have v0 := qd 0 n0 rfl;have v1 := qd 1 n0 rfl;dsimp only at g0 g1;go_quiet ((go_at_call 124; exact qcgr (CY.out _)))
     have HPUT := qb (fun m => (hB1.out.below (qbm _ _ m)).put (y1, y2));(go_wp2_with fail);go_roundw
     case rel => exact ⟨k + 1, by omega, by go_num, by rw [HN2.out]; have := HPUT.out nq; dsimp only at this; rw [hfy] at this; exact this⟩
     case measure => simp [intOf]; omega
    ·have HN2 : Hid (opGo l (k + 1) = (x1, x2)) := qb (by rw [HN.out]; exact if_neg (fun h => hle h.2))
     have b1 : ¬ (qg x1).size ≤ (qg y1).size := by rw [HSZ.out.1, HSZ.out.2]; exact hle
     clear hp HN hle hxq;(go_wp2_with fail);generalize wr.alloc _ = V at *;obtain ⟨g0, g1, g2, g3, g4, g5, g6, g7⟩ := hB1.out.seen;have v0 := qd 0 n0 rfl;have v1 := qd 1 n0 rfl;dsimp only at g0 g1;go_quiet ((go_at_call 124; exact qcgr (CY.out _)))
     (go_wp2_with fail);go_roundw
     case rel => exact ⟨k + 1, by omega, by go_num, by rw [HN2.out]; exact hB1.out.below (qbm _ _ _)⟩
     case measure => simp [intOf]; omega
  ·have hk9 : k = 9 := by omega
   subst hk9;have hfn := op_fn l 9 (by omega) (by omega)
   have hfy : fnV (opGo l 9).2 = .func (.func (opGo l 9).2) #[] #[] := if_neg hfn;have HS := qb hW;rw [hfy] at g1;have HT := qb (put2 (.string (qg (opGo l 9).1)) (.func (.func (opGo l 9).2) #[] #[]) hW.res);clear hW hlt hfn hfy;(go_wp2_with fail);exact fin121 _ _ w.heap.size _ _ rfl HT.out ⟨rfl, (HS.out.bel.setCell (Nat.le_refl _) _).setCell (Nat.le_refl _) _⟩
end Go.Proofs.YtpdlgiioahjhiaaGreat

namespace Go.Proofs.YtpdlgiioahjhiaaGreat
open Go.RowKit
set_option linter.unusedVariables false
set_option maxHeartbeats 4000000
set_option maxRecDepth 100000
theorem fin84 {R : Ending → World → Prop} (tmps : Array Value) (W : World) (B : Nat) (x y z : QY) (p : Value) (t e r : Int) (hp : ∃ a n c, p = .slice a n c)
  (h4 : tmps.getD 4 undef = .pointer (some ⟨B, 0, none⟩)) (h5 : tmps.getD 5 undef = .int .i64 e) (h6 : tmps.getD 6 undef = .int .i64 r)
  (e1 : W.heap[B]? = some (.cells #[.string x, .string y, .string z, p, .slice none 0 0, .int .i64 t] 54 (0, 0)))
  (hR : R (.returned (.tuple #[.agg #[.string x, .string y, .string z, p, .slice none 0 0, .int .i64 t], .int .i64 e, .int .i64 r])) W) :
  bodyPost Tryz.prog Tryz.f86 R .ret { tmps := tmps, defers := [] } W := by
 obtain ⟨pa, pn, pc, rfl⟩ := hp;have r0 := qd 0 e1 rfl;have r1 := qd 1 e1 rfl;have r2 := qd 2 e1 rfl;have r3 := qd 3 e1 rfl;have r4 := qd 4 e1 rfl;have r5 := qd 5 e1 rfl;rw [Array.getD_eq_getD_getElem?] at h4 h5 h6;refine ⟨rfl, _, ?_, hR⟩;simp [results, Tryz.results86, go_sem, h4, h5, h6, r0, r1, r2, r3, r4, r5]
 try rfl
def blk (l : QB) (a : Nat) : Nat := a + qz 6 (l.drop a)
theorem qdh {l : QB} {a : Nat} (h : a ≤ l.length) : blk l a ≤ l.length := by
 unfold blk;have := qvk 6 (l.drop a);rw [List.length_drop] at this;omega
theorem Run6 (s : QY) (a : Nat) (hs : s.size ≤ 256) (ha : a ≤ s.size) (z : Int) (hz : z = (a : Int)) (w : World) :
  Calls Tryz.prog 28 #[.string s, .int .i64 z, .int .i64 6] w fun r w' => r = .returned (.int .i64 (blk s.data.toList a : Int)) ∧ w' = w := by
 subst hz;have := qpn s (a : Int) 6 w (by unfold maxLen; omega)
 rw [qlf s a 6 ha] at this;unfold blk;simpa using this
def qgh (l : QB) (a : Nat) : PartL × Int × Int := if blk l a = a then (qcz, (a : Int), misL l.length a) else rpL l (blk l a)
theorem qbtz (s : QY) (a : Nat) (w : World) (hs : s.size ≤ 256) (ha : a ≤ s.size) :
  Calls Tryz.prog 86 #[.string s, .int .i64 (a : Int)] w (PartP w (qgh s.data.toList a)) := by
 have R6 := qb (Run6 s a hs ha);have hle := qdh (l := s.data.toList) (a := a) (by rw [qh]; exact ha)
 rw [qh] at hle;have hX : qgh s.data.toList a = if blk s.data.toList a = a then (qcz, (a : Int), misL s.size a) else rpL s.data.toList (blk s.data.toList a) := by unfold qgh; rw [qh]
 have RP := qb (fun W => qkv s (blk s.data.toList a) W hs hle);have M := qb (fun W => qcl s a W);generalize blk s.data.toList a = b at *;generalize qgh s.data.toList a = X at *;have hr0 := qb (World.alloc_heap_new w (.cells #[.string ⟨#[]⟩, .string ⟨#[]⟩, .string ⟨#[]⟩, .slice none 0 0, .slice none 0 0, .int .i64 0] 54));have br0 := qb ((Below.refl _ w).alloc (Nat.le_refl _) (.cells #[.string ⟨#[]⟩, .string ⟨#[]⟩, .string ⟨#[]⟩, .slice none 0 0, .slice none 0 0, .int .i64 0] 54))
 by_cases hb : b = a
 ·rw [if_pos hb] at hX;subst hX hb;obtain ⟨f1, f2, f3, f4, f5, f6, c1, c2, c3, c4, c5, c6⟩ : (w.alloc (.cells #[.string ⟨#[]⟩, .string ⟨#[]⟩, .string ⟨#[]⟩, .slice none 0 0, .slice none 0 0, .int .i64 0] 54)).frozen? ⟨w.heap.size, 0, none⟩ = false ∧ (w.alloc (.cells #[.string ⟨#[]⟩, .string ⟨#[]⟩, .string ⟨#[]⟩, .slice none 0 0, .slice none 0 0, .int .i64 0] 54)).frozen? ⟨w.heap.size, 1, none⟩ = false ∧ (w.alloc (.cells #[.string ⟨#[]⟩, .string ⟨#[]⟩, .string ⟨#[]⟩, .slice none 0 0, .slice none 0 0, .int .i64 0] 54)).frozen? ⟨w.heap.size, 2, none⟩ = false ∧ (w.alloc (.cells #[.string ⟨#[]⟩, .string ⟨#[]⟩, .string ⟨#[]⟩, .slice none 0 0, .slice none 0 0, .int .i64 0] 54)).frozen? ⟨w.heap.size, 3, none⟩ = false ∧ (w.alloc (.cells #[.string ⟨#[]⟩, .string ⟨#[]⟩, .string ⟨#[]⟩, .slice none 0 0, .slice none 0 0, .int .i64 0] 54)).frozen? ⟨w.heap.size, 4, none⟩ = false ∧ (w.alloc (.cells #[.string ⟨#[]⟩, .string ⟨#[]⟩, .string ⟨#[]⟩, .slice none 0 0, .slice none 0 0, .int .i64 0] 54)).frozen? ⟨w.heap.size, 5, none⟩ = false ∧
   (w.alloc (.cells #[.string ⟨#[]⟩, .string ⟨#[]⟩, .string ⟨#[]⟩, .slice none 0 0, .slice none 0 0, .int .i64 0] 54)).cell? ⟨w.heap.size, 0, none⟩ = some (.string ⟨#[]⟩) ∧ (w.alloc (.cells #[.string ⟨#[]⟩, .string ⟨#[]⟩, .string ⟨#[]⟩, .slice none 0 0, .slice none 0 0, .int .i64 0] 54)).cell? ⟨w.heap.size, 1, none⟩ = some (.string ⟨#[]⟩) ∧ (w.alloc (.cells #[.string ⟨#[]⟩, .string ⟨#[]⟩, .string ⟨#[]⟩, .slice none 0 0, .slice none 0 0, .int .i64 0] 54)).cell? ⟨w.heap.size, 2, none⟩ = some (.string ⟨#[]⟩) ∧ (w.alloc (.cells #[.string ⟨#[]⟩, .string ⟨#[]⟩, .string ⟨#[]⟩, .slice none 0 0, .slice none 0 0, .int .i64 0] 54)).cell? ⟨w.heap.size, 3, none⟩ = some (.slice none 0 0) ∧ (w.alloc (.cells #[.string ⟨#[]⟩, .string ⟨#[]⟩, .string ⟨#[]⟩, .slice none 0 0, .slice none 0 0, .int .i64 0] 54)).cell? ⟨w.heap.size, 4, none⟩ = some (.slice none 0 0) ∧ (w.alloc (.cells #[.string ⟨#[]⟩, .string ⟨#[]⟩, .string ⟨#[]⟩, .slice none 0 0, .slice none 0 0, .int .i64 0] 54)).cell? ⟨w.heap.size, 5, none⟩ = some (.int .i64 0) :=
   ⟨qf 0 hr0.out, qf 1 hr0.out, qf 2 hr0.out, qf 3 hr0.out, qf 4 hr0.out, qf 5 hr0.out, qd 0 hr0.out rfl, qd 1 hr0.out rfl, qd 2 hr0.out rfl, qd 3 hr0.out rfl, qd 4 hr0.out rfl, qd 5 hr0.out rfl⟩
  go_enter Tryz.func86, Tryz.ntmps86
  (go_wp2_with fail);generalize w.alloc (.cells #[.string ⟨#[]⟩, .string ⟨#[]⟩, .string ⟨#[]⟩, .slice none 0 0, .slice none 0 0, .int .i64 0] 54) = W0 at *;refine (R6.out _ rfl _).mono ?_;rintro e w1 ⟨rfl, rfl⟩;(go_wp2_with fail);refine (M.out _).mono ?_;rintro e w2 ⟨rfl, rfl⟩;(go_wp2_with fail);exact fin84 _ _ w.heap.size _ _ _ _ _ _ _ ⟨_, _, _, rfl⟩ rfl rfl rfl (put6 _ _ _ _ _ _ hr0.out) ⟨qck br0.out _ _ _ _ _ _, _, rfl, qt _, (by rintro a i c h; cases h), (by rintro a n c h; cases h; exact Nat.le_refl _), _, _, _, rfl⟩
 ·rw [if_neg hb] at hX;have hbb : ((b : Int) == (a : Int)) = false := by simp; omega
  subst hX;clear hb;go_enter Tryz.func86, Tryz.ntmps86
  (go_wp2_with fail);generalize w.alloc (.cells #[.string ⟨#[]⟩, .string ⟨#[]⟩, .string ⟨#[]⟩, .slice none 0 0, .slice none 0 0, .int .i64 0] 54) = W0 at *;refine (R6.out _ rfl _).mono ?_;rintro e w1 ⟨rfl, rfl⟩;(go_wp2_with fail);refine (RP.out _).mono ?_;rintro e w2 ⟨hb2, v, rfl, t1, fr, cp, av, nv, cv, rfl⟩;have hlt := (Array.getElem?_eq_some_iff.1 hr0.out).1;have h2 := (hb2.block _ hlt).trans hr0.out;have HL := qb hlt;have H2 := qb h2;have BB := qb (br0.out.trans (hb2.mono br0.out.size));have T1 := qb t1;have FR := qb fr;have CP := qb cp;obtain ⟨f1, f2, f3, f4, f5, f6, c1, c2, c3, c4, c5, c6⟩ : w2.frozen? ⟨w.heap.size, 0, none⟩ = false ∧ w2.frozen? ⟨w.heap.size, 1, none⟩ = false ∧ w2.frozen? ⟨w.heap.size, 2, none⟩ = false ∧ w2.frozen? ⟨w.heap.size, 3, none⟩ = false ∧ w2.frozen? ⟨w.heap.size, 4, none⟩ = false ∧ w2.frozen? ⟨w.heap.size, 5, none⟩ = false ∧
   w2.cell? ⟨w.heap.size, 0, none⟩ = some (.string ⟨#[]⟩) ∧ w2.cell? ⟨w.heap.size, 1, none⟩ = some (.string ⟨#[]⟩) ∧ w2.cell? ⟨w.heap.size, 2, none⟩ = some (.string ⟨#[]⟩) ∧ w2.cell? ⟨w.heap.size, 3, none⟩ = some (.slice none 0 0) ∧ w2.cell? ⟨w.heap.size, 4, none⟩ = some (.slice none 0 0) ∧ w2.cell? ⟨w.heap.size, 5, none⟩ = some (.int .i64 0) :=
   ⟨qf 0 h2, qf 1 h2, qf 2 h2, qf 3 h2, qf 4 h2, qf 5 h2, qd 0 h2 rfl, qd 1 h2 rfl, qd 2 h2 rfl, qd 3 h2 rfl, qd 4 h2 rfl, qd 5 h2 rfl⟩
  clear h2 hlt t1 fr cp hb2 RP;generalize rpL s.data.toList b = X at *;unfold qjj
  try dsimp only
  (go_wp2_with fail);exact fin84 _ _ w.heap.size _ _ _ _ _ _ _ ⟨_, _, _, rfl⟩ rfl rfl rfl (put6 _ _ _ _ _ _ H2.out) ⟨qck BB.out _ _ _ _ _ _, _, rfl, txt6 T1.out FR.out HL.out _ _ _ _ _ _, qdn FR.out (by have := HL.out; omega), CP.out, _, _, _, rfl⟩
end Go.Proofs.YtpdlgiioahjhiaaGreat
