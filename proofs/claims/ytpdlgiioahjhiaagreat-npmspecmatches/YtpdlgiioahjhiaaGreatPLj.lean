/- Walks: the document's identifiers of a partial. -/
import Derived.Test.YtpdlgiioahjhiaaGreatPSd
import Derived.Test.YtpdlgiioahjhiaaGreatPLu
import Derived.Test.YtpdlgiioahjhiaaGreatPLm
namespace Go.Proofs.YtpdlgiioahjhiaaGreat
open Go.RowKit Go.Shelf
open List renaming length_append → qcgv
open Nat renaming lt_or_ge → qcfc
set_option linter.unusedVariables false
set_option maxHeartbeats 8000000
set_option maxRecDepth 100000
theorem qcbh (t : QY) (h : 0 < t.size) : (t.data.toList.head? == some 48) = ((t[0].toNat : Int) == 48) := by
 have h1 : t.data.toList.head? = some t[0] := by
  rw [List.head?_eq_getElem?, List.getElem?_eq_getElem (by rw [qh]; exact h)]
  rfl
 rw [h1];have := qzr t[0] 48;simpa using this
theorem qrj (pre : Bool) (B : Nat) (s : QY) (a p : Nat) (w : World) (h : NrAt w B s a 0 p) (ha : a ≤ s.size) (hs : s.size ≤ 256) (hp : p ≤ a) (haL : a ≤ p + 48) :
  Calls Tryz.prog 130 #[.pointer (some ⟨B, 0, none⟩), .bool pre] w (IdP s pre a B p w) := by
 obtain ⟨i0, hi, hz0, hz1, hz2⟩ := info_parts Tryz.info9;have hBs := h.lt;obtain ⟨c0, c1, c2, c3, f1, f2, f3⟩ := h.seen;have H := qb h;clear h;have HL := qb (qh s);go_enter Tryz.func130, Tryz.ntmps130
 (go_wp2_with fail);clear c0 c1 c2 c3 f1 f2 f3;go_loopw [5] (fun v wr => ∃ (done : List (Nat × Nat)) (k : Nat) (e : Int), a ≤ k ∧ k ≤ s.size ∧ done.length ≤ k ∧ Hid (NrAt wr B s k e p) ∧ Hid (e = 0 ∧ k ≤ p + 48 ∧ done ++ qp s.data.toList k = qp s.data.toList a ∧ qtj pre s.data.toList (p + 48) done ∨ e = 12 ∧ idsD pre s.data.toList (p + 48) (qp s.data.toList a) = (k, 12)) ∧ Hid (wr.ownsRow w.heap.size 9 1 v done.length (strs s done)) ∧ Hid (Turn B w wr)) (fun _ wr => (s.size - qrw wr B) * 2 + one0 (qbrz wr B))
 case atStart => exact ⟨[], a, 0, by omega, ha, by simp, H, .inl ⟨rfl, haL, rfl, fun x hx => by cases hx⟩, World.ownsRow_nil _ _ _ _, Turn.refl _ _⟩
 case round =>
  obtain ⟨done, k, e, hak, hk, hdl, HRk, HIe, HO, HTu0⟩ := hrel;obtain ⟨wo, rfl⟩ : ∃ wo : World, wo = wr := ⟨_, rfl⟩;obtain ⟨c0, c1, c2, c3, f1, f2, f3⟩ := HRk.out.seen;have HTu := HTu0.out;clear HTu0;rcases HIe.out with ⟨rfl, hkL, hD, hGd⟩ | ⟨rfl, h12⟩
  ·have HD := qb hD;have HGd := qb hGd;clear hD hGd HIe;(go_wp2_with fail);clear c0 c1 c2 c3 f1 f2 f3;go_loopw [] (fun wi => ∃ (j : Nat) (e : Int), k ≤ j ∧ j ≤ s.size ∧ Hid (NrAt wi B s j e p) ∧ Hid (Turn B wo wi) ∧ Hid (e = 0 ∧ j ≤ p + 48 ∧ k + idL (s.data.toList.drop k) = j + idL (s.data.toList.drop j) ∨ e = 12 ∧ j = p + 48 ∧ p + 48 < k + idL (s.data.toList.drop k))) (fun wi => (s.size - qrw wi B) * 2 + one0 (qbrz wi B))
   case atStart => exact ⟨k, 0, by omega, hk, HRk, Turn.refl _ _, .inl ⟨rfl, hkL, rfl⟩⟩
   case round =>
    obtain ⟨j, e, hkj, hj, HRj, HTi0, HIj⟩ := hrel;obtain ⟨c0, c1, c2, c3, f1, f2, f3⟩ := HRj.out.seen;have HTi := HTi0.out;clear HTi0;rcases HIj.out with ⟨rfl, hjL, hI⟩ | ⟨rfl, hjp, hlong⟩
    ·have HI := qb hI;clear hI HIj
     by_cases hl' : j < s.size
     ·have hd : decide ((j : Int) < (s.size : Int)) = true := decide_eq_true (by omega)
      have hd2 : decide (j < s.size) = true := decide_eq_true hl';have HC := qb (fun n => qbvh s[j] (wr.drewN n));cases hc : isId s[j]
      ·rw [hc] at HC;have hz : idL (s.data.toList.drop j) = 0 := qqt s j hl' hc;have HE := qb (show k + idL (s.data.toList.drop k) = j by have := HI.out; omega)
       clear hz hc;(go_wp2_with fail);go_quiet ((go_at_call 152; exact Calls.quiet_of_same (HC.out _)))
       clear HC;have R2 := qb (HRj.out.drewN nq);have T2 := qb (HTu.trans (HTi.trans (Turn.drewN B wr nq)));have O2 := qb (ql HO.out (HTi.trans (Turn.drewN B wr nq)) hBs);clear c0 c1 c2 c3 f1 f2 f3 HTi HRj;generalize wr.drewN nq = W2 at *;obtain ⟨c0, c1, c2, c3, f1, f2, f3⟩ := R2.out.seen;(go_wp2_with fail);go_quiet (fail)
       have R3 := qb (R2.out.drewN nq);have T3 := qb (T2.out.trans (Turn.drewN B W2 nq));have O3 := qb (ql O2.out (Turn.drewN B W2 nq) hBs);clear R2 T2 O2 c0 c1 c2 c3 f1 f2 f3;generalize W2.drewN nq = W3 at *;obtain ⟨c0, c1, c2, c3, f1, f2, f3⟩ := R3.out.seen;obtain ⟨t, ht⟩ : ∃ t, s.extract k j = t := ⟨_, rfl⟩;have HTe : Hid (s.extract k j = t) := ht;have HTd : Hid (t.data.toList = seg s.data.toList k j) := by
        show _ = _;rw [← ht, qfb]
       have HTs : Hid (t.size = j - k) := by
        show _ = _;rw [← qh t, HTd.out, qpw _ _ _ (by rw [qh]; exact hj)]
       rw [ht];clear ht;have hts : t.size ≤ 256 := by have := HTs.out; omega
       by_cases hkj' : k = j
       ·have HX := qb (qbsg HD.out HGd.out (by rw [HE.out, hkj']) hkL)
        have hem : t.toList.isEmpty = true := by rw [toL, HTd.out, hkj', qnx]; rfl
        clear HE;(go_wp2_with fail);refine (qgb B s j 0 p W3 R3.out hj).mono ?_;rintro r w1 ⟨rfl, h1, t1⟩;rw [qbj] at h1;(go_wp2_with fail);go_ret
        refine qmw HX.out (qch _ _) ?_ (T3.out.trans t1);rw [HL.out, hkj'];exact h1
       ·have HNe := qb (qbmf s k j (by omega) hj)
        have hem : t.toList.isEmpty = false := by
         rw [toL, HTd.out];cases h9 : seg s.data.toList k j with
         | nil => exact absurd h9 HNe.out
         | cons _ _ => rfl
        have ht0 : 0 < t.size := by have := HTs.out; omega
        have hkj3 : k < j := by omega
        clear hkj';cases pre
        ·have HG := qb (qkn (pre := false) HNe.out rfl);have hbase : w.heap.size ≤ W3.heap.size := T3.out.size;have hrow : u5.ownBlock ≠ some B := fun hx => by have := (O3.out.lt B hx).1; omega
         have hrow' : ∀ x, u5.ownBlock = some x → w.heap.size ≤ x := fun x hx => (O3.out.lt x hx).1;go_wp2_with (at_builtin; refine wpList_append_own _ rfl _ _ 31 rfl w.heap.size 9 i0 (.string .empty) 1 16 Tryz.underlying31 hi hz0 hz1 hz2 rfl (by decide) _ _ _ rfl (O3.out.alloc _) ⟨W3.heap.size, 0, none⟩ 1 1 [.string t] rfl rfl (qm _ _ _) (qbg _) (by unfold maxLen; omega) (by omega) (by simp; omega) ?_; intro v' w5 hown' hgrow _; obtain ⟨g', cap', rfl⟩ := ownsRow_succ hown')
         have R4 := qb (qkk (R3.out.alloc _) hgrow hrow);have T4 := qb (qdw (T3.out.alloc _) hgrow hrow');have O4 : Hid (w5.ownsRow w.heap.size 9 1 (.slice (some ⟨g', 0, none⟩) (done.length + 1) cap') (done ++ [(k, j)]).length (strs s (done ++ [(k, j)]))) := by
          show World.ownsRow _ _ _ _ _ _ _;rw [qfg, qcgv, HTe.out];exact hown'
         clear hown' hgrow;have HI4 := qb (qcp B s j 0 p 46 w5 R4.out);rw [show (decide ((0 : Int) = 0) && atB s.data.toList j 46) = atB s.data.toList j 46 by simp] at HI4
         cases hdot : atB s.data.toList j 46
         ·rw [hdot] at HI4;have HX := qb (qkq HD.out HGd.out HE.out hjL HG.out hdot);clear hdot;(go_wp2_with fail);refine HI4.out.mono ?_;rintro r w6 ⟨rfl, n6, rfl⟩;(go_wp2_with fail);go_ret
          exact qrp HX.out (ql O4.out (Turn.drewN B _ _) hBs) (R4.out.drewN _) (T4.out.trans (Turn.drewN B _ _))
         ·rw [hdot] at HI4;have hjl : j < s.size := by
           rcases qcfc j s.size with h | h
           ·exact h
           ·rw [qfc s j 46 (by omega)] at hdot; cases hdot
          by_cases hjx : j = p + 48
          ·have HX := qb (qms HD.out HGd.out HE.out hjx HG.out hdot);have hst := (qfs (a := j) (p := (p : Int)) 0 (by omega))
           have HSt := qb hst;clear hdot hst hjx;(go_wp2_with fail);refine HI4.out.mono ?_;rintro r w6 ⟨rfl, n6, rfl⟩;have R6 := qb (R4.out.drewN n6);have T6 := qb (T4.out.trans (Turn.drewN B _ n6));have O6 := qb (ql O4.out (Turn.drewN B _ n6) hBs);clear R4 T4 O4 HI4;generalize w5.drewN n6 = w6 at *;(go_wp2_with fail);refine (qbc B s j 0 p _ R6.out (by omega) (by omega)).mono ?_
           rintro r w7 ⟨rfl, h7, t7⟩;rw [HSt.out.1, HSt.out.2, qbj] at h7;have H7 := qb h7;have T7 := qb (T6.out.trans t7);have O7 := qb (ql O6.out t7 hBs);clear h7 t7;(go_wp2_with fail);go_roundw
           case rel => exact ⟨done ++ [(k, j)], j, 12, by omega, by omega, by simp; omega, H7, .inr ⟨rfl, HX.out⟩, O7, T7⟩
           case measure => rw [H7.out.rplace, H7.out.rerr, HRk.out.rplace, HRk.out.rerr, qmq (by decide), qmc]; omega
          ·have HX := qb (qkr HD.out HGd.out HE.out (by omega) HG.out hdot)
           have hst := (qfp (a := j) (p := (p : Int)) 0 (by omega))
           have HSt := qb hst;clear hdot hst;(go_wp2_with fail);refine HI4.out.mono ?_;rintro r w6 ⟨rfl, n6, rfl⟩;have R6 := qb (R4.out.drewN n6);have T6 := qb (T4.out.trans (Turn.drewN B _ n6));have O6 := qb (ql O4.out (Turn.drewN B _ n6) hBs);clear R4 T4 O4 HI4;generalize w5.drewN n6 = w6 at *;(go_wp2_with fail);refine (qbc B s j 0 p _ R6.out (by omega) (by omega)).mono ?_
           rintro r w7 ⟨rfl, h7, t7⟩;rw [HSt.out.1, HSt.out.2] at h7;have H7 := qb h7;have T7 := qb (T6.out.trans t7);have O7 := qb (ql O6.out t7 hBs);clear h7 t7;(go_wp2_with fail);go_roundw
           case rel => exact ⟨done ++ [(k, j)], j + 1, 0, by omega, by omega, by simp; omega, H7, .inl ⟨rfl, by omega, HX.out.1, HX.out.2⟩, O7, T7⟩
           case measure => rw [H7.out.rplace, H7.out.rerr, HRk.out.rplace, HRk.out.rerr]; omega
        ·have HDg := qb (qxj t W3 (by unfold maxLen; omega))
         have HZq := qb (qbrm (seg s.data.toList k j) HNe.out);rw [← HTd.out] at HZq;rw [qh] at HZq;have hhd : (t.data.toList.head? == some 48) = ((t[0].toNat : Int) == 48) := by
          exact qcbh t ht0
         rw [hhd] at HZq;clear hhd;cases hdg : decide (qz 1 t.data.toList = t.size)
         ·rw [hdg] at HDg HZq;clear hdg;have HG := qb (qkn (pre := true) HNe.out (by rw [← HTd.out, HZq.out]; rfl))
          clear HZq;(go_wp2_with fail);refine HDg.out.mono ?_;rintro r w1 ⟨rfl, hw1⟩;rw [hw1];clear hw1 w1;have hbase : w.heap.size ≤ W3.heap.size := T3.out.size;have hrow : u5.ownBlock ≠ some B := fun hx => by have := (O3.out.lt B hx).1; omega
          have hrow' : ∀ x, u5.ownBlock = some x → w.heap.size ≤ x := fun x hx => (O3.out.lt x hx).1;go_wp2_with (at_builtin; refine wpList_append_own _ rfl _ _ 31 rfl w.heap.size 9 i0 (.string .empty) 1 16 Tryz.underlying31 hi hz0 hz1 hz2 rfl (by decide) _ _ _ rfl (O3.out.alloc _) ⟨W3.heap.size, 0, none⟩ 1 1 [.string t] rfl rfl (qm _ _ _) (qbg _) (by unfold maxLen; omega) (by omega) (by simp; omega) ?_; intro v' w5 hown' hgrow _; obtain ⟨g', cap', rfl⟩ := ownsRow_succ hown')
          have R4 := qb (qkk (R3.out.alloc _) hgrow hrow);have T4 := qb (qdw (T3.out.alloc _) hgrow hrow');have O4 : Hid (w5.ownsRow w.heap.size 9 1 (.slice (some ⟨g', 0, none⟩) (done.length + 1) cap') (done ++ [(k, j)]).length (strs s (done ++ [(k, j)]))) := by
           show World.ownsRow _ _ _ _ _ _ _;rw [qfg, qcgv, HTe.out];exact hown'
          clear hown' hgrow;have HI4 := qb (qcp B s j 0 p 46 w5 R4.out);rw [show (decide ((0 : Int) = 0) && atB s.data.toList j 46) = atB s.data.toList j 46 by simp] at HI4
          cases hdot : atB s.data.toList j 46
          ·rw [hdot] at HI4;have HX := qb (qkq HD.out HGd.out HE.out hjL HG.out hdot);clear hdot;(go_wp2_with fail);refine HI4.out.mono ?_;rintro r w6 ⟨rfl, n6, rfl⟩;(go_wp2_with fail);go_ret
           exact qrp HX.out (ql O4.out (Turn.drewN B _ _) hBs) (R4.out.drewN _) (T4.out.trans (Turn.drewN B _ _))
          ·rw [hdot] at HI4;have hjl : j < s.size := by
            rcases qcfc j s.size with h | h
            ·exact h
            ·rw [qfc s j 46 (by omega)] at hdot; cases hdot
           by_cases hjx : j = p + 48
           ·have HX := qb (qms HD.out HGd.out HE.out hjx HG.out hdot);have hst := (qfs (a := j) (p := (p : Int)) 0 (by omega))
            have HSt := qb hst;clear hdot hst hjx;(go_wp2_with fail);refine HI4.out.mono ?_;rintro r w6 ⟨rfl, n6, rfl⟩;have R6 := qb (R4.out.drewN n6);have T6 := qb (T4.out.trans (Turn.drewN B _ n6));have O6 := qb (ql O4.out (Turn.drewN B _ n6) hBs);clear R4 T4 O4 HI4;generalize w5.drewN n6 = w6 at *;(go_wp2_with fail);refine (qbc B s j 0 p _ R6.out (by omega) (by omega)).mono ?_
            rintro r w7 ⟨rfl, h7, t7⟩;rw [HSt.out.1, HSt.out.2, qbj] at h7;have H7 := qb h7;have T7 := qb (T6.out.trans t7);have O7 := qb (ql O6.out t7 hBs);clear h7 t7;(go_wp2_with fail);go_roundw
            case rel => exact ⟨done ++ [(k, j)], j, 12, by omega, by omega, by simp; omega, H7, .inr ⟨rfl, HX.out⟩, O7, T7⟩
            case measure => rw [H7.out.rplace, H7.out.rerr, HRk.out.rplace, HRk.out.rerr, qmq (by decide), qmc]; omega
           ·have HX := qb (qkr HD.out HGd.out HE.out (by omega) HG.out hdot)
            have hst := (qfp (a := j) (p := (p : Int)) 0 (by omega))
            have HSt := qb hst;clear hdot hst;(go_wp2_with fail);refine HI4.out.mono ?_;rintro r w6 ⟨rfl, n6, rfl⟩;have R6 := qb (R4.out.drewN n6);have T6 := qb (T4.out.trans (Turn.drewN B _ n6));have O6 := qb (ql O4.out (Turn.drewN B _ n6) hBs);clear R4 T4 O4 HI4;generalize w5.drewN n6 = w6 at *;(go_wp2_with fail);refine (qbc B s j 0 p _ R6.out (by omega) (by omega)).mono ?_
            rintro r w7 ⟨rfl, h7, t7⟩;rw [HSt.out.1, HSt.out.2] at h7;have H7 := qb h7;have T7 := qb (T6.out.trans t7);have O7 := qb (ql O6.out t7 hBs);clear h7 t7;(go_wp2_with fail);go_roundw
            case rel => exact ⟨done ++ [(k, j)], j + 1, 0, by omega, by omega, by simp; omega, H7, .inl ⟨rfl, by omega, HX.out.1, HX.out.2⟩, O7, T7⟩
            case measure => rw [H7.out.rplace, H7.out.rerr, HRk.out.rplace, HRk.out.rerr]; omega
         ·rw [hdg] at HDg HZq;clear hdg;cases hz48 : ((t[0].toNat : Int) == 48)
          ·rw [hz48] at HZq;have HG := qb (qkn (pre := true) HNe.out (by rw [← HTd.out, HZq.out]; rfl))
           clear HZq;(go_wp2_with fail);refine HDg.out.mono ?_;rintro r w1 ⟨rfl, hw1⟩;rw [hw1];clear hw1 w1;have hbase : w.heap.size ≤ W3.heap.size := T3.out.size;have hrow : u5.ownBlock ≠ some B := fun hx => by have := (O3.out.lt B hx).1; omega
           have hrow' : ∀ x, u5.ownBlock = some x → w.heap.size ≤ x := fun x hx => (O3.out.lt x hx).1;go_wp2_with (at_builtin; refine wpList_append_own _ rfl _ _ 31 rfl w.heap.size 9 i0 (.string .empty) 1 16 Tryz.underlying31 hi hz0 hz1 hz2 rfl (by decide) _ _ _ rfl (O3.out.alloc _) ⟨W3.heap.size, 0, none⟩ 1 1 [.string t] rfl rfl (qm _ _ _) (qbg _) (by unfold maxLen; omega) (by omega) (by simp; omega) ?_; intro v' w5 hown' hgrow _; obtain ⟨g', cap', rfl⟩ := ownsRow_succ hown')
           have R4 := qb (qkk (R3.out.alloc _) hgrow hrow);have T4 := qb (qdw (T3.out.alloc _) hgrow hrow');have O4 : Hid (w5.ownsRow w.heap.size 9 1 (.slice (some ⟨g', 0, none⟩) (done.length + 1) cap') (done ++ [(k, j)]).length (strs s (done ++ [(k, j)]))) := by
            show World.ownsRow _ _ _ _ _ _ _;rw [qfg, qcgv, HTe.out];exact hown'
           clear hown' hgrow;have HI4 := qb (qcp B s j 0 p 46 w5 R4.out);rw [show (decide ((0 : Int) = 0) && atB s.data.toList j 46) = atB s.data.toList j 46 by simp] at HI4
           cases hdot : atB s.data.toList j 46
           ·rw [hdot] at HI4;have HX := qb (qkq HD.out HGd.out HE.out hjL HG.out hdot);clear hdot;(go_wp2_with fail);refine HI4.out.mono ?_;rintro r w6 ⟨rfl, n6, rfl⟩;(go_wp2_with fail);go_ret
            exact qrp HX.out (ql O4.out (Turn.drewN B _ _) hBs) (R4.out.drewN _) (T4.out.trans (Turn.drewN B _ _))
           ·rw [hdot] at HI4;have hjl : j < s.size := by
             rcases qcfc j s.size with h | h
             ·exact h
             ·rw [qfc s j 46 (by omega)] at hdot; cases hdot
            by_cases hjx : j = p + 48
            ·have HX := qb (qms HD.out HGd.out HE.out hjx HG.out hdot);have hst := (qfs (a := j) (p := (p : Int)) 0 (by omega))
             have HSt := qb hst;clear hdot hst hjx;(go_wp2_with fail);refine HI4.out.mono ?_;rintro r w6 ⟨rfl, n6, rfl⟩;have R6 := qb (R4.out.drewN n6);have T6 := qb (T4.out.trans (Turn.drewN B _ n6));have O6 := qb (ql O4.out (Turn.drewN B _ n6) hBs);clear R4 T4 O4 HI4;generalize w5.drewN n6 = w6 at *;(go_wp2_with fail);refine (qbc B s j 0 p _ R6.out (by omega) (by omega)).mono ?_
             rintro r w7 ⟨rfl, h7, t7⟩;rw [HSt.out.1, HSt.out.2, qbj] at h7;have H7 := qb h7;have T7 := qb (T6.out.trans t7);have O7 := qb (ql O6.out t7 hBs);clear h7 t7;(go_wp2_with fail);go_roundw
             case rel => exact ⟨done ++ [(k, j)], j, 12, by omega, by omega, by simp; omega, H7, .inr ⟨rfl, HX.out⟩, O7, T7⟩
             case measure => rw [H7.out.rplace, H7.out.rerr, HRk.out.rplace, HRk.out.rerr, qmq (by decide), qmc]; omega
            ·have HX := qb (qkr HD.out HGd.out HE.out (by omega) HG.out hdot)
             have hst := (qfp (a := j) (p := (p : Int)) 0 (by omega))
             have HSt := qb hst;clear hdot hst;(go_wp2_with fail);refine HI4.out.mono ?_;rintro r w6 ⟨rfl, n6, rfl⟩;have R6 := qb (R4.out.drewN n6);have T6 := qb (T4.out.trans (Turn.drewN B _ n6));have O6 := qb (ql O4.out (Turn.drewN B _ n6) hBs);clear R4 T4 O4 HI4;generalize w5.drewN n6 = w6 at *;(go_wp2_with fail);refine (qbc B s j 0 p _ R6.out (by omega) (by omega)).mono ?_
             rintro r w7 ⟨rfl, h7, t7⟩;rw [HSt.out.1, HSt.out.2] at h7;have H7 := qb h7;have T7 := qb (T6.out.trans t7);have O7 := qb (ql O6.out t7 hBs);clear h7 t7;(go_wp2_with fail);go_roundw
             case rel => exact ⟨done ++ [(k, j)], j + 1, 0, by omega, by omega, by simp; omega, H7, .inl ⟨rfl, by omega, HX.out.1, HX.out.2⟩, O7, T7⟩
             case measure => rw [H7.out.rplace, H7.out.rerr, HRk.out.rplace, HRk.out.rerr]; omega
          ·rw [hz48] at HZq
           by_cases hlg : 1 < t.size
           ·have hl1 : decide (1 < t.size) = true := decide_eq_true hlg;have hl2 : decide ((1 : Int) < (t.size : Int)) = true := decide_eq_true (by omega)
            rw [hl1] at HZq;have HX := qb (qbrr HD.out HGd.out HE.out hjL HNe.out (by rw [← HTd.out]; exact HZq.out))
            clear HZq hlg;(go_wp2_with fail);refine HDg.out.mono ?_;rintro r w1 ⟨rfl, hw1⟩;rw [hw1];clear hw1 w1
            by_cases hjs : s.size ≤ j
            ·have hd1 : decide ((s.size : Int) ≤ (j : Int)) = true := decide_eq_true (by omega)
             have hd2 : decide (s.size ≤ j) = true := decide_eq_true hjs;have HX2 : Hid (idsD true s.data.toList (p + 48) (qp s.data.toList a) = (j, 11)) := by
              show _ = _;rw [HX.out, if_pos (by rw [HL.out]; exact hjs)]
             (go_wp2_with fail);have R2 := R3;have T2 := T3;have O2 := O3;clear R3 T3 O3;generalize W3 = W2 at *;go_quiet (fail)
             have R3 := qb (R2.out.drewN nq);have T3 := qb (T2.out.trans (Turn.drewN B W2 nq));have O3 := qb (ql O2.out (Turn.drewN B W2 nq) hBs);clear R2 T2 O2 c0 c1 c2 c3 f1 f2 f3;generalize W2.drewN nq = W3 at *;obtain ⟨c0, c1, c2, c3, f1, f2, f3⟩ := R3.out.seen;(go_wp2_with fail);refine (qcr B s j 0 p 11 _ R3.out).mono ?_;rintro r w7 ⟨rfl, h7, t7⟩;rw [qbj] at h7;(go_wp2_with fail);refine (qcr B s j 11 p 14 _ h7).mono ?_;rintro r w8 ⟨rfl, h8, t8⟩;rw [qwj _ (by decide)] at h8
             (go_wp2_with fail);go_ret
             exact qmw HX2.out (by decide) h8 (T3.out.trans (t7.trans t8))
            ·have hd1 : decide ((s.size : Int) ≤ (j : Int)) = false := decide_eq_false (by omega)
             have hd2 : decide (s.size ≤ j) = false := decide_eq_false hjs;have HX2 : Hid (idsD true s.data.toList (p + 48) (qp s.data.toList a) = (j, 14)) := by
              show _ = _;rw [HX.out, if_neg (by rw [HL.out]; exact hjs)]
             (go_wp2_with fail);have R2 := R3;have T2 := T3;have O2 := O3;clear R3 T3 O3;generalize W3 = W2 at *;go_quiet (fail)
             have R3 := qb (R2.out.drewN nq);have T3 := qb (T2.out.trans (Turn.drewN B W2 nq));have O3 := qb (ql O2.out (Turn.drewN B W2 nq) hBs);clear R2 T2 O2 c0 c1 c2 c3 f1 f2 f3;generalize W2.drewN nq = W3 at *;obtain ⟨c0, c1, c2, c3, f1, f2, f3⟩ := R3.out.seen;(go_wp2_with fail);refine (qcr B s j 0 p 14 _ R3.out).mono ?_;rintro r w7 ⟨rfl, h7, t7⟩;rw [qbj] at h7;(go_wp2_with fail);go_ret
             exact qmw HX2.out (by decide) h7 (T3.out.trans t7)
           ·have hl1 : decide (1 < t.size) = false := decide_eq_false hlg;have hl2 : decide ((1 : Int) < (t.size : Int)) = false := decide_eq_false (by omega)
            rw [hl1] at HZq;clear hlg;have HG := qb (qkn (pre := true) HNe.out (by rw [← HTd.out, HZq.out]; rfl))
            clear HZq;(go_wp2_with fail);refine HDg.out.mono ?_;rintro r w1 ⟨rfl, hw1⟩;rw [hw1];clear hw1 w1;have hbase : w.heap.size ≤ W3.heap.size := T3.out.size;have hrow : u5.ownBlock ≠ some B := fun hx => by have := (O3.out.lt B hx).1; omega
            have hrow' : ∀ x, u5.ownBlock = some x → w.heap.size ≤ x := fun x hx => (O3.out.lt x hx).1;go_wp2_with (at_builtin; refine wpList_append_own _ rfl _ _ 31 rfl w.heap.size 9 i0 (.string .empty) 1 16 Tryz.underlying31 hi hz0 hz1 hz2 rfl (by decide) _ _ _ rfl (O3.out.alloc _) ⟨W3.heap.size, 0, none⟩ 1 1 [.string t] rfl rfl (qm _ _ _) (qbg _) (by unfold maxLen; omega) (by omega) (by simp; omega) ?_; intro v' w5 hown' hgrow _; obtain ⟨g', cap', rfl⟩ := ownsRow_succ hown')
            have R4 := qb (qkk (R3.out.alloc _) hgrow hrow);have T4 := qb (qdw (T3.out.alloc _) hgrow hrow');have O4 : Hid (w5.ownsRow w.heap.size 9 1 (.slice (some ⟨g', 0, none⟩) (done.length + 1) cap') (done ++ [(k, j)]).length (strs s (done ++ [(k, j)]))) := by
             show World.ownsRow _ _ _ _ _ _ _;rw [qfg, qcgv, HTe.out];exact hown'
            clear hown' hgrow;have HI4 := qb (qcp B s j 0 p 46 w5 R4.out);rw [show (decide ((0 : Int) = 0) && atB s.data.toList j 46) = atB s.data.toList j 46 by simp] at HI4
            cases hdot : atB s.data.toList j 46
            ·rw [hdot] at HI4;have HX := qb (qkq HD.out HGd.out HE.out hjL HG.out hdot);clear hdot;(go_wp2_with fail);refine HI4.out.mono ?_;rintro r w6 ⟨rfl, n6, rfl⟩;(go_wp2_with fail);go_ret
             exact qrp HX.out (ql O4.out (Turn.drewN B _ _) hBs) (R4.out.drewN _) (T4.out.trans (Turn.drewN B _ _))
            ·rw [hdot] at HI4;have hjl : j < s.size := by
              rcases qcfc j s.size with h | h
              ·exact h
              ·rw [qfc s j 46 (by omega)] at hdot; cases hdot
             by_cases hjx : j = p + 48
             ·have HX := qb (qms HD.out HGd.out HE.out hjx HG.out hdot);have hst := (qfs (a := j) (p := (p : Int)) 0 (by omega))
              have HSt := qb hst;clear hdot hst hjx;(go_wp2_with fail);refine HI4.out.mono ?_;rintro r w6 ⟨rfl, n6, rfl⟩;have R6 := qb (R4.out.drewN n6);have T6 := qb (T4.out.trans (Turn.drewN B _ n6));have O6 := qb (ql O4.out (Turn.drewN B _ n6) hBs);clear R4 T4 O4 HI4;generalize w5.drewN n6 = w6 at *;(go_wp2_with fail);refine (qbc B s j 0 p _ R6.out (by omega) (by omega)).mono ?_
              rintro r w7 ⟨rfl, h7, t7⟩;rw [HSt.out.1, HSt.out.2, qbj] at h7;have H7 := qb h7;have T7 := qb (T6.out.trans t7);have O7 := qb (ql O6.out t7 hBs);clear h7 t7;(go_wp2_with fail);go_roundw
              case rel => exact ⟨done ++ [(k, j)], j, 12, by omega, by omega, by simp; omega, H7, .inr ⟨rfl, HX.out⟩, O7, T7⟩
              case measure => rw [H7.out.rplace, H7.out.rerr, HRk.out.rplace, HRk.out.rerr, qmq (by decide), qmc]; omega
             ·have HX := qb (qkr HD.out HGd.out HE.out (by omega) HG.out hdot)
              have hst := (qfp (a := j) (p := (p : Int)) 0 (by omega))
              have HSt := qb hst;clear hdot hst;(go_wp2_with fail);refine HI4.out.mono ?_;rintro r w6 ⟨rfl, n6, rfl⟩;have R6 := qb (R4.out.drewN n6);have T6 := qb (T4.out.trans (Turn.drewN B _ n6));have O6 := qb (ql O4.out (Turn.drewN B _ n6) hBs);clear R4 T4 O4 HI4;generalize w5.drewN n6 = w6 at *;(go_wp2_with fail);refine (qbc B s j 0 p _ R6.out (by omega) (by omega)).mono ?_
              rintro r w7 ⟨rfl, h7, t7⟩;rw [HSt.out.1, HSt.out.2] at h7;have H7 := qb h7;have T7 := qb (T6.out.trans t7);have O7 := qb (ql O6.out t7 hBs);clear h7 t7;(go_wp2_with fail);go_roundw
              case rel => exact ⟨done ++ [(k, j)], j + 1, 0, by omega, by omega, by simp; omega, H7, .inl ⟨rfl, by omega, HX.out.1, HX.out.2⟩, O7, T7⟩
              case measure => rw [H7.out.rplace, H7.out.rerr, HRk.out.rplace, HRk.out.rerr]; omega
      ·rw [hc] at HC;have HH := qb (qpt s j hl' hc);clear hc;(go_wp2_with fail);go_quiet ((go_at_call 152; exact Calls.quiet_of_same (HC.out _)))
       have H2 := qb (HRj.out.drewN nq);have hT := qb (HTi.trans (Turn.drewN B wr nq));have hM := qb HRj.out.rplace;have hME := qb HRj.out.rerr;clear c0 c1 c2 c3 f1 f2 f3 HTi;generalize wr.drewN nq = W2 at *;(go_wp2_with fail);refine (qbc B s j 0 p _ H2.out (by omega) (by omega)).mono ?_
       rintro r w3 ⟨rfl, h3, t3⟩;have HT3 := qb (hT.out.trans t3);clear t3
       by_cases hlong : j = p + 48
       ·rw [(qfs 0 (by omega)).1, (qfs 0 (by omega)).2, qbj] at h3
        have H3 := qb h3;clear h3;(go_wp2_with fail);go_roundw
        case rel => exact ⟨j, 12, hkj, hj, H3, HT3, .inr ⟨rfl, hlong, by have := HI.out; have := HH.out; omega⟩⟩
        case measure => rw [H3.out.rplace, H3.out.rerr, hM.out, hME.out, qmq (by decide), qmc]; omega
       ·rw [(qfp 0 (by omega)).1, (qfp 0 (by omega)).2] at h3
        have H3 := qb h3;clear h3;(go_wp2_with fail);go_roundw
        case rel => exact ⟨j + 1, 0, by omega, by omega, H3, HT3, .inl ⟨rfl, by omega, by have := HI.out; have := HH.out; omega⟩⟩
        case measure => rw [H3.out.rplace, H3.out.rerr, hM.out, hME.out]; omega
     ·have hd : decide ((j : Int) < (s.size : Int)) = false := decide_eq_false (by omega)
      have hd2 : decide (j < s.size) = false := decide_eq_false hl';have hz : idL (s.data.toList.drop j) = 0 := qsz s j (by omega)
      have HE := qb (show k + idL (s.data.toList.drop k) = j by have := HI.out; omega)
      clear hz;(go_wp2_with fail);go_quiet (fail)
      have R2 := qb (HRj.out.drewN nq);have T2 := qb (HTu.trans (HTi.trans (Turn.drewN B wr nq)));have O2 := qb (ql HO.out (HTi.trans (Turn.drewN B wr nq)) hBs);clear c0 c1 c2 c3 f1 f2 f3 HTi HRj;generalize wr.drewN nq = W2 at *;obtain ⟨c0, c1, c2, c3, f1, f2, f3⟩ := R2.out.seen;(go_wp2_with fail);go_quiet (fail)
      have R3 := qb (R2.out.drewN nq);have T3 := qb (T2.out.trans (Turn.drewN B W2 nq));have O3 := qb (ql O2.out (Turn.drewN B W2 nq) hBs);clear R2 T2 O2 c0 c1 c2 c3 f1 f2 f3;generalize W2.drewN nq = W3 at *;obtain ⟨c0, c1, c2, c3, f1, f2, f3⟩ := R3.out.seen;obtain ⟨t, ht⟩ : ∃ t, s.extract k j = t := ⟨_, rfl⟩;have HTe : Hid (s.extract k j = t) := ht;have HTd : Hid (t.data.toList = seg s.data.toList k j) := by
       show _ = _;rw [← ht, qfb]
      have HTs : Hid (t.size = j - k) := by
       show _ = _;rw [← qh t, HTd.out, qpw _ _ _ (by rw [qh]; exact hj)]
      rw [ht];clear ht;have hts : t.size ≤ 256 := by have := HTs.out; omega
      by_cases hkj' : k = j
      ·have HX := qb (qbsg HD.out HGd.out (by rw [HE.out, hkj']) hkL)
       have hem : t.toList.isEmpty = true := by rw [toL, HTd.out, hkj', qnx]; rfl
       clear HE;(go_wp2_with fail);refine (qgb B s j 0 p W3 R3.out hj).mono ?_;rintro r w1 ⟨rfl, h1, t1⟩;rw [qbj] at h1;(go_wp2_with fail);go_ret
       refine qmw HX.out (qch _ _) ?_ (T3.out.trans t1);rw [HL.out, hkj'];exact h1
      ·have HNe := qb (qbmf s k j (by omega) hj)
       have hem : t.toList.isEmpty = false := by
        rw [toL, HTd.out];cases h9 : seg s.data.toList k j with
        | nil => exact absurd h9 HNe.out
        | cons _ _ => rfl
       have ht0 : 0 < t.size := by have := HTs.out; omega
       have hkj3 : k < j := by omega
       clear hkj';cases pre
       ·have HG := qb (qkn (pre := false) HNe.out rfl);have hbase : w.heap.size ≤ W3.heap.size := T3.out.size;have hrow : u5.ownBlock ≠ some B := fun hx => by have := (O3.out.lt B hx).1; omega
        have hrow' : ∀ x, u5.ownBlock = some x → w.heap.size ≤ x := fun x hx => (O3.out.lt x hx).1;go_wp2_with (at_builtin; refine wpList_append_own _ rfl _ _ 31 rfl w.heap.size 9 i0 (.string .empty) 1 16 Tryz.underlying31 hi hz0 hz1 hz2 rfl (by decide) _ _ _ rfl (O3.out.alloc _) ⟨W3.heap.size, 0, none⟩ 1 1 [.string t] rfl rfl (qm _ _ _) (qbg _) (by unfold maxLen; omega) (by omega) (by simp; omega) ?_; intro v' w5 hown' hgrow _; obtain ⟨g', cap', rfl⟩ := ownsRow_succ hown')
        have R4 := qb (qkk (R3.out.alloc _) hgrow hrow);have T4 := qb (qdw (T3.out.alloc _) hgrow hrow');have O4 : Hid (w5.ownsRow w.heap.size 9 1 (.slice (some ⟨g', 0, none⟩) (done.length + 1) cap') (done ++ [(k, j)]).length (strs s (done ++ [(k, j)]))) := by
         show World.ownsRow _ _ _ _ _ _ _;rw [qfg, qcgv, HTe.out];exact hown'
        clear hown' hgrow;have HI4 := qb (qcp B s j 0 p 46 w5 R4.out);rw [show (decide ((0 : Int) = 0) && atB s.data.toList j 46) = atB s.data.toList j 46 by simp] at HI4
        cases hdot : atB s.data.toList j 46
        ·rw [hdot] at HI4;have HX := qb (qkq HD.out HGd.out HE.out hjL HG.out hdot);clear hdot;(go_wp2_with fail);refine HI4.out.mono ?_;rintro r w6 ⟨rfl, n6, rfl⟩;(go_wp2_with fail);go_ret
         exact qrp HX.out (ql O4.out (Turn.drewN B _ _) hBs) (R4.out.drewN _) (T4.out.trans (Turn.drewN B _ _))
        ·rw [hdot] at HI4;have hjl : j < s.size := by
          rcases qcfc j s.size with h | h
          ·exact h
          ·rw [qfc s j 46 (by omega)] at hdot; cases hdot
         by_cases hjx : j = p + 48
         ·have HX := qb (qms HD.out HGd.out HE.out hjx HG.out hdot);have hst := (qfs (a := j) (p := (p : Int)) 0 (by omega))
          have HSt := qb hst;clear hdot hst hjx;(go_wp2_with fail);refine HI4.out.mono ?_;rintro r w6 ⟨rfl, n6, rfl⟩;have R6 := qb (R4.out.drewN n6);have T6 := qb (T4.out.trans (Turn.drewN B _ n6));have O6 := qb (ql O4.out (Turn.drewN B _ n6) hBs);clear R4 T4 O4 HI4;generalize w5.drewN n6 = w6 at *;(go_wp2_with fail);refine (qbc B s j 0 p _ R6.out (by omega) (by omega)).mono ?_
          rintro r w7 ⟨rfl, h7, t7⟩;rw [HSt.out.1, HSt.out.2, qbj] at h7;have H7 := qb h7;have T7 := qb (T6.out.trans t7);have O7 := qb (ql O6.out t7 hBs);clear h7 t7;(go_wp2_with fail);go_roundw
          case rel => exact ⟨done ++ [(k, j)], j, 12, by omega, by omega, by simp; omega, H7, .inr ⟨rfl, HX.out⟩, O7, T7⟩
          case measure => rw [H7.out.rplace, H7.out.rerr, HRk.out.rplace, HRk.out.rerr, qmq (by decide), qmc]; omega
         ·have HX := qb (qkr HD.out HGd.out HE.out (by omega) HG.out hdot)
          have hst := (qfp (a := j) (p := (p : Int)) 0 (by omega))
          have HSt := qb hst;clear hdot hst;(go_wp2_with fail);refine HI4.out.mono ?_;rintro r w6 ⟨rfl, n6, rfl⟩;have R6 := qb (R4.out.drewN n6);have T6 := qb (T4.out.trans (Turn.drewN B _ n6));have O6 := qb (ql O4.out (Turn.drewN B _ n6) hBs);clear R4 T4 O4 HI4;generalize w5.drewN n6 = w6 at *;(go_wp2_with fail);refine (qbc B s j 0 p _ R6.out (by omega) (by omega)).mono ?_
          rintro r w7 ⟨rfl, h7, t7⟩;rw [HSt.out.1, HSt.out.2] at h7;have H7 := qb h7;have T7 := qb (T6.out.trans t7);have O7 := qb (ql O6.out t7 hBs);clear h7 t7;(go_wp2_with fail);go_roundw
          case rel => exact ⟨done ++ [(k, j)], j + 1, 0, by omega, by omega, by simp; omega, H7, .inl ⟨rfl, by omega, HX.out.1, HX.out.2⟩, O7, T7⟩
          case measure => rw [H7.out.rplace, H7.out.rerr, HRk.out.rplace, HRk.out.rerr]; omega
       ·have HDg := qb (qxj t W3 (by unfold maxLen; omega))
        have HZq := qb (qbrm (seg s.data.toList k j) HNe.out);rw [← HTd.out] at HZq;rw [qh] at HZq;have hhd : (t.data.toList.head? == some 48) = ((t[0].toNat : Int) == 48) := by
         exact qcbh t ht0
        rw [hhd] at HZq;clear hhd;cases hdg : decide (qz 1 t.data.toList = t.size)
        ·rw [hdg] at HDg HZq;clear hdg;have HG := qb (qkn (pre := true) HNe.out (by rw [← HTd.out, HZq.out]; rfl))
         clear HZq;(go_wp2_with fail);refine HDg.out.mono ?_;rintro r w1 ⟨rfl, hw1⟩;rw [hw1];clear hw1 w1;have hbase : w.heap.size ≤ W3.heap.size := T3.out.size;have hrow : u5.ownBlock ≠ some B := fun hx => by have := (O3.out.lt B hx).1; omega
         have hrow' : ∀ x, u5.ownBlock = some x → w.heap.size ≤ x := fun x hx => (O3.out.lt x hx).1;go_wp2_with (at_builtin; refine wpList_append_own _ rfl _ _ 31 rfl w.heap.size 9 i0 (.string .empty) 1 16 Tryz.underlying31 hi hz0 hz1 hz2 rfl (by decide) _ _ _ rfl (O3.out.alloc _) ⟨W3.heap.size, 0, none⟩ 1 1 [.string t] rfl rfl (qm _ _ _) (qbg _) (by unfold maxLen; omega) (by omega) (by simp; omega) ?_; intro v' w5 hown' hgrow _; obtain ⟨g', cap', rfl⟩ := ownsRow_succ hown')
         have R4 := qb (qkk (R3.out.alloc _) hgrow hrow);have T4 := qb (qdw (T3.out.alloc _) hgrow hrow');have O4 : Hid (w5.ownsRow w.heap.size 9 1 (.slice (some ⟨g', 0, none⟩) (done.length + 1) cap') (done ++ [(k, j)]).length (strs s (done ++ [(k, j)]))) := by
          show World.ownsRow _ _ _ _ _ _ _;rw [qfg, qcgv, HTe.out];exact hown'
         clear hown' hgrow;have HI4 := qb (qcp B s j 0 p 46 w5 R4.out);rw [show (decide ((0 : Int) = 0) && atB s.data.toList j 46) = atB s.data.toList j 46 by simp] at HI4
         cases hdot : atB s.data.toList j 46
         ·rw [hdot] at HI4;have HX := qb (qkq HD.out HGd.out HE.out hjL HG.out hdot);clear hdot;(go_wp2_with fail);refine HI4.out.mono ?_;rintro r w6 ⟨rfl, n6, rfl⟩;(go_wp2_with fail);go_ret
          exact qrp HX.out (ql O4.out (Turn.drewN B _ _) hBs) (R4.out.drewN _) (T4.out.trans (Turn.drewN B _ _))
         ·rw [hdot] at HI4;have hjl : j < s.size := by
           rcases qcfc j s.size with h | h
           ·exact h
           ·rw [qfc s j 46 (by omega)] at hdot; cases hdot
          by_cases hjx : j = p + 48
          ·have HX := qb (qms HD.out HGd.out HE.out hjx HG.out hdot);have hst := (qfs (a := j) (p := (p : Int)) 0 (by omega))
           have HSt := qb hst;clear hdot hst hjx;(go_wp2_with fail);refine HI4.out.mono ?_;rintro r w6 ⟨rfl, n6, rfl⟩;have R6 := qb (R4.out.drewN n6);have T6 := qb (T4.out.trans (Turn.drewN B _ n6));have O6 := qb (ql O4.out (Turn.drewN B _ n6) hBs);clear R4 T4 O4 HI4;generalize w5.drewN n6 = w6 at *;(go_wp2_with fail);refine (qbc B s j 0 p _ R6.out (by omega) (by omega)).mono ?_
           rintro r w7 ⟨rfl, h7, t7⟩;rw [HSt.out.1, HSt.out.2, qbj] at h7;have H7 := qb h7;have T7 := qb (T6.out.trans t7);have O7 := qb (ql O6.out t7 hBs);clear h7 t7;(go_wp2_with fail);go_roundw
           case rel => exact ⟨done ++ [(k, j)], j, 12, by omega, by omega, by simp; omega, H7, .inr ⟨rfl, HX.out⟩, O7, T7⟩
           case measure => rw [H7.out.rplace, H7.out.rerr, HRk.out.rplace, HRk.out.rerr, qmq (by decide), qmc]; omega
          ·have HX := qb (qkr HD.out HGd.out HE.out (by omega) HG.out hdot)
           have hst := (qfp (a := j) (p := (p : Int)) 0 (by omega))
           have HSt := qb hst;clear hdot hst;(go_wp2_with fail);refine HI4.out.mono ?_;rintro r w6 ⟨rfl, n6, rfl⟩;have R6 := qb (R4.out.drewN n6);have T6 := qb (T4.out.trans (Turn.drewN B _ n6));have O6 := qb (ql O4.out (Turn.drewN B _ n6) hBs);clear R4 T4 O4 HI4;generalize w5.drewN n6 = w6 at *;(go_wp2_with fail);refine (qbc B s j 0 p _ R6.out (by omega) (by omega)).mono ?_
           rintro r w7 ⟨rfl, h7, t7⟩;rw [HSt.out.1, HSt.out.2] at h7;have H7 := qb h7;have T7 := qb (T6.out.trans t7);have O7 := qb (ql O6.out t7 hBs);clear h7 t7;(go_wp2_with fail);go_roundw
           case rel => exact ⟨done ++ [(k, j)], j + 1, 0, by omega, by omega, by simp; omega, H7, .inl ⟨rfl, by omega, HX.out.1, HX.out.2⟩, O7, T7⟩
           case measure => rw [H7.out.rplace, H7.out.rerr, HRk.out.rplace, HRk.out.rerr]; omega
        ·rw [hdg] at HDg HZq;clear hdg;cases hz48 : ((t[0].toNat : Int) == 48)
         ·rw [hz48] at HZq;have HG := qb (qkn (pre := true) HNe.out (by rw [← HTd.out, HZq.out]; rfl))
          clear HZq;(go_wp2_with fail);refine HDg.out.mono ?_;rintro r w1 ⟨rfl, hw1⟩;rw [hw1];clear hw1 w1;have hbase : w.heap.size ≤ W3.heap.size := T3.out.size;have hrow : u5.ownBlock ≠ some B := fun hx => by have := (O3.out.lt B hx).1; omega
          have hrow' : ∀ x, u5.ownBlock = some x → w.heap.size ≤ x := fun x hx => (O3.out.lt x hx).1;go_wp2_with (at_builtin; refine wpList_append_own _ rfl _ _ 31 rfl w.heap.size 9 i0 (.string .empty) 1 16 Tryz.underlying31 hi hz0 hz1 hz2 rfl (by decide) _ _ _ rfl (O3.out.alloc _) ⟨W3.heap.size, 0, none⟩ 1 1 [.string t] rfl rfl (qm _ _ _) (qbg _) (by unfold maxLen; omega) (by omega) (by simp; omega) ?_; intro v' w5 hown' hgrow _; obtain ⟨g', cap', rfl⟩ := ownsRow_succ hown')
          have R4 := qb (qkk (R3.out.alloc _) hgrow hrow);have T4 := qb (qdw (T3.out.alloc _) hgrow hrow');have O4 : Hid (w5.ownsRow w.heap.size 9 1 (.slice (some ⟨g', 0, none⟩) (done.length + 1) cap') (done ++ [(k, j)]).length (strs s (done ++ [(k, j)]))) := by
           show World.ownsRow _ _ _ _ _ _ _;rw [qfg, qcgv, HTe.out];exact hown'
          clear hown' hgrow;have HI4 := qb (qcp B s j 0 p 46 w5 R4.out);rw [show (decide ((0 : Int) = 0) && atB s.data.toList j 46) = atB s.data.toList j 46 by simp] at HI4
          cases hdot : atB s.data.toList j 46
          ·rw [hdot] at HI4;have HX := qb (qkq HD.out HGd.out HE.out hjL HG.out hdot);clear hdot;(go_wp2_with fail);refine HI4.out.mono ?_;rintro r w6 ⟨rfl, n6, rfl⟩;(go_wp2_with fail);go_ret
           exact qrp HX.out (ql O4.out (Turn.drewN B _ _) hBs) (R4.out.drewN _) (T4.out.trans (Turn.drewN B _ _))
          ·rw [hdot] at HI4;have hjl : j < s.size := by
            rcases qcfc j s.size with h | h
            ·exact h
            ·rw [qfc s j 46 (by omega)] at hdot; cases hdot
           by_cases hjx : j = p + 48
           ·have HX := qb (qms HD.out HGd.out HE.out hjx HG.out hdot);have hst := (qfs (a := j) (p := (p : Int)) 0 (by omega))
            have HSt := qb hst;clear hdot hst hjx;(go_wp2_with fail);refine HI4.out.mono ?_;rintro r w6 ⟨rfl, n6, rfl⟩;have R6 := qb (R4.out.drewN n6);have T6 := qb (T4.out.trans (Turn.drewN B _ n6));have O6 := qb (ql O4.out (Turn.drewN B _ n6) hBs);clear R4 T4 O4 HI4;generalize w5.drewN n6 = w6 at *;(go_wp2_with fail);refine (qbc B s j 0 p _ R6.out (by omega) (by omega)).mono ?_
            rintro r w7 ⟨rfl, h7, t7⟩;rw [HSt.out.1, HSt.out.2, qbj] at h7;have H7 := qb h7;have T7 := qb (T6.out.trans t7);have O7 := qb (ql O6.out t7 hBs);clear h7 t7;(go_wp2_with fail);go_roundw
            case rel => exact ⟨done ++ [(k, j)], j, 12, by omega, by omega, by simp; omega, H7, .inr ⟨rfl, HX.out⟩, O7, T7⟩
            case measure => rw [H7.out.rplace, H7.out.rerr, HRk.out.rplace, HRk.out.rerr, qmq (by decide), qmc]; omega
           ·have HX := qb (qkr HD.out HGd.out HE.out (by omega) HG.out hdot)
            have hst := (qfp (a := j) (p := (p : Int)) 0 (by omega))
            have HSt := qb hst;clear hdot hst;(go_wp2_with fail);refine HI4.out.mono ?_;rintro r w6 ⟨rfl, n6, rfl⟩;have R6 := qb (R4.out.drewN n6);have T6 := qb (T4.out.trans (Turn.drewN B _ n6));have O6 := qb (ql O4.out (Turn.drewN B _ n6) hBs);clear R4 T4 O4 HI4;generalize w5.drewN n6 = w6 at *;(go_wp2_with fail);refine (qbc B s j 0 p _ R6.out (by omega) (by omega)).mono ?_
            rintro r w7 ⟨rfl, h7, t7⟩;rw [HSt.out.1, HSt.out.2] at h7;have H7 := qb h7;have T7 := qb (T6.out.trans t7);have O7 := qb (ql O6.out t7 hBs);clear h7 t7;(go_wp2_with fail);go_roundw
            case rel => exact ⟨done ++ [(k, j)], j + 1, 0, by omega, by omega, by simp; omega, H7, .inl ⟨rfl, by omega, HX.out.1, HX.out.2⟩, O7, T7⟩
            case measure => rw [H7.out.rplace, H7.out.rerr, HRk.out.rplace, HRk.out.rerr]; omega
         ·rw [hz48] at HZq
          by_cases hlg : 1 < t.size
          ·have hl1 : decide (1 < t.size) = true := decide_eq_true hlg;have hl2 : decide ((1 : Int) < (t.size : Int)) = true := decide_eq_true (by omega)
           rw [hl1] at HZq;have HX := qb (qbrr HD.out HGd.out HE.out hjL HNe.out (by rw [← HTd.out]; exact HZq.out))
           clear HZq hlg;(go_wp2_with fail);refine HDg.out.mono ?_;rintro r w1 ⟨rfl, hw1⟩;rw [hw1];clear hw1 w1
           by_cases hjs : s.size ≤ j
           ·have hd1 : decide ((s.size : Int) ≤ (j : Int)) = true := decide_eq_true (by omega)
            have hd2 : decide (s.size ≤ j) = true := decide_eq_true hjs;have HX2 : Hid (idsD true s.data.toList (p + 48) (qp s.data.toList a) = (j, 11)) := by
             show _ = _;rw [HX.out, if_pos (by rw [HL.out]; exact hjs)]
            (go_wp2_with fail);have R2 := R3;have T2 := T3;have O2 := O3;clear R3 T3 O3;generalize W3 = W2 at *;go_quiet (fail)
            have R3 := qb (R2.out.drewN nq);have T3 := qb (T2.out.trans (Turn.drewN B W2 nq));have O3 := qb (ql O2.out (Turn.drewN B W2 nq) hBs);clear R2 T2 O2 c0 c1 c2 c3 f1 f2 f3;generalize W2.drewN nq = W3 at *;obtain ⟨c0, c1, c2, c3, f1, f2, f3⟩ := R3.out.seen;(go_wp2_with fail);refine (qcr B s j 0 p 11 _ R3.out).mono ?_;rintro r w7 ⟨rfl, h7, t7⟩;rw [qbj] at h7;(go_wp2_with fail);refine (qcr B s j 11 p 14 _ h7).mono ?_;rintro r w8 ⟨rfl, h8, t8⟩;rw [qwj _ (by decide)] at h8
            (go_wp2_with fail);go_ret
            exact qmw HX2.out (by decide) h8 (T3.out.trans (t7.trans t8))
           ·have hd1 : decide ((s.size : Int) ≤ (j : Int)) = false := decide_eq_false (by omega)
            have hd2 : decide (s.size ≤ j) = false := decide_eq_false hjs;have HX2 : Hid (idsD true s.data.toList (p + 48) (qp s.data.toList a) = (j, 14)) := by
             show _ = _;rw [HX.out, if_neg (by rw [HL.out]; exact hjs)]
            (go_wp2_with fail);have R2 := R3;have T2 := T3;have O2 := O3;clear R3 T3 O3;generalize W3 = W2 at *;go_quiet (fail)
            have R3 := qb (R2.out.drewN nq);have T3 := qb (T2.out.trans (Turn.drewN B W2 nq));have O3 := qb (ql O2.out (Turn.drewN B W2 nq) hBs);clear R2 T2 O2 c0 c1 c2 c3 f1 f2 f3;generalize W2.drewN nq = W3 at *;obtain ⟨c0, c1, c2, c3, f1, f2, f3⟩ := R3.out.seen;(go_wp2_with fail);refine (qcr B s j 0 p 14 _ R3.out).mono ?_;rintro r w7 ⟨rfl, h7, t7⟩;rw [qbj] at h7;(go_wp2_with fail);go_ret
            exact qmw HX2.out (by decide) h7 (T3.out.trans t7)
          ·have hl1 : decide (1 < t.size) = false := decide_eq_false hlg;have hl2 : decide ((1 : Int) < (t.size : Int)) = false := decide_eq_false (by omega)
           rw [hl1] at HZq;clear hlg;have HG := qb (qkn (pre := true) HNe.out (by rw [← HTd.out, HZq.out]; rfl))
           clear HZq;(go_wp2_with fail);refine HDg.out.mono ?_;rintro r w1 ⟨rfl, hw1⟩;rw [hw1];clear hw1 w1;have hbase : w.heap.size ≤ W3.heap.size := T3.out.size;have hrow : u5.ownBlock ≠ some B := fun hx => by have := (O3.out.lt B hx).1; omega
           have hrow' : ∀ x, u5.ownBlock = some x → w.heap.size ≤ x := fun x hx => (O3.out.lt x hx).1;go_wp2_with (at_builtin; refine wpList_append_own _ rfl _ _ 31 rfl w.heap.size 9 i0 (.string .empty) 1 16 Tryz.underlying31 hi hz0 hz1 hz2 rfl (by decide) _ _ _ rfl (O3.out.alloc _) ⟨W3.heap.size, 0, none⟩ 1 1 [.string t] rfl rfl (qm _ _ _) (qbg _) (by unfold maxLen; omega) (by omega) (by simp; omega) ?_; intro v' w5 hown' hgrow _; obtain ⟨g', cap', rfl⟩ := ownsRow_succ hown')
           have R4 := qb (qkk (R3.out.alloc _) hgrow hrow);have T4 := qb (qdw (T3.out.alloc _) hgrow hrow');have O4 : Hid (w5.ownsRow w.heap.size 9 1 (.slice (some ⟨g', 0, none⟩) (done.length + 1) cap') (done ++ [(k, j)]).length (strs s (done ++ [(k, j)]))) := by
            show World.ownsRow _ _ _ _ _ _ _;rw [qfg, qcgv, HTe.out];exact hown'
           clear hown' hgrow;have HI4 := qb (qcp B s j 0 p 46 w5 R4.out);rw [show (decide ((0 : Int) = 0) && atB s.data.toList j 46) = atB s.data.toList j 46 by simp] at HI4
           cases hdot : atB s.data.toList j 46
           ·rw [hdot] at HI4;have HX := qb (qkq HD.out HGd.out HE.out hjL HG.out hdot);clear hdot;(go_wp2_with fail);refine HI4.out.mono ?_;rintro r w6 ⟨rfl, n6, rfl⟩;(go_wp2_with fail);go_ret
            exact qrp HX.out (ql O4.out (Turn.drewN B _ _) hBs) (R4.out.drewN _) (T4.out.trans (Turn.drewN B _ _))
           ·rw [hdot] at HI4;have hjl : j < s.size := by
             rcases qcfc j s.size with h | h
             ·exact h
             ·rw [qfc s j 46 (by omega)] at hdot; cases hdot
            by_cases hjx : j = p + 48
            ·have HX := qb (qms HD.out HGd.out HE.out hjx HG.out hdot);have hst := (qfs (a := j) (p := (p : Int)) 0 (by omega))
             have HSt := qb hst;clear hdot hst hjx;(go_wp2_with fail);refine HI4.out.mono ?_;rintro r w6 ⟨rfl, n6, rfl⟩;have R6 := qb (R4.out.drewN n6);have T6 := qb (T4.out.trans (Turn.drewN B _ n6));have O6 := qb (ql O4.out (Turn.drewN B _ n6) hBs);clear R4 T4 O4 HI4;generalize w5.drewN n6 = w6 at *;(go_wp2_with fail);refine (qbc B s j 0 p _ R6.out (by omega) (by omega)).mono ?_
             rintro r w7 ⟨rfl, h7, t7⟩;rw [HSt.out.1, HSt.out.2, qbj] at h7;have H7 := qb h7;have T7 := qb (T6.out.trans t7);have O7 := qb (ql O6.out t7 hBs);clear h7 t7;(go_wp2_with fail);go_roundw
             case rel => exact ⟨done ++ [(k, j)], j, 12, by omega, by omega, by simp; omega, H7, .inr ⟨rfl, HX.out⟩, O7, T7⟩
             case measure => rw [H7.out.rplace, H7.out.rerr, HRk.out.rplace, HRk.out.rerr, qmq (by decide), qmc]; omega
            ·have HX := qb (qkr HD.out HGd.out HE.out (by omega) HG.out hdot)
             have hst := (qfp (a := j) (p := (p : Int)) 0 (by omega))
             have HSt := qb hst;clear hdot hst;(go_wp2_with fail);refine HI4.out.mono ?_;rintro r w6 ⟨rfl, n6, rfl⟩;have R6 := qb (R4.out.drewN n6);have T6 := qb (T4.out.trans (Turn.drewN B _ n6));have O6 := qb (ql O4.out (Turn.drewN B _ n6) hBs);clear R4 T4 O4 HI4;generalize w5.drewN n6 = w6 at *;(go_wp2_with fail);refine (qbc B s j 0 p _ R6.out (by omega) (by omega)).mono ?_
             rintro r w7 ⟨rfl, h7, t7⟩;rw [HSt.out.1, HSt.out.2] at h7;have H7 := qb h7;have T7 := qb (T6.out.trans t7);have O7 := qb (ql O6.out t7 hBs);clear h7 t7;(go_wp2_with fail);go_roundw
             case rel => exact ⟨done ++ [(k, j)], j + 1, 0, by omega, by omega, by simp; omega, H7, .inl ⟨rfl, by omega, HX.out.1, HX.out.2⟩, O7, T7⟩
             case measure => rw [H7.out.rplace, H7.out.rerr, HRk.out.rplace, HRk.out.rerr]; omega
    ·have HX := qb (idD_long HD.out HGd.out hlong);clear hlong HIj;have hb0 : decide ((12 : Int) = 0) = false := rfl;(go_wp2_with fail);go_quiet (fail)
     have R2 := qb (HRj.out.drewN nq);have T2 := qb (HTu.trans (HTi.trans (Turn.drewN B wr nq)));have O2 := qb (ql HO.out (HTi.trans (Turn.drewN B wr nq)) hBs);clear c0 c1 c2 c3 f1 f2 f3 HTi HRj;generalize wr.drewN nq = W2 at *;obtain ⟨c0, c1, c2, c3, f1, f2, f3⟩ := R2.out.seen;(go_wp2_with fail);go_ret
     refine qmw HX.out (by decide) ?_ T2.out
     rw [← hjp];exact R2.out
  ·have HX := qb h12;clear h12 HIe;(go_wp2_with fail);go_ret
   exact qmw HX.out (by decide) HRk.out HTu
end Go.Proofs.YtpdlgiioahjhiaaGreat
