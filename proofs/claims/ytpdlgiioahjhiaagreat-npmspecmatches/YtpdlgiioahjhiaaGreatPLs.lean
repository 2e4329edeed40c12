/- Walks: the document's partial. -/
import Derived.Deep.CutBlock
import Derived.Test.YtpdlgiioahjhiaaGreatPLr
namespace Go.Proofs.YtpdlgiioahjhiaaGreat
open Go.RowKit Go.Shelf
open Calls renaming quiet_of_same → qcgr
open List renaming length_append → qcgv
set_option linter.unusedVariables false
set_option maxHeartbeats 8000000
set_option maxRecDepth 100000
theorem qblc (s : QY) (a : Nat) (ha : a ≤ s.size) : vL s.data.toList a ≤ s.size ∧ vL s.data.toList a ≤ a + 1 ∧ a ≤ vL s.data.toList a := by
 unfold vL;split
 ·rename_i h;have := (List.getElem?_eq_some_iff.1 h).1;rw [qh] at this;omega
 ·omega
theorem qbln (s : QY) (p b : Nat) (hp : b ≤ p + 48) : b ≤ (numN s.data.toList p b).1 := by
 unfold numN;split
 ·exact Nat.le_refl _
 ·split
  ·exact Nat.le_refl _
  ·split
   ·dsimp only; omega
   ·split
    ·dsimp only; omega
    ·dsimp only; omega
theorem qcbx {W : World} {base : Nat} {e : TypeId} {size : Nat} {v : Value} {k : Nat} {xs : List Value} (h : W.ownsRow base e size v k xs) : ∃ b m c, v = .slice b m c := by
 rcases h.2 with ⟨h1, _⟩ | ⟨g, cap, cur, h1, _⟩
 ·exact ⟨_, _, _, h1⟩
 ·exact ⟨_, _, _, h1⟩
theorem qbxs (pre : Bool) (l : QB) (L m : Nat) : ∀ xs : List (Nat × Nat), xs ≠ [] → (∀ x ∈ xs, x.2 ≤ l.length ∧ m ≤ x.2) → (idsD pre l L xs).2 = 0 → (idsD pre l L xs).1 ≤ l.length ∧ (idsD pre l L xs).1 ≤ L ∧ m ≤ (idsD pre l L xs).1
 | [], h, _, _ => absurd rfl h
 | x :: r, _, hx, h => by
  rw [idsD] at h ⊢
  by_cases h1 : L < x.2
  ·rw [if_pos h1] at h; cases h
  ·rw [if_neg h1] at h ⊢
   by_cases h2 : qdq pre l (seg l x.1 x.2) x.2 ≠ 0
   ·rw [if_pos h2] at h; exact absurd h h2
   ·rw [if_neg h2] at h ⊢
    by_cases h3 : r = []
    ·rw [if_pos h3];exact ⟨(hx x List.mem_cons_self).1, by dsimp only; omega, (hx x List.mem_cons_self).2⟩
    ·rw [if_neg h3] at h ⊢
     by_cases h4 : L ≤ x.2
     ·rw [if_pos h4] at h; cases h
     ·rw [if_neg h4] at h ⊢;exact qbxs pre l L m r h3 (fun y hy => hx y (List.mem_cons_of_mem _ hy)) h
theorem idD_in (pre : Bool) (s : QY) (L a : Nat) (ha : a ≤ s.size) (hL : a ≤ L) : (idsD pre s.data.toList L (qp s.data.toList a)).2 = 0 → (idsD pre s.data.toList L (qp s.data.toList a)).1 ≤ s.size ∧ (idsD pre s.data.toList L (qp s.data.toList a)).1 ≤ L ∧ a ≤ (idsD pre s.data.toList L (qp s.data.toList a)).1 := by
 intro h;have := qbxs pre s.data.toList L a _ (qcx _ a) (fun x hx => ⟨(qhz s.data.toList _ a rfl (by rw [qh]; exact ha) x hx).2.1, by have := qzc s.data.toList _ a rfl x hx; omega⟩) h
 rw [qh] at this;exact this
theorem qpr (B : Nat) (s : QY) (a : Nat) (q : Int) (w : World) (h : NrAt w B s a 0 q) (ha : a ≤ s.size) (hs : s.size ≤ 256) :
  Calls Tryz.prog 97 #[.pointer (some ⟨B, 0, none⟩)] w (PdP s a B w) := by
 have hBs := h.lt;obtain ⟨c0, c1, c2, c3, f1, f2, f3⟩ := h.seen;have Q0 := qb (RP.start h);clear h;obtain ⟨R, hR⟩ : ∃ R, rnD s.data.toList a 2 0 (vL s.data.toList a) [] = R := ⟨_, rfl⟩;have HRR := qb hR;clear hR;have HBS : Hid (∀ sg b, R = .ok (sg, b) → b ≤ s.size) := fun sg b h => by
  have h1 := (qvj s.data.toList a 2 0 (vL s.data.toList a) [] (by have := (qblc s a ha).2.1; omega)).1 (sg, b) (HRR.out.trans h)
  have h2 := ((qbfj (l := s.data.toList) 2 0 (vL s.data.toList a) [] (by rw [qh]; exact (qblc s a ha).1) (Nat.le_refl _)).2 _ h1.1).1
  rw [qh] at h2;exact h2
 have HAB : Hid (∀ sg b, R = .ok (sg, b) → a ≤ b) := fun sg b h => by
  have h1 := (qvj s.data.toList a 2 0 (vL s.data.toList a) [] (by have := (qblc s a ha).2.1; omega)).1 (sg, b) (HRR.out.trans h)
  have h2 := (qbnj s.data.toList 2 0 (vL s.data.toList a) []).2 _ h1.1;have h3 := (qblc s a ha).2.2;dsimp only at h2;omega
 have HVL : Hid (vL s.data.toList a ≤ s.size ∧ vL s.data.toList a ≤ a + 1 ∧ a ≤ vL s.data.toList a) := by
  show _ ∧ _;unfold vL;split
  ·rename_i h;have := (List.getElem?_eq_some_iff.1 h).1;rw [qh] at this;omega
  ·omega
 go_enter Tryz.func97, Tryz.ntmps97
 (go_wp2_with fail);generalize ((w.setCell ⟨B, 3, none⟩ (.int .i64 (a : Int))).alloc _).alloc _ = W1 at *;clear c0 c1 c2 c3 f1 f2 f3;have HI := qb (qcp B s a 0 a 118 W1 Q0.out.rd);rw [show (decide ((0 : Int) = 0) && atB s.data.toList a 118) = atB s.data.toList a 118 by simp] at HI
 refine HI.out.mono ?_;rintro r w2 ⟨rfl, n2, rfl⟩;have Q1 := qb (Q0.out.drewN n2);clear HI Q0;generalize W1.drewN n2 = W2 at *;go_upto_if 16 with fail
 go_cut [] from 15 (fun wc => Hid (RP w wc B s (vL s.data.toList a) 0 a ⟨#[]⟩ ⟨#[]⟩ ⟨#[]⟩ (.slice none 0 0) 0))
 case first =>
  cases hv : atB s.data.toList a 118
  ·have HE : Hid (vL s.data.toList a = a) := by
    show _ = _;unfold vL;rw [if_neg (fun x => by rw [(qbz _ a 118).2 x] at hv; cases hv)]
   clear hv;(go_wp2_with fail);go_meet
   rw [HE.out];exact Q1
  ·have HE : Hid (vL s.data.toList a = a + 1) := by
    show _ = _;unfold vL;rw [if_pos ((qbz _ a 118).1 hv)]
   have HSt := qb (qfp (a := a) (p := (a : Int)) 0 (by omega))
   clear hv;(go_wp2_with fail);refine (qbc B s a 0 a _ Q1.out.rd (by omega) (by omega)).mono ?_
   rintro r w7 ⟨rfl, h7, t7⟩;rw [HSt.out.1, HSt.out.2] at h7;have Q7 := qb (Q1.out.turn t7 h7);clear h7 t7;(go_wp2_with fail);go_meet
   rw [HE.out];exact Q7
 case rest =>
  have Q2 := hcut;clear hcut Q1;go_upto_block 0 with fail
  go_cut [4, 5, 6] from 19 (fun _ _ _ wc => ∃ (b : Nat) (e : Int) (sg : List (Nat × Nat)), Hid (RP w wc B s b e a (pS s sg 0) (pS s sg 1) (pS s sg 2) (.slice none 0 0) sg.length) ∧ Hid (e = 0 ∧ b ≤ a + 48 ∧ R = .ok (sg, b) ∨ e ≠ 0 ∧ sg.length ≤ 2 ∧ R = .error (b, e)))
  case first =>
   (go_wp2_with fail);go_loopw [4, 5, 6] (fun nv ki _ wr => ∃ (i b : Nat) (e z : Int) (sg : List (Nat × Nat)) (nu : Bool), i ≤ 2 ∧ ki = .int .i64 z ∧ z = (i : Int) ∧ nv = .bool nu ∧ sg.length ≤ i ∧ b ≤ s.size ∧ a ≤ b ∧ Hid (RP w wr B s b e a (pS s sg 0) (pS s sg 1) (pS s sg 2) (.slice none 0 0) sg.length) ∧ Hid (e = 0 ∧ b ≤ a + 48 ∧ nu = decide (sg.length = i) ∧ rnD s.data.toList a (2 - i) i b sg = R ∨ e = 12 ∧ R = .error (b, 12))) (fun _ ki _ _ => 4 - (intOf ki).toNat)
   case atStart => exact ⟨0, vL s.data.toList a, 0, 0, [], true, by omega, rfl, rfl, rfl, by simp, HVL.out.1, HVL.out.2.2, Q2, .inl ⟨rfl, by have := HVL.out; omega, rfl, HRR.out⟩⟩
   case round =>
    obtain ⟨i, b, e, z, sg, nu, hi2, rfl, hz, rfl, hsg, hbs, hab, Q3, HIe⟩ := hrel;have hsg2 : sg.length ≤ 2 := by omega
    obtain ⟨⟨c0, c1, c2⟩, ⟨d0, d1, d2, d3, d4⟩, g0, g1, g2, g3, g4⟩ := Q3.out.seen;rcases HIe.out with ⟨rfl, hbL, hnu0, hD0⟩ | ⟨rfl, h12⟩
    ·have HNu := qb hnu0;have HD0 := qb hD0;clear hnu0 hD0 HIe Q2;rcases (by omega : i = 0 ∨ i = 1 ∨ i = 2) with rfl | rfl | rfl
     ·obtain rfl : z = 0 := by simpa using hz
      have HD : Hid (rnD s.data.toList a 2 0 b sg = R) := HD0.out;clear HD0 hz hi2
      by_cases hl : b < s.size
      ·have hd : decide ((s.size : Int) ≤ (b : Int)) = false := decide_eq_false (by omega)
       have hd2 : decide (s.size ≤ b) = false := decide_eq_false (by omega)
       have HC := qb (fun n => qhx s[b] (wr.drewN n));have HO := qb (fun n => qhg s[b] (wr.drewN n));cases hc : isC (s[b].toNat : Int) 1
       ·rw [hc] at HC;cases ho : opB s[b]
        ·rw [ho] at HO;have HNP := qb (qbdg s a b hl hc ho);clear hc ho;(go_wp2_with fail);go_quiet ((first | (go_at_call 127; exact qcgr (HC.out _)) | (go_at_call 128; exact qcgr (HO.out _))))
         have Q4 := qb (Q3.out.drewN nq);clear c0 c1 c2 d0 d1 d2 d3 d4 g0 g1 g2 g3 g4;clear Q3;generalize wr.drewN nq = W4 at *;obtain ⟨⟨c0, c1, c2⟩, ⟨d0, d1, d2, d3, d4⟩, g0, g1, g2, g3, g4⟩ := Q4.out.seen;clear HC HO;(go_wp2_with fail);refine (qgb B s b 0 a _ Q4.out.rd hbs).mono ?_;rintro r w5 ⟨rfl, h5, t5⟩;rw [qbj] at h5;have Q5 := qb (Q4.out.turn t5 h5);clear h5 t5;clear c0 c1 c2 d0 d1 d2 d3 d4 g0 g1 g2 g3 g4;clear Q4;obtain ⟨⟨c0, c1, c2⟩, ⟨d0, d1, d2, d3, d4⟩, g0, g1, g2, g3, g4⟩ := Q5.out.seen;have HNe : Hid (misL s.size b ≠ 0) := qch _ _;have HR : Hid (rpD s.data.toList a = ([], [], b, misL s.size b)) := by
          show _ = _;unfold rpD;rw [HRR.out, ← HD.out, qhs (by rw [HNP.out]; exact qch _ _), HNP.out]
         have HVs := qb qfz;obtain ⟨⟨q0, q1, q2, q3, q4⟩, k0, k1, k2, k3, k4⟩ := Q5.out.resF;(go_wp2_with fail);refine qjq _ _ w.heap.size _ _ _ _ _ HVs.out rfl (put5 _ _ _ _ _ Q5.out.res) ?_;refine qgt HR.out (Q5.out.fin _ _ _ _ _).1 (Q5.out.fin _ _ _ _ _).2.1 HVs.out (fun he => ?_);exact absurd he HNe.out
        ·have HNO := qb (qbbb s a b hl ho);have HOb := qb ho;rw [ho] at HO;clear hc ho;(go_wp2_with fail);go_quiet ((first | (go_at_call 127; exact qcgr (HC.out _)) | (go_at_call 128; exact qcgr (HO.out _))))
         have Q4 := qb (Q3.out.drewN nq);clear c0 c1 c2 d0 d1 d2 d3 d4 g0 g1 g2 g3 g4;clear Q3 HO;generalize wr.drewN nq = W4 at *;obtain ⟨⟨c0, c1, c2⟩, ⟨d0, d1, d2, d3, d4⟩, g0, g1, g2, g3, g4⟩ := Q4.out.seen;have HO := qb (fun n => qhg s[b] (W4.drewN n));rw [HOb.out] at HO;(go_wp2_with fail);go_quiet ((go_at_call 128; exact qcgr (HO.out _)))
         have Q5 := qb (Q4.out.drewN nq);clear c0 c1 c2 d0 d1 d2 d3 d4 g0 g1 g2 g3 g4;clear Q4;generalize W4.drewN nq = W5 at *;obtain ⟨⟨c0, c1, c2⟩, ⟨d0, d1, d2, d3, d4⟩, g0, g1, g2, g3, g4⟩ := Q5.out.seen;clear HO HC
         by_cases hx : b = a + 48
         ·have HX : Hid (R = .error (b, 12)) := by
           show _ = _;rw [← HD.out, qhs (by rw [HNO.out, if_pos (by omega)]; simp), HNO.out, if_pos (by omega)]
          have HNe : Hid ((12 : Int) ≠ 0) := by show _ ≠ _; decide
          have HSt := qb (qfs (a := b) (p := (a : Int)) 0 (by omega))
          clear hx;(go_wp2_with fail);refine (qbc B s b 0 a _ Q5.out.rd (by omega) (by omega)).mono ?_
          rintro r w7 ⟨rfl, h7, t7⟩;rw [HSt.out.1, HSt.out.2, qbj] at h7;have Q7 := qb (Q5.out.turn t7 h7);clear h7 t7;clear c0 c1 c2 d0 d1 d2 d3 d4 g0 g1 g2 g3 g4;obtain ⟨⟨c0, c1, c2⟩, ⟨d0, d1, d2, d3, d4⟩, g0, g1, g2, g3, g4⟩ := Q7.out.seen;have HI := qb (qcp B s b 12 a 46 w7 Q7.out.rd);rw [show (decide ((12 : Int) = 0) && atB s.data.toList b 46) = false by rw [decide_eq_false HNe.out]; rfl] at HI
          (go_wp2_with fail);refine HI.out.mono ?_;rintro r w6 ⟨rfl, n6, rfl⟩;have Q6 := qb (Q7.out.drewN n6);(go_wp2_with fail);go_meet
          exact ⟨b, 12, sg, Q6, .inr ⟨HNe.out, hsg2, HX.out⟩⟩
         ·have HN : Hid (npD s.data.toList a b = (b + 1, true, 0)) := by
           show _ = _;rw [HNO.out, if_neg (by omega)]
          have HA : Hid (addS sg 0 true b (b + 1) = sg) := qvt;have hsl : sg.length ≤ 1 := by omega
          have HB4 : Hid (false = decide (sg.length = 1)) := by
           show _ = _;rw [decide_eq_false (by omega)]
          have HSt := qb (qfp (a := b) (p := (a : Int)) 0 (by omega))
          clear HNO;(go_wp2_with fail);refine (qbc B s b 0 a _ Q5.out.rd (by omega) (by omega)).mono ?_
          rintro r w7 ⟨rfl, h7, t7⟩;rw [HSt.out.1, HSt.out.2] at h7;have Q7 := qb (Q5.out.turn t7 h7);have hcL : b + 1 ≤ a + 48 := by omega
          obtain ⟨c, hcE⟩ : ∃ c, b + 1 = c := ⟨_, rfl⟩;rw [hcE] at Q7 HN HA hcL;clear h7 t7;clear c0 c1 c2 d0 d1 d2 d3 d4 g0 g1 g2 g3 g4;obtain ⟨⟨c0, c1, c2⟩, ⟨d0, d1, d2, d3, d4⟩, g0, g1, g2, g3, g4⟩ := Q7.out.seen;have HI := qb (qcp B s c 0 a 46 w7 Q7.out.rd);rw [show (decide ((0 : Int) = 0) && atB s.data.toList c 46) = atB s.data.toList c 46 by simp] at HI
          cases hdot : atB s.data.toList c 46
          ·rw [hdot] at HI;have HX : Hid (R = .ok (sg, c)) := by
            show _ = _;rw [← HD.out, qpd HN.out hdot, HA.out]
           clear hdot;(go_wp2_with fail);refine HI.out.mono ?_;rintro r w6 ⟨rfl, n6, rfl⟩;have Q6 := qb (Q7.out.drewN n6);(go_wp2_with fail);go_meet
           exact ⟨c, 0, sg, Q6, .inl ⟨rfl, hcL, HX.out⟩⟩
          ·rw [hdot] at HI;have hcs : c < s.size := qnj hdot
           by_cases hx : c = a + 48
           ·have HX : Hid (R = .error (c, 12)) := by
             show _ = _;rw [← HD.out, qpk HN.out hdot (by omega)]
            have HSt := qb (qfs (a := c) (p := (a : Int)) 0 (by omega))
            clear hdot hx;(go_wp2_with fail);refine HI.out.mono ?_;rintro r w6 ⟨rfl, n6, rfl⟩;have Q6 := qb (Q7.out.drewN n6);clear HI;generalize w7.drewN n6 = W6 at *;(go_wp2_with fail);refine (qbc B s c 0 a _ Q6.out.rd (by omega) (by omega)).mono ?_
            rintro r w7 ⟨rfl, h7, t7⟩;rw [HSt.out.1, HSt.out.2, qbj] at h7;have Q7 := qb (Q6.out.turn t7 h7);clear h7 t7;(go_wp2_with fail);go_roundw
            case rel => exact ⟨1, c, 12, _, sg, _, by omega, rfl, by first | rfl | go_num, rfl, hsl, by omega, by omega, Q7, .inr ⟨rfl, HX.out⟩⟩
            case measure => simp [intOf]
           ·have HX : Hid (rnD s.data.toList a 1 1 (c + 1) sg = R) := by
             show _ = _;rw [← HD.out, qnt HN.out hdot (by omega), HA.out]
            have HSt := qb (qfp (a := c) (p := (a : Int)) 0 (by omega))
            clear hdot;(go_wp2_with fail);refine HI.out.mono ?_;rintro r w6 ⟨rfl, n6, rfl⟩;have Q6 := qb (Q7.out.drewN n6);clear HI;generalize w7.drewN n6 = W6 at *;(go_wp2_with fail);refine (qbc B s c 0 a _ Q6.out.rd (by omega) (by omega)).mono ?_
            rintro r w7 ⟨rfl, h7, t7⟩;rw [HSt.out.1, HSt.out.2] at h7;have Q7 := qb (Q6.out.turn t7 h7);clear h7 t7;(go_wp2_with fail);go_roundw
            case rel => exact ⟨1, c + 1, 0, _, sg, _, by omega, rfl, by first | rfl | go_num, rfl, hsl, by omega, by omega, Q7, .inl ⟨rfl, by omega, HB4.out, HX.out⟩⟩
            case measure => simp [intOf]
       ·rw [hc] at HC;have HNP := qb (qbkc s a b hl hc);have ho : opB s[b] = false := (qqc s[b] hc).1;clear hc;(go_wp2_with fail);go_quiet ((go_at_call 127; exact qcgr (HC.out _)))
        have Q4 := qb (Q3.out.drewN nq);clear c0 c1 c2 d0 d1 d2 d3 d4 g0 g1 g2 g3 g4;clear Q3;generalize wr.drewN nq = W4 at *;obtain ⟨⟨c0, c1, c2⟩, ⟨d0, d1, d2, d3, d4⟩, g0, g1, g2, g3, g4⟩ := Q4.out.seen;clear HO HC;have HO := qb (fun n => qhg s[b] (W4.drewN n));rw [ho] at HO;clear ho;(go_wp2_with fail);go_quiet ((go_at_call 128; exact qcgr (HO.out _)))
        have Q5 := qb (Q4.out.drewN nq);clear c0 c1 c2 d0 d1 d2 d3 d4 g0 g1 g2 g3 g4;clear Q4;generalize W4.drewN nq = W5 at *;obtain ⟨⟨c0, c1, c2⟩, ⟨d0, d1, d2, d3, d4⟩, g0, g1, g2, g3, g4⟩ := Q5.out.seen;clear HO;have hle := qbkv s a b hbs hbL;have hge := qbln s a b hbL;have HNM := qb (qrn B s b a W5 Q5.out.rd hbs hs (by omega))
        obtain ⟨c, hcE⟩ : ∃ c, (numN s.data.toList a b).1 = c := ⟨_, rfl⟩;obtain ⟨er, heE⟩ : ∃ er, (numN s.data.toList a b).2 = er := ⟨_, rfl⟩;rw [hcE, heE] at HNM HNP;rw [hcE] at hle hge;clear hcE heE;(go_wp2_with fail);refine HNM.out.mono ?_;rintro r w7 ⟨⟨t, rfl, hte⟩, h7, t7⟩;have Q7 := qb (Q5.out.turn t7 h7);have HTE := qb hte;clear h7 t7 HNM hte;clear c0 c1 c2 d0 d1 d2 d3 d4 g0 g1 g2 g3 g4;obtain ⟨⟨c0, c1, c2⟩, ⟨d0, d1, d2, d3, d4⟩, g0, g1, g2, g3, g4⟩ := Q7.out.seen
        by_cases her : er = 0
        ·subst her;have HT : Hid (t = s.extract b c) := by
          show _ = _;rw [HTE.out rfl, qbx]
         have HN := HNP;have hcL : c ≤ a + 48 := hle.2;have hcs2 : c ≤ s.size := hle.1;clear HTE HNP
         by_cases hnu : sg.length = 0
         ·obtain rfl : nu = true := by rw [HNu.out, decide_eq_true hnu]
          have HA : Hid (addS sg 0 false b c = sg ++ [(b, c)]) := qbcc hnu;have HB4 : Hid (true = decide ((sg ++ [(b, c)]).length = 1)) := by
           show _ = _;rw [decide_eq_true (by rw [qcgv, hnu]; rfl)]
          (go_wp2_with fail);have Q8 := qb (Q7.out.set 0 (.string t) t _ _ _ _ rfl);have HQ9 : Hid (RP w ((w7.setCell ⟨w.heap.size + 1, 0, none⟩ (.string t)).setCell ⟨w.heap.size + 1, 4, none⟩ (.int .i64 1)) B s c 0 a (pS s (sg ++ [(b, c)]) 0) (pS s (sg ++ [(b, c)]) 1) (pS s (sg ++ [(b, c)]) 2) (.slice none 0 0) (sg ++ [(b, c)]).length) := by
           have h9 := Q8.out.set 4 (.int .i64 1) _ _ _ _ 1 rfl;show RP _ _ _ _ _ _ _ _ _ _ _ _;rw [qcgv, hnu];rw [show pS s (sg ++ [(b, c)]) 0 = t by rw [HT.out, ← qbvx s sg b c, hnu], qvz s (sg ++ [(b, c)]) 1 (by simp [hnu]), qvz s (sg ++ [(b, c)]) 2 (by simp [hnu])]
           rw [qvz s sg 1 (by omega), qvz s sg 2 (by omega)] at h9
           exact h9
          clear Q8 Q7;have hsl : (sg ++ [(b, c)]).length ≤ 1 := by rw [qcgv, hnu]; exact Nat.le_refl _
          generalize (w7.setCell ⟨w.heap.size + 1, 0, none⟩ (.string t)).setCell ⟨w.heap.size + 1, 4, none⟩ (.int .i64 1) = w9 at *;clear c0 c1 c2 d0 d1 d2 d3 d4 g0 g1 g2 g3 g4;obtain ⟨⟨c0, c1, c2⟩, ⟨d0, d1, d2, d3, d4⟩, g0, g1, g2, g3, g4⟩ := HQ9.out.seen;have HI := qb (qcp B s c 0 a 46 w9 HQ9.out.rd);rw [show (decide ((0 : Int) = 0) && atB s.data.toList c 46) = atB s.data.toList c 46 by simp] at HI
          cases hdot : atB s.data.toList c 46
          ·rw [hdot] at HI;have HX : Hid (R = .ok ((sg ++ [(b, c)]), c)) := by
            show _ = _;rw [← HD.out, qpd HN.out hdot, HA.out]
           clear hdot;(go_wp2_with fail);refine HI.out.mono ?_;rintro r w6 ⟨rfl, n6, rfl⟩;have Q6 := qb (HQ9.out.drewN n6);(go_wp2_with fail);go_meet
           exact ⟨c, 0, (sg ++ [(b, c)]), Q6, .inl ⟨rfl, hcL, HX.out⟩⟩
          ·rw [hdot] at HI;have hcs : c < s.size := qnj hdot
           by_cases hx : c = a + 48
           ·have HX : Hid (R = .error (c, 12)) := by
             show _ = _;rw [← HD.out, qpk HN.out hdot (by omega)]
            have HSt := qb (qfs (a := c) (p := (a : Int)) 0 (by omega))
            clear hdot hx;(go_wp2_with fail);refine HI.out.mono ?_;rintro r w6 ⟨rfl, n6, rfl⟩;have Q6 := qb (HQ9.out.drewN n6);clear HI;generalize w9.drewN n6 = W6 at *;(go_wp2_with fail);refine (qbc B s c 0 a _ Q6.out.rd (by omega) (by omega)).mono ?_
            rintro r w7 ⟨rfl, h7, t7⟩;rw [HSt.out.1, HSt.out.2, qbj] at h7;have Q7 := qb (Q6.out.turn t7 h7);clear h7 t7;(go_wp2_with fail);go_roundw
            case rel => exact ⟨1, c, 12, _, sg ++ [(b, c)], _, by omega, rfl, by first | rfl | go_num, rfl, hsl, by omega, by omega, Q7, .inr ⟨rfl, HX.out⟩⟩
            case measure => simp [intOf]
           ·have HX : Hid (rnD s.data.toList a 1 1 (c + 1) (sg ++ [(b, c)]) = R) := by
             show _ = _;rw [← HD.out, qnt HN.out hdot (by omega), HA.out]
            have HSt := qb (qfp (a := c) (p := (a : Int)) 0 (by omega))
            clear hdot;(go_wp2_with fail);refine HI.out.mono ?_;rintro r w6 ⟨rfl, n6, rfl⟩;have Q6 := qb (HQ9.out.drewN n6);clear HI;generalize w9.drewN n6 = W6 at *;(go_wp2_with fail);refine (qbc B s c 0 a _ Q6.out.rd (by omega) (by omega)).mono ?_
            rintro r w7 ⟨rfl, h7, t7⟩;rw [HSt.out.1, HSt.out.2] at h7;have Q7 := qb (Q6.out.turn t7 h7);clear h7 t7;(go_wp2_with fail);go_roundw
            case rel => exact ⟨1, c + 1, 0, _, sg ++ [(b, c)], _, by omega, rfl, by first | rfl | go_num, rfl, hsl, by omega, by omega, Q7, .inl ⟨rfl, by omega, HB4.out, HX.out⟩⟩
            case measure => simp [intOf]
         ·obtain rfl : nu = false := by rw [HNu.out, decide_eq_false hnu]
          have HA : Hid (addS sg 0 false b c = sg) := qwg hnu false;have hsl : sg.length ≤ 1 := by omega
          have HB4 : Hid (false = decide (sg.length = 1)) := by
           show _ = _;rw [decide_eq_false (by omega)]
          have HI := qb (qcp B s c 0 a 46 w7 Q7.out.rd);rw [show (decide ((0 : Int) = 0) && atB s.data.toList c 46) = atB s.data.toList c 46 by simp] at HI
          cases hdot : atB s.data.toList c 46
          ·rw [hdot] at HI;have HX : Hid (R = .ok (sg, c)) := by
            show _ = _;rw [← HD.out, qpd HN.out hdot, HA.out]
           clear hdot;(go_wp2_with fail);refine HI.out.mono ?_;rintro r w6 ⟨rfl, n6, rfl⟩;have Q6 := qb (Q7.out.drewN n6);(go_wp2_with fail);go_meet
           exact ⟨c, 0, sg, Q6, .inl ⟨rfl, hcL, HX.out⟩⟩
          ·rw [hdot] at HI;have hcs : c < s.size := qnj hdot
           by_cases hx : c = a + 48
           ·have HX : Hid (R = .error (c, 12)) := by
             show _ = _;rw [← HD.out, qpk HN.out hdot (by omega)]
            have HSt := qb (qfs (a := c) (p := (a : Int)) 0 (by omega))
            clear hdot hx;(go_wp2_with fail);refine HI.out.mono ?_;rintro r w6 ⟨rfl, n6, rfl⟩;have Q6 := qb (Q7.out.drewN n6);clear HI;generalize w7.drewN n6 = W6 at *;(go_wp2_with fail);refine (qbc B s c 0 a _ Q6.out.rd (by omega) (by omega)).mono ?_
            rintro r w7 ⟨rfl, h7, t7⟩;rw [HSt.out.1, HSt.out.2, qbj] at h7;have Q7 := qb (Q6.out.turn t7 h7);clear h7 t7;(go_wp2_with fail);go_roundw
            case rel => exact ⟨1, c, 12, _, sg, _, by omega, rfl, by first | rfl | go_num, rfl, hsl, by omega, by omega, Q7, .inr ⟨rfl, HX.out⟩⟩
            case measure => simp [intOf]
           ·have HX : Hid (rnD s.data.toList a 1 1 (c + 1) sg = R) := by
             show _ = _;rw [← HD.out, qnt HN.out hdot (by omega), HA.out]
            have HSt := qb (qfp (a := c) (p := (a : Int)) 0 (by omega))
            clear hdot;(go_wp2_with fail);refine HI.out.mono ?_;rintro r w6 ⟨rfl, n6, rfl⟩;have Q6 := qb (Q7.out.drewN n6);clear HI;generalize w7.drewN n6 = W6 at *;(go_wp2_with fail);refine (qbc B s c 0 a _ Q6.out.rd (by omega) (by omega)).mono ?_
            rintro r w7 ⟨rfl, h7, t7⟩;rw [HSt.out.1, HSt.out.2] at h7;have Q7 := qb (Q6.out.turn t7 h7);clear h7 t7;(go_wp2_with fail);go_roundw
            case rel => exact ⟨1, c + 1, 0, _, sg, _, by omega, rfl, by first | rfl | go_num, rfl, hsl, by omega, by omega, Q7, .inl ⟨rfl, by omega, HB4.out, HX.out⟩⟩
            case measure => simp [intOf]
        ·have HX : Hid (R = .error (c, er)) := by
          show _ = _;rw [← HD.out, qhs (by rw [HNP.out]; exact her), HNP.out]
         have HNe : Hid (er ≠ 0) := her;have hb1 : (er == 0) = false := by simpa using her
         have hb2 : decide (er = 0) = false := decide_eq_false her;clear her HNP HTE;cases nu
         ·have HI := qb (qcp B s c er a 46 w7 Q7.out.rd);rw [show (decide ((er : Int) = 0) && atB s.data.toList c 46) = false by rw [decide_eq_false HNe.out]; rfl] at HI
          (go_wp2_with fail);refine HI.out.mono ?_;rintro r w6 ⟨rfl, n6, rfl⟩;have Q6 := qb (Q7.out.drewN n6);(go_wp2_with fail);go_meet
          exact ⟨c, er, sg, Q6, .inr ⟨HNe.out, hsg2, HX.out⟩⟩
         ·have HI := qb (qcp B s c er a 46 w7 Q7.out.rd);rw [show (decide ((er : Int) = 0) && atB s.data.toList c 46) = false by rw [decide_eq_false HNe.out]; rfl] at HI
          (go_wp2_with fail);refine HI.out.mono ?_;rintro r w6 ⟨rfl, n6, rfl⟩;have Q6 := qb (Q7.out.drewN n6);(go_wp2_with fail);go_meet
          exact ⟨c, er, sg, Q6, .inr ⟨HNe.out, hsg2, HX.out⟩⟩
      ·have hd : decide ((s.size : Int) ≤ (b : Int)) = true := decide_eq_true (by omega)
       have hd2 : decide (s.size ≤ b) = true := decide_eq_true (by omega)
       have HNP := qb (qbmd s a b (by omega))
       (go_wp2_with fail);go_quiet (fail)
       have Q4 := qb (Q3.out.drewN nq);clear c0 c1 c2 d0 d1 d2 d3 d4 g0 g1 g2 g3 g4;clear Q3;generalize wr.drewN nq = W4 at *;obtain ⟨⟨c0, c1, c2⟩, ⟨d0, d1, d2, d3, d4⟩, g0, g1, g2, g3, g4⟩ := Q4.out.seen;(go_wp2_with fail);refine (qgb B s b 0 a _ Q4.out.rd hbs).mono ?_;rintro r w5 ⟨rfl, h5, t5⟩;rw [qbj] at h5;have Q5 := qb (Q4.out.turn t5 h5);clear h5 t5;clear c0 c1 c2 d0 d1 d2 d3 d4 g0 g1 g2 g3 g4;clear Q4;obtain ⟨⟨c0, c1, c2⟩, ⟨d0, d1, d2, d3, d4⟩, g0, g1, g2, g3, g4⟩ := Q5.out.seen;have HNe : Hid (misL s.size b ≠ 0) := qch _ _;have HR : Hid (rpD s.data.toList a = ([], [], b, misL s.size b)) := by
        show _ = _;unfold rpD;rw [HRR.out, ← HD.out, qhs (by rw [HNP.out]; exact qch _ _), HNP.out]
       have HVs := qb qfz;obtain ⟨⟨q0, q1, q2, q3, q4⟩, k0, k1, k2, k3, k4⟩ := Q5.out.resF;(go_wp2_with fail);refine qjq _ _ w.heap.size _ _ _ _ _ HVs.out rfl (put5 _ _ _ _ _ Q5.out.res) ?_;refine qgt HR.out (Q5.out.fin _ _ _ _ _).1 (Q5.out.fin _ _ _ _ _).2.1 HVs.out (fun he => ?_);exact absurd he HNe.out
     ·obtain rfl : z = 1 := by simpa using hz
      have HD : Hid (rnD s.data.toList a 1 1 b sg = R) := HD0.out;clear HD0 hz hi2
      by_cases hl : b < s.size
      ·have hd : decide ((s.size : Int) ≤ (b : Int)) = false := decide_eq_false (by omega)
       have hd2 : decide (s.size ≤ b) = false := decide_eq_false (by omega)
       have HC := qb (fun n => qhx s[b] (wr.drewN n));have HO := qb (fun n => qhg s[b] (wr.drewN n));cases hc : isC (s[b].toNat : Int) 1
       ·rw [hc] at HC;cases ho : opB s[b]
        ·rw [ho] at HO;have HNP := qb (qbdg s a b hl hc ho);clear hc ho;(go_wp2_with fail);go_quiet ((first | (go_at_call 127; exact qcgr (HC.out _)) | (go_at_call 128; exact qcgr (HO.out _))))
         have Q4 := qb (Q3.out.drewN nq);clear c0 c1 c2 d0 d1 d2 d3 d4 g0 g1 g2 g3 g4;clear Q3;generalize wr.drewN nq = W4 at *;obtain ⟨⟨c0, c1, c2⟩, ⟨d0, d1, d2, d3, d4⟩, g0, g1, g2, g3, g4⟩ := Q4.out.seen;clear HC HO;(go_wp2_with fail);refine (qgb B s b 0 a _ Q4.out.rd hbs).mono ?_;rintro r w5 ⟨rfl, h5, t5⟩;rw [qbj] at h5;have Q5 := qb (Q4.out.turn t5 h5);clear h5 t5;clear c0 c1 c2 d0 d1 d2 d3 d4 g0 g1 g2 g3 g4;clear Q4;obtain ⟨⟨c0, c1, c2⟩, ⟨d0, d1, d2, d3, d4⟩, g0, g1, g2, g3, g4⟩ := Q5.out.seen;have HNe : Hid (misL s.size b ≠ 0) := qch _ _;have HR : Hid (rpD s.data.toList a = ([], [], b, misL s.size b)) := by
          show _ = _;unfold rpD;rw [HRR.out, ← HD.out, qhs (by rw [HNP.out]; exact qch _ _), HNP.out]
         have HVs := qb qfz;obtain ⟨⟨q0, q1, q2, q3, q4⟩, k0, k1, k2, k3, k4⟩ := Q5.out.resF;(go_wp2_with fail);refine qjq _ _ w.heap.size _ _ _ _ _ HVs.out rfl (put5 _ _ _ _ _ Q5.out.res) ?_;refine qgt HR.out (Q5.out.fin _ _ _ _ _).1 (Q5.out.fin _ _ _ _ _).2.1 HVs.out (fun he => ?_);exact absurd he HNe.out
        ·have HNO := qb (qbbb s a b hl ho);have HOb := qb ho;rw [ho] at HO;clear hc ho;(go_wp2_with fail);go_quiet ((first | (go_at_call 127; exact qcgr (HC.out _)) | (go_at_call 128; exact qcgr (HO.out _))))
         have Q4 := qb (Q3.out.drewN nq);clear c0 c1 c2 d0 d1 d2 d3 d4 g0 g1 g2 g3 g4;clear Q3 HO;generalize wr.drewN nq = W4 at *;obtain ⟨⟨c0, c1, c2⟩, ⟨d0, d1, d2, d3, d4⟩, g0, g1, g2, g3, g4⟩ := Q4.out.seen;have HO := qb (fun n => qhg s[b] (W4.drewN n));rw [HOb.out] at HO;(go_wp2_with fail);go_quiet ((go_at_call 128; exact qcgr (HO.out _)))
         have Q5 := qb (Q4.out.drewN nq);clear c0 c1 c2 d0 d1 d2 d3 d4 g0 g1 g2 g3 g4;clear Q4;generalize W4.drewN nq = W5 at *;obtain ⟨⟨c0, c1, c2⟩, ⟨d0, d1, d2, d3, d4⟩, g0, g1, g2, g3, g4⟩ := Q5.out.seen;clear HO HC
         by_cases hx : b = a + 48
         ·have HX : Hid (R = .error (b, 12)) := by
           show _ = _;rw [← HD.out, qhs (by rw [HNO.out, if_pos (by omega)]; simp), HNO.out, if_pos (by omega)]
          have HNe : Hid ((12 : Int) ≠ 0) := by show _ ≠ _; decide
          have HSt := qb (qfs (a := b) (p := (a : Int)) 0 (by omega))
          clear hx;(go_wp2_with fail);refine (qbc B s b 0 a _ Q5.out.rd (by omega) (by omega)).mono ?_
          rintro r w7 ⟨rfl, h7, t7⟩;rw [HSt.out.1, HSt.out.2, qbj] at h7;have Q7 := qb (Q5.out.turn t7 h7);clear h7 t7;clear c0 c1 c2 d0 d1 d2 d3 d4 g0 g1 g2 g3 g4;obtain ⟨⟨c0, c1, c2⟩, ⟨d0, d1, d2, d3, d4⟩, g0, g1, g2, g3, g4⟩ := Q7.out.seen;have HI := qb (qcp B s b 12 a 46 w7 Q7.out.rd);rw [show (decide ((12 : Int) = 0) && atB s.data.toList b 46) = false by rw [decide_eq_false HNe.out]; rfl] at HI
          (go_wp2_with fail);refine HI.out.mono ?_;rintro r w6 ⟨rfl, n6, rfl⟩;have Q6 := qb (Q7.out.drewN n6);(go_wp2_with fail);go_meet
          exact ⟨b, 12, sg, Q6, .inr ⟨HNe.out, hsg2, HX.out⟩⟩
         ·have HN : Hid (npD s.data.toList a b = (b + 1, true, 0)) := by
           show _ = _;rw [HNO.out, if_neg (by omega)]
          have HA : Hid (addS sg 1 true b (b + 1) = sg) := qvt;have hsl : sg.length ≤ 2 := by omega
          have HB4 : Hid (false = decide (sg.length = 2)) := by
           show _ = _;rw [decide_eq_false (by omega)]
          have HSt := qb (qfp (a := b) (p := (a : Int)) 0 (by omega))
          clear HNO;(go_wp2_with fail);refine (qbc B s b 0 a _ Q5.out.rd (by omega) (by omega)).mono ?_
          rintro r w7 ⟨rfl, h7, t7⟩;rw [HSt.out.1, HSt.out.2] at h7;have Q7 := qb (Q5.out.turn t7 h7);have hcL : b + 1 ≤ a + 48 := by omega
          obtain ⟨c, hcE⟩ : ∃ c, b + 1 = c := ⟨_, rfl⟩;rw [hcE] at Q7 HN HA hcL;clear h7 t7;clear c0 c1 c2 d0 d1 d2 d3 d4 g0 g1 g2 g3 g4;obtain ⟨⟨c0, c1, c2⟩, ⟨d0, d1, d2, d3, d4⟩, g0, g1, g2, g3, g4⟩ := Q7.out.seen;have HI := qb (qcp B s c 0 a 46 w7 Q7.out.rd);rw [show (decide ((0 : Int) = 0) && atB s.data.toList c 46) = atB s.data.toList c 46 by simp] at HI
          cases hdot : atB s.data.toList c 46
          ·rw [hdot] at HI;have HX : Hid (R = .ok (sg, c)) := by
            show _ = _;rw [← HD.out, qpd HN.out hdot, HA.out]
           clear hdot;(go_wp2_with fail);refine HI.out.mono ?_;rintro r w6 ⟨rfl, n6, rfl⟩;have Q6 := qb (Q7.out.drewN n6);(go_wp2_with fail);go_meet
           exact ⟨c, 0, sg, Q6, .inl ⟨rfl, hcL, HX.out⟩⟩
          ·rw [hdot] at HI;have hcs : c < s.size := qnj hdot
           by_cases hx : c = a + 48
           ·have HX : Hid (R = .error (c, 12)) := by
             show _ = _;rw [← HD.out, qpk HN.out hdot (by omega)]
            have HSt := qb (qfs (a := c) (p := (a : Int)) 0 (by omega))
            clear hdot hx;(go_wp2_with fail);refine HI.out.mono ?_;rintro r w6 ⟨rfl, n6, rfl⟩;have Q6 := qb (Q7.out.drewN n6);clear HI;generalize w7.drewN n6 = W6 at *;(go_wp2_with fail);refine (qbc B s c 0 a _ Q6.out.rd (by omega) (by omega)).mono ?_
            rintro r w7 ⟨rfl, h7, t7⟩;rw [HSt.out.1, HSt.out.2, qbj] at h7;have Q7 := qb (Q6.out.turn t7 h7);clear h7 t7;(go_wp2_with fail);go_roundw
            case rel => exact ⟨2, c, 12, _, sg, _, by omega, rfl, by first | rfl | go_num, rfl, hsl, by omega, by omega, Q7, .inr ⟨rfl, HX.out⟩⟩
            case measure => simp [intOf]
           ·have HX : Hid (rnD s.data.toList a 0 2 (c + 1) sg = R) := by
             show _ = _;rw [← HD.out, qnt HN.out hdot (by omega), HA.out]
            have HSt := qb (qfp (a := c) (p := (a : Int)) 0 (by omega))
            clear hdot;(go_wp2_with fail);refine HI.out.mono ?_;rintro r w6 ⟨rfl, n6, rfl⟩;have Q6 := qb (Q7.out.drewN n6);clear HI;generalize w7.drewN n6 = W6 at *;(go_wp2_with fail);refine (qbc B s c 0 a _ Q6.out.rd (by omega) (by omega)).mono ?_
            rintro r w7 ⟨rfl, h7, t7⟩;rw [HSt.out.1, HSt.out.2] at h7;have Q7 := qb (Q6.out.turn t7 h7);clear h7 t7;(go_wp2_with fail);go_roundw
            case rel => exact ⟨2, c + 1, 0, _, sg, _, by omega, rfl, by first | rfl | go_num, rfl, hsl, by omega, by omega, Q7, .inl ⟨rfl, by omega, HB4.out, HX.out⟩⟩
            case measure => simp [intOf]
       ·rw [hc] at HC;have HNP := qb (qbkc s a b hl hc);have ho : opB s[b] = false := (qqc s[b] hc).1;clear hc;(go_wp2_with fail);go_quiet ((go_at_call 127; exact qcgr (HC.out _)))
        have Q4 := qb (Q3.out.drewN nq);clear c0 c1 c2 d0 d1 d2 d3 d4 g0 g1 g2 g3 g4;clear Q3;generalize wr.drewN nq = W4 at *;obtain ⟨⟨c0, c1, c2⟩, ⟨d0, d1, d2, d3, d4⟩, g0, g1, g2, g3, g4⟩ := Q4.out.seen;clear HO HC;have HO := qb (fun n => qhg s[b] (W4.drewN n));rw [ho] at HO;clear ho;(go_wp2_with fail);go_quiet ((go_at_call 128; exact qcgr (HO.out _)))
        have Q5 := qb (Q4.out.drewN nq);clear c0 c1 c2 d0 d1 d2 d3 d4 g0 g1 g2 g3 g4;clear Q4;generalize W4.drewN nq = W5 at *;obtain ⟨⟨c0, c1, c2⟩, ⟨d0, d1, d2, d3, d4⟩, g0, g1, g2, g3, g4⟩ := Q5.out.seen;clear HO;have hle := qbkv s a b hbs hbL;have hge := qbln s a b hbL;have HNM := qb (qrn B s b a W5 Q5.out.rd hbs hs (by omega))
        obtain ⟨c, hcE⟩ : ∃ c, (numN s.data.toList a b).1 = c := ⟨_, rfl⟩;obtain ⟨er, heE⟩ : ∃ er, (numN s.data.toList a b).2 = er := ⟨_, rfl⟩;rw [hcE, heE] at HNM HNP;rw [hcE] at hle hge;clear hcE heE;(go_wp2_with fail);refine HNM.out.mono ?_;rintro r w7 ⟨⟨t, rfl, hte⟩, h7, t7⟩;have Q7 := qb (Q5.out.turn t7 h7);have HTE := qb hte;clear h7 t7 HNM hte;clear c0 c1 c2 d0 d1 d2 d3 d4 g0 g1 g2 g3 g4;obtain ⟨⟨c0, c1, c2⟩, ⟨d0, d1, d2, d3, d4⟩, g0, g1, g2, g3, g4⟩ := Q7.out.seen
        by_cases her : er = 0
        ·subst her;have HT : Hid (t = s.extract b c) := by
          show _ = _;rw [HTE.out rfl, qbx]
         have HN := HNP;have hcL : c ≤ a + 48 := hle.2;have hcs2 : c ≤ s.size := hle.1;clear HTE HNP
         by_cases hnu : sg.length = 1
         ·obtain rfl : nu = true := by rw [HNu.out, decide_eq_true hnu]
          have HA : Hid (addS sg 1 false b c = sg ++ [(b, c)]) := qbcc hnu;have HB4 : Hid (true = decide ((sg ++ [(b, c)]).length = 2)) := by
           show _ = _;rw [decide_eq_true (by rw [qcgv, hnu]; rfl)]
          (go_wp2_with fail);have Q8 := qb (Q7.out.set 1 (.string t) _ t _ _ _ rfl);have HQ9 : Hid (RP w ((w7.setCell ⟨w.heap.size + 1, 1, none⟩ (.string t)).setCell ⟨w.heap.size + 1, 4, none⟩ (.int .i64 2)) B s c 0 a (pS s (sg ++ [(b, c)]) 0) (pS s (sg ++ [(b, c)]) 1) (pS s (sg ++ [(b, c)]) 2) (.slice none 0 0) (sg ++ [(b, c)]).length) := by
           have h9 := Q8.out.set 4 (.int .i64 2) _ _ _ _ 2 rfl;show RP _ _ _ _ _ _ _ _ _ _ _ _;rw [qcgv, hnu];rw [show pS s (sg ++ [(b, c)]) 1 = t by rw [HT.out, ← qbvx s sg b c, hnu], qbwv s sg b c 0 (by omega), qvz s (sg ++ [(b, c)]) 2 (by simp [hnu])]
           rw [qvz s sg 2 (by omega)] at h9
           exact h9
          clear Q8 Q7;have hsl : (sg ++ [(b, c)]).length ≤ 2 := by rw [qcgv, hnu]; exact Nat.le_refl _
          generalize (w7.setCell ⟨w.heap.size + 1, 1, none⟩ (.string t)).setCell ⟨w.heap.size + 1, 4, none⟩ (.int .i64 2) = w9 at *;clear c0 c1 c2 d0 d1 d2 d3 d4 g0 g1 g2 g3 g4;obtain ⟨⟨c0, c1, c2⟩, ⟨d0, d1, d2, d3, d4⟩, g0, g1, g2, g3, g4⟩ := HQ9.out.seen;have HI := qb (qcp B s c 0 a 46 w9 HQ9.out.rd);rw [show (decide ((0 : Int) = 0) && atB s.data.toList c 46) = atB s.data.toList c 46 by simp] at HI
          cases hdot : atB s.data.toList c 46
          ·rw [hdot] at HI;have HX : Hid (R = .ok ((sg ++ [(b, c)]), c)) := by
            show _ = _;rw [← HD.out, qpd HN.out hdot, HA.out]
           clear hdot;(go_wp2_with fail);refine HI.out.mono ?_;rintro r w6 ⟨rfl, n6, rfl⟩;have Q6 := qb (HQ9.out.drewN n6);(go_wp2_with fail);go_meet
           exact ⟨c, 0, (sg ++ [(b, c)]), Q6, .inl ⟨rfl, hcL, HX.out⟩⟩
          ·rw [hdot] at HI;have hcs : c < s.size := qnj hdot
           by_cases hx : c = a + 48
           ·have HX : Hid (R = .error (c, 12)) := by
             show _ = _;rw [← HD.out, qpk HN.out hdot (by omega)]
            have HSt := qb (qfs (a := c) (p := (a : Int)) 0 (by omega))
            clear hdot hx;(go_wp2_with fail);refine HI.out.mono ?_;rintro r w6 ⟨rfl, n6, rfl⟩;have Q6 := qb (HQ9.out.drewN n6);clear HI;generalize w9.drewN n6 = W6 at *;(go_wp2_with fail);refine (qbc B s c 0 a _ Q6.out.rd (by omega) (by omega)).mono ?_
            rintro r w7 ⟨rfl, h7, t7⟩;rw [HSt.out.1, HSt.out.2, qbj] at h7;have Q7 := qb (Q6.out.turn t7 h7);clear h7 t7;(go_wp2_with fail);go_roundw
            case rel => exact ⟨2, c, 12, _, sg ++ [(b, c)], _, by omega, rfl, by first | rfl | go_num, rfl, hsl, by omega, by omega, Q7, .inr ⟨rfl, HX.out⟩⟩
            case measure => simp [intOf]
           ·have HX : Hid (rnD s.data.toList a 0 2 (c + 1) (sg ++ [(b, c)]) = R) := by
             show _ = _;rw [← HD.out, qnt HN.out hdot (by omega), HA.out]
            have HSt := qb (qfp (a := c) (p := (a : Int)) 0 (by omega))
            clear hdot;(go_wp2_with fail);refine HI.out.mono ?_;rintro r w6 ⟨rfl, n6, rfl⟩;have Q6 := qb (HQ9.out.drewN n6);clear HI;generalize w9.drewN n6 = W6 at *;(go_wp2_with fail);refine (qbc B s c 0 a _ Q6.out.rd (by omega) (by omega)).mono ?_
            rintro r w7 ⟨rfl, h7, t7⟩;rw [HSt.out.1, HSt.out.2] at h7;have Q7 := qb (Q6.out.turn t7 h7);clear h7 t7;(go_wp2_with fail);go_roundw
            case rel => exact ⟨2, c + 1, 0, _, sg ++ [(b, c)], _, by omega, rfl, by first | rfl | go_num, rfl, hsl, by omega, by omega, Q7, .inl ⟨rfl, by omega, HB4.out, HX.out⟩⟩
            case measure => simp [intOf]
         ·obtain rfl : nu = false := by rw [HNu.out, decide_eq_false hnu]
          have HA : Hid (addS sg 1 false b c = sg) := qwg hnu false;have hsl : sg.length ≤ 2 := by omega
          have HB4 : Hid (false = decide (sg.length = 2)) := by
           show _ = _;rw [decide_eq_false (by omega)]
          have HI := qb (qcp B s c 0 a 46 w7 Q7.out.rd);rw [show (decide ((0 : Int) = 0) && atB s.data.toList c 46) = atB s.data.toList c 46 by simp] at HI
          cases hdot : atB s.data.toList c 46
          ·rw [hdot] at HI;have HX : Hid (R = .ok (sg, c)) := by
            show _ = _;rw [← HD.out, qpd HN.out hdot, HA.out]
           clear hdot;(go_wp2_with fail);refine HI.out.mono ?_;rintro r w6 ⟨rfl, n6, rfl⟩;have Q6 := qb (Q7.out.drewN n6);(go_wp2_with fail);go_meet
           exact ⟨c, 0, sg, Q6, .inl ⟨rfl, hcL, HX.out⟩⟩
          ·rw [hdot] at HI;have hcs : c < s.size := qnj hdot
           by_cases hx : c = a + 48
           ·have HX : Hid (R = .error (c, 12)) := by
             show _ = _;rw [← HD.out, qpk HN.out hdot (by omega)]
            have HSt := qb (qfs (a := c) (p := (a : Int)) 0 (by omega))
            clear hdot hx;(go_wp2_with fail);refine HI.out.mono ?_;rintro r w6 ⟨rfl, n6, rfl⟩;have Q6 := qb (Q7.out.drewN n6);clear HI;generalize w7.drewN n6 = W6 at *;(go_wp2_with fail);refine (qbc B s c 0 a _ Q6.out.rd (by omega) (by omega)).mono ?_
            rintro r w7 ⟨rfl, h7, t7⟩;rw [HSt.out.1, HSt.out.2, qbj] at h7;have Q7 := qb (Q6.out.turn t7 h7);clear h7 t7;(go_wp2_with fail);go_roundw
            case rel => exact ⟨2, c, 12, _, sg, _, by omega, rfl, by first | rfl | go_num, rfl, hsl, by omega, by omega, Q7, .inr ⟨rfl, HX.out⟩⟩
            case measure => simp [intOf]
           ·have HX : Hid (rnD s.data.toList a 0 2 (c + 1) sg = R) := by
             show _ = _;rw [← HD.out, qnt HN.out hdot (by omega), HA.out]
            have HSt := qb (qfp (a := c) (p := (a : Int)) 0 (by omega))
            clear hdot;(go_wp2_with fail);refine HI.out.mono ?_;rintro r w6 ⟨rfl, n6, rfl⟩;have Q6 := qb (Q7.out.drewN n6);clear HI;generalize w7.drewN n6 = W6 at *;(go_wp2_with fail);refine (qbc B s c 0 a _ Q6.out.rd (by omega) (by omega)).mono ?_
            rintro r w7 ⟨rfl, h7, t7⟩;rw [HSt.out.1, HSt.out.2] at h7;have Q7 := qb (Q6.out.turn t7 h7);clear h7 t7;(go_wp2_with fail);go_roundw
            case rel => exact ⟨2, c + 1, 0, _, sg, _, by omega, rfl, by first | rfl | go_num, rfl, hsl, by omega, by omega, Q7, .inl ⟨rfl, by omega, HB4.out, HX.out⟩⟩
            case measure => simp [intOf]
        ·have HX : Hid (R = .error (c, er)) := by
          show _ = _;rw [← HD.out, qhs (by rw [HNP.out]; exact her), HNP.out]
         have HNe : Hid (er ≠ 0) := her;have hb1 : (er == 0) = false := by simpa using her
         have hb2 : decide (er = 0) = false := decide_eq_false her;clear her HNP HTE;cases nu
         ·have HI := qb (qcp B s c er a 46 w7 Q7.out.rd);rw [show (decide ((er : Int) = 0) && atB s.data.toList c 46) = false by rw [decide_eq_false HNe.out]; rfl] at HI
          (go_wp2_with fail);refine HI.out.mono ?_;rintro r w6 ⟨rfl, n6, rfl⟩;have Q6 := qb (Q7.out.drewN n6);(go_wp2_with fail);go_meet
          exact ⟨c, er, sg, Q6, .inr ⟨HNe.out, hsg2, HX.out⟩⟩
         ·have HI := qb (qcp B s c er a 46 w7 Q7.out.rd);rw [show (decide ((er : Int) = 0) && atB s.data.toList c 46) = false by rw [decide_eq_false HNe.out]; rfl] at HI
          (go_wp2_with fail);refine HI.out.mono ?_;rintro r w6 ⟨rfl, n6, rfl⟩;have Q6 := qb (Q7.out.drewN n6);(go_wp2_with fail);go_meet
          exact ⟨c, er, sg, Q6, .inr ⟨HNe.out, hsg2, HX.out⟩⟩
      ·have hd : decide ((s.size : Int) ≤ (b : Int)) = true := decide_eq_true (by omega)
       have hd2 : decide (s.size ≤ b) = true := decide_eq_true (by omega)
       have HNP := qb (qbmd s a b (by omega))
       (go_wp2_with fail);go_quiet (fail)
       have Q4 := qb (Q3.out.drewN nq);clear c0 c1 c2 d0 d1 d2 d3 d4 g0 g1 g2 g3 g4;clear Q3;generalize wr.drewN nq = W4 at *;obtain ⟨⟨c0, c1, c2⟩, ⟨d0, d1, d2, d3, d4⟩, g0, g1, g2, g3, g4⟩ := Q4.out.seen;(go_wp2_with fail);refine (qgb B s b 0 a _ Q4.out.rd hbs).mono ?_;rintro r w5 ⟨rfl, h5, t5⟩;rw [qbj] at h5;have Q5 := qb (Q4.out.turn t5 h5);clear h5 t5;clear c0 c1 c2 d0 d1 d2 d3 d4 g0 g1 g2 g3 g4;clear Q4;obtain ⟨⟨c0, c1, c2⟩, ⟨d0, d1, d2, d3, d4⟩, g0, g1, g2, g3, g4⟩ := Q5.out.seen;have HNe : Hid (misL s.size b ≠ 0) := qch _ _;have HR : Hid (rpD s.data.toList a = ([], [], b, misL s.size b)) := by
        show _ = _;unfold rpD;rw [HRR.out, ← HD.out, qhs (by rw [HNP.out]; exact qch _ _), HNP.out]
       have HVs := qb qfz;obtain ⟨⟨q0, q1, q2, q3, q4⟩, k0, k1, k2, k3, k4⟩ := Q5.out.resF;(go_wp2_with fail);refine qjq _ _ w.heap.size _ _ _ _ _ HVs.out rfl (put5 _ _ _ _ _ Q5.out.res) ?_;refine qgt HR.out (Q5.out.fin _ _ _ _ _).1 (Q5.out.fin _ _ _ _ _).2.1 HVs.out (fun he => ?_);exact absurd he HNe.out
     ·obtain rfl : z = 2 := by simpa using hz
      have HD : Hid (rnD s.data.toList a 0 2 b sg = R) := HD0.out;clear HD0 hz hi2
      by_cases hl : b < s.size
      ·have hd : decide ((s.size : Int) ≤ (b : Int)) = false := decide_eq_false (by omega)
       have hd2 : decide (s.size ≤ b) = false := decide_eq_false (by omega)
       have HC := qb (fun n => qhx s[b] (wr.drewN n));have HO := qb (fun n => qhg s[b] (wr.drewN n));cases hc : isC (s[b].toNat : Int) 1
       ·rw [hc] at HC;cases ho : opB s[b]
        ·rw [ho] at HO;have HNP := qb (qbdg s a b hl hc ho);clear hc ho;(go_wp2_with fail);go_quiet ((first | (go_at_call 127; exact qcgr (HC.out _)) | (go_at_call 128; exact qcgr (HO.out _))))
         have Q4 := qb (Q3.out.drewN nq);clear c0 c1 c2 d0 d1 d2 d3 d4 g0 g1 g2 g3 g4;clear Q3;generalize wr.drewN nq = W4 at *;obtain ⟨⟨c0, c1, c2⟩, ⟨d0, d1, d2, d3, d4⟩, g0, g1, g2, g3, g4⟩ := Q4.out.seen;clear HC HO;(go_wp2_with fail);refine (qgb B s b 0 a _ Q4.out.rd hbs).mono ?_;rintro r w5 ⟨rfl, h5, t5⟩;rw [qbj] at h5;have Q5 := qb (Q4.out.turn t5 h5);clear h5 t5;clear c0 c1 c2 d0 d1 d2 d3 d4 g0 g1 g2 g3 g4;clear Q4;obtain ⟨⟨c0, c1, c2⟩, ⟨d0, d1, d2, d3, d4⟩, g0, g1, g2, g3, g4⟩ := Q5.out.seen;have HNe : Hid (misL s.size b ≠ 0) := qch _ _;have HR : Hid (rpD s.data.toList a = ([], [], b, misL s.size b)) := by
          show _ = _;unfold rpD;rw [HRR.out, ← HD.out, qhs (by rw [HNP.out]; exact qch _ _), HNP.out]
         have HVs := qb qfz;obtain ⟨⟨q0, q1, q2, q3, q4⟩, k0, k1, k2, k3, k4⟩ := Q5.out.resF;(go_wp2_with fail);refine qjq _ _ w.heap.size _ _ _ _ _ HVs.out rfl (put5 _ _ _ _ _ Q5.out.res) ?_;refine qgt HR.out (Q5.out.fin _ _ _ _ _).1 (Q5.out.fin _ _ _ _ _).2.1 HVs.out (fun he => ?_);exact absurd he HNe.out
        ·have HNO := qb (qbbb s a b hl ho);have HOb := qb ho;rw [ho] at HO;clear hc ho;(go_wp2_with fail);go_quiet ((first | (go_at_call 127; exact qcgr (HC.out _)) | (go_at_call 128; exact qcgr (HO.out _))))
         have Q4 := qb (Q3.out.drewN nq);clear c0 c1 c2 d0 d1 d2 d3 d4 g0 g1 g2 g3 g4;clear Q3 HO;generalize wr.drewN nq = W4 at *;obtain ⟨⟨c0, c1, c2⟩, ⟨d0, d1, d2, d3, d4⟩, g0, g1, g2, g3, g4⟩ := Q4.out.seen;have HO := qb (fun n => qhg s[b] (W4.drewN n));rw [HOb.out] at HO;(go_wp2_with fail);go_quiet ((go_at_call 128; exact qcgr (HO.out _)))
         have Q5 := qb (Q4.out.drewN nq);clear c0 c1 c2 d0 d1 d2 d3 d4 g0 g1 g2 g3 g4;clear Q4;generalize W4.drewN nq = W5 at *;obtain ⟨⟨c0, c1, c2⟩, ⟨d0, d1, d2, d3, d4⟩, g0, g1, g2, g3, g4⟩ := Q5.out.seen;clear HO HC
         by_cases hx : b = a + 48
         ·have HX : Hid (R = .error (b, 12)) := by
           show _ = _;rw [← HD.out, qhs (by rw [HNO.out, if_pos (by omega)]; simp), HNO.out, if_pos (by omega)]
          have HNe : Hid ((12 : Int) ≠ 0) := by show _ ≠ _; decide
          have HSt := qb (qfs (a := b) (p := (a : Int)) 0 (by omega))
          clear hx;(go_wp2_with fail);refine (qbc B s b 0 a _ Q5.out.rd (by omega) (by omega)).mono ?_
          rintro r w7 ⟨rfl, h7, t7⟩;rw [HSt.out.1, HSt.out.2, qbj] at h7;have Q7 := qb (Q5.out.turn t7 h7);clear h7 t7;clear c0 c1 c2 d0 d1 d2 d3 d4 g0 g1 g2 g3 g4;obtain ⟨⟨c0, c1, c2⟩, ⟨d0, d1, d2, d3, d4⟩, g0, g1, g2, g3, g4⟩ := Q7.out.seen;(go_wp2_with fail);go_meet
          exact ⟨b, 12, sg, Q7, .inr ⟨HNe.out, hsg2, HX.out⟩⟩
         ·have HN : Hid (npD s.data.toList a b = (b + 1, true, 0)) := by
           show _ = _;rw [HNO.out, if_neg (by omega)]
          have HA : Hid (addS sg 2 true b (b + 1) = sg) := qvt;have hsl : sg.length ≤ 3 := by omega
          have HB4 : Hid (false = decide (sg.length = 3)) := by
           show _ = _;rw [decide_eq_false (by omega)]
          have HSt := qb (qfp (a := b) (p := (a : Int)) 0 (by omega))
          clear HNO;(go_wp2_with fail);refine (qbc B s b 0 a _ Q5.out.rd (by omega) (by omega)).mono ?_
          rintro r w7 ⟨rfl, h7, t7⟩;rw [HSt.out.1, HSt.out.2] at h7;have Q7 := qb (Q5.out.turn t7 h7);have hcL : b + 1 ≤ a + 48 := by omega
          obtain ⟨c, hcE⟩ : ∃ c, b + 1 = c := ⟨_, rfl⟩;rw [hcE] at Q7 HN HA hcL;clear h7 t7;clear c0 c1 c2 d0 d1 d2 d3 d4 g0 g1 g2 g3 g4;obtain ⟨⟨c0, c1, c2⟩, ⟨d0, d1, d2, d3, d4⟩, g0, g1, g2, g3, g4⟩ := Q7.out.seen;have HX : Hid (R = .ok (sg, c)) := by
           show _ = _;rw [← HD.out, qbbf HN.out, HA.out]
          (go_wp2_with fail);go_meet
          exact ⟨c, 0, sg, Q7, .inl ⟨rfl, hcL, HX.out⟩⟩
       ·rw [hc] at HC;have HNP := qb (qbkc s a b hl hc);have ho : opB s[b] = false := (qqc s[b] hc).1;clear hc;(go_wp2_with fail);go_quiet ((go_at_call 127; exact qcgr (HC.out _)))
        have Q4 := qb (Q3.out.drewN nq);clear c0 c1 c2 d0 d1 d2 d3 d4 g0 g1 g2 g3 g4;clear Q3;generalize wr.drewN nq = W4 at *;obtain ⟨⟨c0, c1, c2⟩, ⟨d0, d1, d2, d3, d4⟩, g0, g1, g2, g3, g4⟩ := Q4.out.seen;clear HO HC;have HO := qb (fun n => qhg s[b] (W4.drewN n));rw [ho] at HO;clear ho;(go_wp2_with fail);go_quiet ((go_at_call 128; exact qcgr (HO.out _)))
        have Q5 := qb (Q4.out.drewN nq);clear c0 c1 c2 d0 d1 d2 d3 d4 g0 g1 g2 g3 g4;clear Q4;generalize W4.drewN nq = W5 at *;obtain ⟨⟨c0, c1, c2⟩, ⟨d0, d1, d2, d3, d4⟩, g0, g1, g2, g3, g4⟩ := Q5.out.seen;clear HO;have hle := qbkv s a b hbs hbL;have hge := qbln s a b hbL;have HNM := qb (qrn B s b a W5 Q5.out.rd hbs hs (by omega))
        obtain ⟨c, hcE⟩ : ∃ c, (numN s.data.toList a b).1 = c := ⟨_, rfl⟩;obtain ⟨er, heE⟩ : ∃ er, (numN s.data.toList a b).2 = er := ⟨_, rfl⟩;rw [hcE, heE] at HNM HNP;rw [hcE] at hle hge;clear hcE heE;(go_wp2_with fail);refine HNM.out.mono ?_;rintro r w7 ⟨⟨t, rfl, hte⟩, h7, t7⟩;have Q7 := qb (Q5.out.turn t7 h7);have HTE := qb hte;clear h7 t7 HNM hte;clear c0 c1 c2 d0 d1 d2 d3 d4 g0 g1 g2 g3 g4;obtain ⟨⟨c0, c1, c2⟩, ⟨d0, d1, d2, d3, d4⟩, g0, g1, g2, g3, g4⟩ := Q7.out.seen
        by_cases her : er = 0
        ·subst her;have HT : Hid (t = s.extract b c) := by
          show _ = _;rw [HTE.out rfl, qbx]
         have HN := HNP;have hcL : c ≤ a + 48 := hle.2;have hcs2 : c ≤ s.size := hle.1;clear HTE HNP
         by_cases hnu : sg.length = 2
         ·obtain rfl : nu = true := by rw [HNu.out, decide_eq_true hnu]
          have HA : Hid (addS sg 2 false b c = sg ++ [(b, c)]) := qbcc hnu;have HB4 : Hid (true = decide ((sg ++ [(b, c)]).length = 3)) := by
           show _ = _;rw [decide_eq_true (by rw [qcgv, hnu]; rfl)]
          (go_wp2_with fail);have Q8 := qb (Q7.out.set 2 (.string t) _ _ t _ _ rfl);have HQ9 : Hid (RP w ((w7.setCell ⟨w.heap.size + 1, 2, none⟩ (.string t)).setCell ⟨w.heap.size + 1, 4, none⟩ (.int .i64 3)) B s c 0 a (pS s (sg ++ [(b, c)]) 0) (pS s (sg ++ [(b, c)]) 1) (pS s (sg ++ [(b, c)]) 2) (.slice none 0 0) (sg ++ [(b, c)]).length) := by
           have h9 := Q8.out.set 4 (.int .i64 3) _ _ _ _ 3 rfl;show RP _ _ _ _ _ _ _ _ _ _ _ _;rw [qcgv, hnu];rw [show pS s (sg ++ [(b, c)]) 2 = t by rw [HT.out, ← qbvx s sg b c, hnu], qbwv s sg b c 0 (by omega), qbwv s sg b c 1 (by omega)]
           exact h9
          clear Q8 Q7;have hsl : (sg ++ [(b, c)]).length ≤ 3 := by rw [qcgv, hnu]; exact Nat.le_refl _
          generalize (w7.setCell ⟨w.heap.size + 1, 2, none⟩ (.string t)).setCell ⟨w.heap.size + 1, 4, none⟩ (.int .i64 3) = w9 at *;clear c0 c1 c2 d0 d1 d2 d3 d4 g0 g1 g2 g3 g4;obtain ⟨⟨c0, c1, c2⟩, ⟨d0, d1, d2, d3, d4⟩, g0, g1, g2, g3, g4⟩ := HQ9.out.seen;have HX : Hid (R = .ok ((sg ++ [(b, c)]), c)) := by
           show _ = _;rw [← HD.out, qbbf HN.out, HA.out]
          (go_wp2_with fail);go_meet
          exact ⟨c, 0, (sg ++ [(b, c)]), HQ9, .inl ⟨rfl, hcL, HX.out⟩⟩
         ·obtain rfl : nu = false := by rw [HNu.out, decide_eq_false hnu]
          have HA : Hid (addS sg 2 false b c = sg) := qwg hnu false;have hsl : sg.length ≤ 3 := by omega
          have HB4 : Hid (false = decide (sg.length = 3)) := by
           show _ = _;rw [decide_eq_false (by omega)]
          have HX : Hid (R = .ok (sg, c)) := by
           show _ = _;rw [← HD.out, qbbf HN.out, HA.out]
          (go_wp2_with fail);go_meet
          exact ⟨c, 0, sg, Q7, .inl ⟨rfl, hcL, HX.out⟩⟩
        ·have HX : Hid (R = .error (c, er)) := by
          show _ = _;rw [← HD.out, qhs (by rw [HNP.out]; exact her), HNP.out]
         have HNe : Hid (er ≠ 0) := her;have hb1 : (er == 0) = false := by simpa using her
         have hb2 : decide (er = 0) = false := decide_eq_false her;clear her HNP HTE;cases nu
         ·(go_wp2_with fail);go_meet
          exact ⟨c, er, sg, Q7, .inr ⟨HNe.out, hsg2, HX.out⟩⟩
         ·(go_wp2_with fail);go_meet
          exact ⟨c, er, sg, Q7, .inr ⟨HNe.out, hsg2, HX.out⟩⟩
      ·have hd : decide ((s.size : Int) ≤ (b : Int)) = true := decide_eq_true (by omega)
       have hd2 : decide (s.size ≤ b) = true := decide_eq_true (by omega)
       have HNP := qb (qbmd s a b (by omega))
       (go_wp2_with fail);go_quiet (fail)
       have Q4 := qb (Q3.out.drewN nq);clear c0 c1 c2 d0 d1 d2 d3 d4 g0 g1 g2 g3 g4;clear Q3;generalize wr.drewN nq = W4 at *;obtain ⟨⟨c0, c1, c2⟩, ⟨d0, d1, d2, d3, d4⟩, g0, g1, g2, g3, g4⟩ := Q4.out.seen;(go_wp2_with fail);refine (qgb B s b 0 a _ Q4.out.rd hbs).mono ?_;rintro r w5 ⟨rfl, h5, t5⟩;rw [qbj] at h5;have Q5 := qb (Q4.out.turn t5 h5);clear h5 t5;clear c0 c1 c2 d0 d1 d2 d3 d4 g0 g1 g2 g3 g4;clear Q4;obtain ⟨⟨c0, c1, c2⟩, ⟨d0, d1, d2, d3, d4⟩, g0, g1, g2, g3, g4⟩ := Q5.out.seen;have HNe : Hid (misL s.size b ≠ 0) := qch _ _;have HR : Hid (rpD s.data.toList a = ([], [], b, misL s.size b)) := by
        show _ = _;unfold rpD;rw [HRR.out, ← HD.out, qhs (by rw [HNP.out]; exact qch _ _), HNP.out]
       have HVs := qb qfz;obtain ⟨⟨q0, q1, q2, q3, q4⟩, k0, k1, k2, k3, k4⟩ := Q5.out.resF;(go_wp2_with fail);refine qjq _ _ w.heap.size _ _ _ _ _ HVs.out rfl (put5 _ _ _ _ _ Q5.out.res) ?_;refine qgt HR.out (Q5.out.fin _ _ _ _ _).1 (Q5.out.fin _ _ _ _ _).2.1 HVs.out (fun he => ?_);exact absurd he HNe.out
    ·have HX := qb h12;have HNe : Hid ((12 : Int) ≠ 0) := by show _ ≠ _; decide
     clear h12 HIe;have hz2 : decide (z < 3) = true := decide_eq_true (by omega)
     (go_wp2_with fail);go_meet
     exact ⟨b, 12, sg, Q3, .inr ⟨HNe.out, hsg2, HX.out⟩⟩
  case rest =>
   clear Q2;obtain ⟨b, e, sg, Q3, HIe⟩ := hcut;rcases HIe.out with ⟨rfl, hbL, hOK⟩ | ⟨hne, hsg2, hER⟩
   ·have HOK := qb hOK;clear hOK HIe;have hbs : b ≤ s.size := HBS.out sg b HOK.out;have hab : a ≤ b := HAB.out sg b HOK.out;obtain ⟨⟨c0, c1, c2⟩, ⟨d0, d1, d2, d3, d4⟩, g0, g1, g2, g3, g4⟩ := Q3.out.seen
    by_cases h3 : sg.length = 3
    ·have hb3 : ((sg.length : Int) == 3) = true := by rw [h3]; rfl
     have hb3' : decide ((sg.length : Int) = 3) = true := by rw [h3]; rfl
     have HI0 := qb (qcp B s b 0 a 45 wc Q3.out.rd);rw [show (decide ((0 : Int) = 0) && atB s.data.toList b 45) = atB s.data.toList b 45 by simp] at HI0
     cases hda : atB s.data.toList b 45
     ·rw [hda] at HI0;have HT : Hid (tD s.data.toList (a + 48) b = bD s.data.toList (a + 48) b) := by
       show _ = _;unfold tD;rw [if_neg (fun x => by rw [(qbz _ b 45).2 x] at hda; cases hda)]
      have HP : Hid (preD s.data.toList b = []) := by
       show _ = _;unfold preD;rw [if_neg (fun x => by rw [(qbz _ b 45).2 x] at hda; cases hda)]
      have HVs := qb qfz;clear hda;(go_wp2_with fail);refine HI0.out.mono ?_;rintro r w11 ⟨rfl, n11, rfl⟩;have Q11 := qb (Q3.out.drewN n11);clear HI0 Q3;clear c0 c1 c2 d0 d1 d2 d3 d4 g0 g1 g2 g3 g4;generalize wc.drewN n11 = W11 at *;obtain ⟨⟨c0, c1, c2⟩, ⟨d0, d1, d2, d3, d4⟩, g0, g1, g2, g3, g4⟩ := Q11.out.seen;have HI := qb (qcp B s b 0 a 43 W11 Q11.out.rd);rw [show (decide ((0 : Int) = 0) && atB s.data.toList b 43) = atB s.data.toList b 43 by simp] at HI
      cases hpl : atB s.data.toList b 43
      ·rw [hpl] at HI;have HXb : Hid (bD s.data.toList (a + 48) b = (b, 0)) := by
        show _ = _;unfold bD;rw [if_neg (fun x => by rw [(qbz _ b 43).2 x] at hpl; cases hpl)]
       have HR : Hid (rpD s.data.toList a = (sg, [], b, 0)) := by
        show _ = _;unfold rpD;rw [HRR.out, HOK.out];dsimp only;rw [if_pos h3, HT.out, HP.out, HXb.out]
       clear hpl;(go_wp2_with fail);refine HI.out.mono ?_;rintro r w16 ⟨rfl, n16, rfl⟩;have Q16 := qb (Q11.out.drewN n16);clear c0 c1 c2 d0 d1 d2 d3 d4 g0 g1 g2 g3 g4;generalize W11.drewN n16 = W16 at *;obtain ⟨⟨c0, c1, c2⟩, ⟨d0, d1, d2, d3, d4⟩, g0, g1, g2, g3, g4⟩ := Q16.out.seen;obtain ⟨⟨q0, q1, q2, q3, q4⟩, k0, k1, k2, k3, k4⟩ := Q16.out.resF;(go_wp2_with fail);refine qjq _ _ w.heap.size _ _ _ _ _ HVs.out rfl (put5 _ _ _ _ _ Q16.out.res) ?_;refine qgt HR.out (Q16.out.fin _ _ _ _ _).1 (Q16.out.fin _ _ _ _ _).2.1 HVs.out (fun he => ?_);exact ⟨rfl, rfl, rfl, by first | rfl | exact h3.symm, qt _, qwl _, qzs⟩
      ·rw [hpl] at HI;have hcs : b < s.size := qnj hpl
       by_cases hx : b = a + 48
       ·have HXb : Hid (bD s.data.toList (a + 48) b = (b, 12)) := by
         show _ = _;unfold bD;rw [if_pos ((qbz _ b 43).1 hpl), if_pos (by omega)]
        have HR : Hid (rpD s.data.toList a = (sg, [], b, 12)) := by
         show _ = _;unfold rpD;rw [HRR.out, HOK.out];dsimp only;rw [if_pos h3, HT.out, HP.out, HXb.out]
        have HNe : Hid ((12 : Int) ≠ 0) := by show _ ≠ _; decide
        have HSt := qb (qfs (a := b) (p := (a : Int)) 0 (by omega))
        clear hpl hx;(go_wp2_with fail);refine HI.out.mono ?_;rintro r w16 ⟨rfl, n16, rfl⟩;have Q16 := qb (Q11.out.drewN n16);clear c0 c1 c2 d0 d1 d2 d3 d4 g0 g1 g2 g3 g4;generalize W11.drewN n16 = W16 at *;(go_wp2_with fail);refine (qbc B s b 0 a _ Q16.out.rd (by omega) (by omega)).mono ?_
        rintro r w17 ⟨rfl, h17, t17⟩;rw [HSt.out.1, HSt.out.2, qbj] at h17;have Q17 := qb (Q16.out.turn t17 h17);clear h17 t17;(go_wp2_with fail);refine (qqw false B s b 12 a (by decide) _ Q17.out.rd).mono ?_
        rintro r w18 ⟨rfl, hw18⟩;rw [hw18];clear hw18 w18;obtain ⟨⟨c0, c1, c2⟩, ⟨d0, d1, d2, d3, d4⟩, g0, g1, g2, g3, g4⟩ := Q17.out.seen;obtain ⟨⟨q0, q1, q2, q3, q4⟩, k0, k1, k2, k3, k4⟩ := Q17.out.resF;(go_wp2_with fail);refine qjq _ _ w.heap.size _ _ _ _ _ HVs.out rfl (put5 _ _ _ _ _ Q17.out.res) ?_;refine qgt HR.out (Q17.out.fin _ _ _ _ _).1 (Q17.out.fin _ _ _ _ _).2.1 HVs.out (fun he => ?_);exact absurd he HNe.out
       ·have hcL2 : b + 1 ≤ a + 48 := by omega
        have HSt := qb (qfp (a := b) (p := (a : Int)) 0 (by omega))
        have HXb : Hid (bD s.data.toList (a + 48) b = idsD false s.data.toList (a + 48) (qp s.data.toList (b + 1))) := by
         show _ = _;unfold bD;rw [if_pos ((qbz _ b 43).1 hpl), if_neg (by omega)]
        have HR : Hid (rpD s.data.toList a = (sg, [], (idsD false s.data.toList (a + 48) (qp s.data.toList (b + 1))).1, (idsD false s.data.toList (a + 48) (qp s.data.toList (b + 1))).2)) := by
         show _ = _;unfold rpD;rw [HRR.out, HOK.out];dsimp only;rw [if_pos h3, HT.out, HP.out, HXb.out]
        clear hpl HXb;(go_wp2_with fail);refine HI.out.mono ?_;rintro r w16 ⟨rfl, n16, rfl⟩;have Q16 := qb (Q11.out.drewN n16);clear c0 c1 c2 d0 d1 d2 d3 d4 g0 g1 g2 g3 g4;generalize W11.drewN n16 = W16 at *;(go_wp2_with fail);refine (qbc B s b 0 a _ Q16.out.rd (by omega) (by omega)).mono ?_
        rintro r w17 ⟨rfl, h17, t17⟩;rw [HSt.out.1, HSt.out.2] at h17;have Q17 := qb (Q16.out.turn t17 h17);clear h17 t17;(go_wp2_with fail);refine (qrj false B s (b + 1) a _ Q17.out.rd (by omega) hs (by omega) hcL2).mono ?_
        rintro r w18 ⟨h18, t18, h18c⟩;have Q18 := qb (Q17.out.turn t18 h18);clear h18 t18;generalize (idsD false s.data.toList (a + 48) (qp s.data.toList (b + 1))).1 = cy at *;generalize (idsD false s.data.toList (a + 48) (qp s.data.toList (b + 1))).2 = ey at *;rcases h18c with ⟨rfl, v18, rfl, o18⟩ | ⟨hne, rfl⟩
        ·clear o18;obtain ⟨⟨c0, c1, c2⟩, ⟨d0, d1, d2, d3, d4⟩, g0, g1, g2, g3, g4⟩ := Q18.out.seen;obtain ⟨⟨q0, q1, q2, q3, q4⟩, k0, k1, k2, k3, k4⟩ := Q18.out.resF;(go_wp2_with fail);refine qjq _ _ w.heap.size _ _ _ _ _ HVs.out rfl (put5 _ _ _ _ _ Q18.out.res) ?_;refine qgt HR.out (Q18.out.fin _ _ _ _ _).1 (Q18.out.fin _ _ _ _ _).2.1 HVs.out (fun he => ?_);exact ⟨rfl, rfl, rfl, by first | rfl | exact h3.symm, qt _, qwl _, qzs⟩
        ·have HNe : Hid (ey ≠ 0) := hne;clear hne;obtain ⟨⟨c0, c1, c2⟩, ⟨d0, d1, d2, d3, d4⟩, g0, g1, g2, g3, g4⟩ := Q18.out.seen;obtain ⟨⟨q0, q1, q2, q3, q4⟩, k0, k1, k2, k3, k4⟩ := Q18.out.resF;(go_wp2_with fail);refine qjq _ _ w.heap.size _ _ _ _ _ HVs.out rfl (put5 _ _ _ _ _ Q18.out.res) ?_;refine qgt HR.out (Q18.out.fin _ _ _ _ _).1 (Q18.out.fin _ _ _ _ _).2.1 HVs.out (fun he => ?_);exact absurd he HNe.out
     ·rw [hda] at HI0;have hbl : b < s.size := qnj hda
      by_cases hx : b = a + 48
      ·have HR : Hid (rpD s.data.toList a = (sg, preD s.data.toList b, b, 12)) := by
        show _ = _;unfold rpD;rw [HRR.out, HOK.out];dsimp only;unfold tD;rw [if_pos h3, if_pos ((qbz _ b 45).1 hda), if_pos (by omega)]
       have HVs := qb qfz;have HNe : Hid ((12 : Int) ≠ 0) := by show _ ≠ _; decide
       have HSt := qb (qfs (a := b) (p := (a : Int)) 0 (by omega))
       clear hda hx;(go_wp2_with fail);refine HI0.out.mono ?_;rintro r w11 ⟨rfl, n11, rfl⟩;have Q11 := qb (Q3.out.drewN n11);clear HI0 Q3;clear c0 c1 c2 d0 d1 d2 d3 d4 g0 g1 g2 g3 g4;generalize wc.drewN n11 = W11 at *;(go_wp2_with fail);refine (qbc B s b 0 a _ Q11.out.rd (by omega) (by omega)).mono ?_
       rintro r w12 ⟨rfl, h12, t12⟩;rw [HSt.out.1, HSt.out.2, qbj] at h12;have Q12 := qb (Q11.out.turn t12 h12);clear h12 t12;(go_wp2_with fail);refine (qqw true B s b 12 a (by decide) _ Q12.out.rd).mono ?_
       rintro r w13 ⟨rfl, hw13⟩;rw [hw13];clear hw13 w13;obtain ⟨⟨c0, c1, c2⟩, ⟨d0, d1, d2, d3, d4⟩, g0, g1, g2, g3, g4⟩ := Q12.out.seen;have Q13 := qb (Q12.out.set 3 (.slice none 0 0) _ _ _ (.slice none 0 0) _ rfl);have HI := qb (qcp B s b 12 a 43 _ Q13.out.rd);rw [show (decide ((12 : Int) = 0) && atB s.data.toList b 43) = false by simp] at HI
       (go_wp2_with fail);refine HI.out.mono ?_;rintro r w16 ⟨rfl, n16, rfl⟩;have Q16 := qb (Q13.out.drewN n16);clear c0 c1 c2 d0 d1 d2 d3 d4 g0 g1 g2 g3 g4;obtain ⟨⟨c0, c1, c2⟩, ⟨d0, d1, d2, d3, d4⟩, g0, g1, g2, g3, g4⟩ := Q16.out.seen;obtain ⟨⟨q0, q1, q2, q3, q4⟩, k0, k1, k2, k3, k4⟩ := Q16.out.resF;(go_wp2_with fail);refine qjq _ _ w.heap.size _ _ _ _ _ HVs.out rfl (put5 _ _ _ _ _ Q16.out.res) ?_;refine qgt HR.out (Q16.out.fin _ _ _ _ _).1 (Q16.out.fin _ _ _ _ _).2.1 HVs.out (fun he => ?_);exact absurd he HNe.out
      ·have HD0 : Hid (rpD s.data.toList a = (sg, preD s.data.toList b, if (idsD true s.data.toList (a + 48) (qp s.data.toList (b + 1))).2 ≠ 0 then idsD true s.data.toList (a + 48) (qp s.data.toList (b + 1)) else bD s.data.toList (a + 48) (idsD true s.data.toList (a + 48) (qp s.data.toList (b + 1))).1)) := by
        show _ = _;unfold rpD;rw [HRR.out, HOK.out];dsimp only;unfold tD;rw [if_pos h3, if_pos ((qbz _ b 45).1 hda), if_neg (by omega)]
       have HT0 : Hid (tD s.data.toList (a + 48) b = if (idsD true s.data.toList (a + 48) (qp s.data.toList (b + 1))).2 ≠ 0 then idsD true s.data.toList (a + 48) (qp s.data.toList (b + 1)) else bD s.data.toList (a + 48) (idsD true s.data.toList (a + 48) (qp s.data.toList (b + 1))).1) := by
        show _ = _;unfold tD;rw [if_pos ((qbz _ b 45).1 hda), if_neg (by omega)]
       have HP0 : Hid (preD s.data.toList b = (qp s.data.toList (b + 1)).map fun x => seg s.data.toList x.1 x.2) := by
        show _ = _;unfold preD;rw [if_pos ((qbz _ b 45).1 hda)]
       have hb1L : b + 1 ≤ a + 48 := by omega
       have HID := qb (idD_in true s (a + 48) (b + 1) (by omega) hb1L)
       have HSt := qb (qfp (a := b) (p := (a : Int)) 0 (by omega))
       clear hda;(go_wp2_with fail);refine HI0.out.mono ?_;rintro r w11 ⟨rfl, n11, rfl⟩;have Q11 := qb (Q3.out.drewN n11);clear HI0 Q3;clear c0 c1 c2 d0 d1 d2 d3 d4 g0 g1 g2 g3 g4;generalize wc.drewN n11 = W11 at *;(go_wp2_with fail);refine (qbc B s b 0 a _ Q11.out.rd (by omega) (by omega)).mono ?_
       rintro r w12 ⟨rfl, h12, t12⟩;rw [HSt.out.1, HSt.out.2] at h12;have Q12 := qb (Q11.out.turn t12 h12);have hbase : w.heap.size + 1 < w12.heap.size := Q12.out.lt;clear h12 t12;(go_wp2_with fail);refine (qrj true B s (b + 1) a _ Q12.out.rd (by omega) hs (by omega) hb1L).mono ?_
       rintro r w13 ⟨h13, t13, h13c⟩;have Q13 := qb (Q12.out.turn t13 h13);clear h13 t13;obtain ⟨cx, hcx⟩ : ∃ cx, (idsD true s.data.toList (a + 48) (qp s.data.toList (b + 1))).1 = cx := ⟨_, rfl⟩;obtain ⟨ex, hex⟩ : ∃ ex, (idsD true s.data.toList (a + 48) (qp s.data.toList (b + 1))).2 = ex := ⟨_, rfl⟩;rw [hcx, hex] at HT0 Q13 HID;rw [hex] at h13c;have HCE : Hid (idsD true s.data.toList (a + 48) (qp s.data.toList (b + 1)) = (cx, ex)) := Prod.ext hcx hex;clear hcx hex HD0;rcases h13c with ⟨rfl, v13, rfl, o13⟩ | ⟨hne, rfl⟩
       ·have O13 := qb o13;have HVs : Hid (∃ b m c, v13 = .slice b m c) := qcbx o13;have HT : Hid (tD s.data.toList (a + 48) b = bD s.data.toList (a + 48) cx) := by
         show _ = _;rw [HT0.out, if_neg (by simp)]
        have HP := HP0;have hcs9 : cx ≤ s.size := (HID.out rfl).1;have hcL9 : cx ≤ a + 48 := (HID.out rfl).2.1;have hcG9 : a ≤ cx := by have := (HID.out rfl).2.2; omega
        clear o13;obtain ⟨⟨c0, c1, c2⟩, ⟨d0, d1, d2, d3, d4⟩, g0, g1, g2, g3, g4⟩ := Q13.out.seen;have Q14 := qb (Q13.out.set 3 v13 _ _ _ v13 _ rfl);have O14 := qb (ql O13.out (Turn.set (w.heap.size + 1) 3 w13 v13) hbase);obtain ⟨va, vm, vc, hvv⟩ := HVs.out;subst hvv;go_upto_region 24 with fail
        generalize w13.setCell ⟨w.heap.size + 1, 3, none⟩ (.slice va vm vc) = W14 at *;clear c0 c1 c2 d0 d1 d2 d3 d4 g0 g1 g2 g3 g4;obtain ⟨⟨c0, c1, c2⟩, ⟨d0, d1, d2, d3, d4⟩, g0, g1, g2, g3, g4⟩ := Q14.out.seen;have HI := qb (qcp B s cx 0 a 43 W14 Q14.out.rd);rw [show (decide ((0 : Int) = 0) && atB s.data.toList cx 43) = atB s.data.toList cx 43 by simp] at HI
        cases hpl : atB s.data.toList cx 43
        ·rw [hpl] at HI;have HXb : Hid (bD s.data.toList (a + 48) cx = (cx, 0)) := by
          show _ = _;unfold bD;rw [if_neg (fun x => by rw [(qbz _ cx 43).2 x] at hpl; cases hpl)]
         have HR : Hid (rpD s.data.toList a = (sg, (qp s.data.toList (b + 1)).map fun x => seg s.data.toList x.1 x.2, cx, 0)) := by
          show _ = _;unfold rpD;rw [HRR.out, HOK.out];dsimp only;rw [if_pos h3, HT.out, HP.out, HXb.out]
         clear hpl;(go_wp2_with fail);refine HI.out.mono ?_;rintro r w16 ⟨rfl, n16, rfl⟩;have Q16 := qb (Q14.out.drewN n16);have O16 := qb (ql O14.out (Turn.drewN B _ n16) (by omega))
         clear c0 c1 c2 d0 d1 d2 d3 d4 g0 g1 g2 g3 g4;generalize W14.drewN n16 = W16 at *;obtain ⟨⟨c0, c1, c2⟩, ⟨d0, d1, d2, d3, d4⟩, g0, g1, g2, g3, g4⟩ := Q16.out.seen;obtain ⟨⟨q0, q1, q2, q3, q4⟩, k0, k1, k2, k3, k4⟩ := Q16.out.resF;(go_wp2_with fail);refine qjq _ _ w.heap.size _ _ _ _ _ HVs.out rfl (put5 _ _ _ _ _ Q16.out.res) ?_;refine qgt HR.out (Q16.out.fin _ _ _ _ _).1 (Q16.out.fin _ _ _ _ _).2.1 HVs.out (fun he => ?_);exact ⟨rfl, rfl, rfl, by first | rfl | exact h3.symm, qdl (ql O16.out (Q16.out.fin _ _ _ _ _).2.2 (by omega)), fun a i c h => Nat.le_trans (by omega) (qds O16.out a i c h), qsd O16.out⟩
        ·rw [hpl] at HI;have hcs : cx < s.size := qnj hpl
         by_cases hx : cx = a + 48
         ·have HXb : Hid (bD s.data.toList (a + 48) cx = (cx, 12)) := by
           show _ = _;unfold bD;rw [if_pos ((qbz _ cx 43).1 hpl), if_pos (by omega)]
          have HR : Hid (rpD s.data.toList a = (sg, (qp s.data.toList (b + 1)).map fun x => seg s.data.toList x.1 x.2, cx, 12)) := by
           show _ = _;unfold rpD;rw [HRR.out, HOK.out];dsimp only;rw [if_pos h3, HT.out, HP.out, HXb.out]
          have HNe : Hid ((12 : Int) ≠ 0) := by show _ ≠ _; decide
          have HSt := qb (qfs (a := cx) (p := (a : Int)) 0 (by omega))
          clear hpl hx;(go_wp2_with fail);refine HI.out.mono ?_;rintro r w16 ⟨rfl, n16, rfl⟩;have Q16 := qb (Q14.out.drewN n16);clear c0 c1 c2 d0 d1 d2 d3 d4 g0 g1 g2 g3 g4;generalize W14.drewN n16 = W16 at *;(go_wp2_with fail);refine (qbc B s cx 0 a _ Q16.out.rd (by omega) (by omega)).mono ?_
          rintro r w17 ⟨rfl, h17, t17⟩;rw [HSt.out.1, HSt.out.2, qbj] at h17;have Q17 := qb (Q16.out.turn t17 h17);clear h17 t17;(go_wp2_with fail);refine (qqw false B s cx 12 a (by decide) _ Q17.out.rd).mono ?_
          rintro r w18 ⟨rfl, hw18⟩;rw [hw18];clear hw18 w18;obtain ⟨⟨c0, c1, c2⟩, ⟨d0, d1, d2, d3, d4⟩, g0, g1, g2, g3, g4⟩ := Q17.out.seen;obtain ⟨⟨q0, q1, q2, q3, q4⟩, k0, k1, k2, k3, k4⟩ := Q17.out.resF;(go_wp2_with fail);refine qjq _ _ w.heap.size _ _ _ _ _ HVs.out rfl (put5 _ _ _ _ _ Q17.out.res) ?_;refine qgt HR.out (Q17.out.fin _ _ _ _ _).1 (Q17.out.fin _ _ _ _ _).2.1 HVs.out (fun he => ?_);exact absurd he HNe.out
         ·have hcL2 : cx + 1 ≤ a + 48 := by omega
          have HSt := qb (qfp (a := cx) (p := (a : Int)) 0 (by omega))
          have HXb : Hid (bD s.data.toList (a + 48) cx = idsD false s.data.toList (a + 48) (qp s.data.toList (cx + 1))) := by
           show _ = _;unfold bD;rw [if_pos ((qbz _ cx 43).1 hpl), if_neg (by omega)]
          have HR : Hid (rpD s.data.toList a = (sg, (qp s.data.toList (b + 1)).map fun x => seg s.data.toList x.1 x.2, (idsD false s.data.toList (a + 48) (qp s.data.toList (cx + 1))).1, (idsD false s.data.toList (a + 48) (qp s.data.toList (cx + 1))).2)) := by
           show _ = _;unfold rpD;rw [HRR.out, HOK.out];dsimp only;rw [if_pos h3, HT.out, HP.out, HXb.out]
          clear hpl HXb;(go_wp2_with fail);refine HI.out.mono ?_;rintro r w16 ⟨rfl, n16, rfl⟩;have Q16 := qb (Q14.out.drewN n16);have O16 := qb (ql O14.out (Turn.drewN B _ n16) (by omega))
          clear c0 c1 c2 d0 d1 d2 d3 d4 g0 g1 g2 g3 g4;generalize W14.drewN n16 = W16 at *;(go_wp2_with fail);refine (qbc B s cx 0 a _ Q16.out.rd (by omega) (by omega)).mono ?_
          rintro r w17 ⟨rfl, h17, t17⟩;rw [HSt.out.1, HSt.out.2] at h17;have Q17 := qb (Q16.out.turn t17 h17);have O17 := qb (ql O16.out t17 (by omega))
          clear h17 t17;(go_wp2_with fail);refine (qrj false B s (cx + 1) a _ Q17.out.rd (by omega) hs (by omega) hcL2).mono ?_
          rintro r w18 ⟨h18, t18, h18c⟩;have Q18 := qb (Q17.out.turn t18 h18);have O18 := qb (ql O17.out t18 (by omega))
          clear h18 t18;generalize (idsD false s.data.toList (a + 48) (qp s.data.toList (cx + 1))).1 = cy at *;generalize (idsD false s.data.toList (a + 48) (qp s.data.toList (cx + 1))).2 = ey at *;rcases h18c with ⟨rfl, v18, rfl, o18⟩ | ⟨hne, rfl⟩
          ·clear o18;obtain ⟨⟨c0, c1, c2⟩, ⟨d0, d1, d2, d3, d4⟩, g0, g1, g2, g3, g4⟩ := Q18.out.seen;obtain ⟨⟨q0, q1, q2, q3, q4⟩, k0, k1, k2, k3, k4⟩ := Q18.out.resF;(go_wp2_with fail);refine qjq _ _ w.heap.size _ _ _ _ _ HVs.out rfl (put5 _ _ _ _ _ Q18.out.res) ?_;refine qgt HR.out (Q18.out.fin _ _ _ _ _).1 (Q18.out.fin _ _ _ _ _).2.1 HVs.out (fun he => ?_);exact ⟨rfl, rfl, rfl, by first | rfl | exact h3.symm, qdl (ql O18.out (Q18.out.fin _ _ _ _ _).2.2 (by omega)), fun a i c h => Nat.le_trans (by omega) (qds O18.out a i c h), qsd O18.out⟩
          ·have HNe : Hid (ey ≠ 0) := hne;clear hne;obtain ⟨⟨c0, c1, c2⟩, ⟨d0, d1, d2, d3, d4⟩, g0, g1, g2, g3, g4⟩ := Q18.out.seen;obtain ⟨⟨q0, q1, q2, q3, q4⟩, k0, k1, k2, k3, k4⟩ := Q18.out.resF;(go_wp2_with fail);refine qjq _ _ w.heap.size _ _ _ _ _ HVs.out rfl (put5 _ _ _ _ _ Q18.out.res) ?_;refine qgt HR.out (Q18.out.fin _ _ _ _ _).1 (Q18.out.fin _ _ _ _ _).2.1 HVs.out (fun he => ?_);exact absurd he HNe.out
       ·have HNe : Hid (ex ≠ 0) := hne;have HR : Hid (rpD s.data.toList a = (sg, preD s.data.toList b, cx, ex)) := by
         show _ = _;unfold rpD;rw [HRR.out, HOK.out];dsimp only;rw [if_pos h3, HT0.out, if_pos HNe.out, HCE.out]
        have HVs := qb qfz;clear hne;obtain ⟨⟨c0, c1, c2⟩, ⟨d0, d1, d2, d3, d4⟩, g0, g1, g2, g3, g4⟩ := Q13.out.seen;have Q14 := qb (Q13.out.set 3 (.slice none 0 0) _ _ _ (.slice none 0 0) _ rfl);have HI := qb (qcp B s cx ex a 43 _ Q14.out.rd);rw [show (decide (ex = 0) && atB s.data.toList cx 43) = false by rw [decide_eq_false HNe.out]; rfl] at HI
        (go_wp2_with fail);refine HI.out.mono ?_;rintro r w16 ⟨rfl, n16, rfl⟩;have Q16 := qb (Q14.out.drewN n16);clear c0 c1 c2 d0 d1 d2 d3 d4 g0 g1 g2 g3 g4;obtain ⟨⟨c0, c1, c2⟩, ⟨d0, d1, d2, d3, d4⟩, g0, g1, g2, g3, g4⟩ := Q16.out.seen;obtain ⟨⟨q0, q1, q2, q3, q4⟩, k0, k1, k2, k3, k4⟩ := Q16.out.resF;(go_wp2_with fail);refine qjq _ _ w.heap.size _ _ _ _ _ HVs.out rfl (put5 _ _ _ _ _ Q16.out.res) ?_;refine qgt HR.out (Q16.out.fin _ _ _ _ _).1 (Q16.out.fin _ _ _ _ _).2.1 HVs.out (fun he => ?_);exact absurd he HNe.out
    ·have hb3 : ((sg.length : Int) == 3) = false := by rw [beq_eq_false_iff_ne]; omega
     have hb3' : decide ((sg.length : Int) = 3) = false := decide_eq_false (by omega)
     have HR : Hid (rpD s.data.toList a = (sg, [], b, 0)) := by
      show _ = _;unfold rpD;rw [HRR.out, HOK.out];dsimp only;rw [if_neg h3]
     have HVs := qb qfz;obtain ⟨⟨q0, q1, q2, q3, q4⟩, k0, k1, k2, k3, k4⟩ := Q3.out.resF;(go_wp2_with fail);refine qjq _ _ w.heap.size _ _ _ _ _ HVs.out rfl (put5 _ _ _ _ _ Q3.out.res) ?_;refine qgt HR.out (Q3.out.fin _ _ _ _ _).1 (Q3.out.fin _ _ _ _ _).2.1 HVs.out (fun he => ?_);exact ⟨rfl, rfl, rfl, by first | rfl | exact h3.symm, qt _, qwl _, qzs⟩
   ·have HNe : Hid (e ≠ 0) := hne;have HER := qb hER;clear hne hER HIe;obtain ⟨⟨c0, c1, c2⟩, ⟨d0, d1, d2, d3, d4⟩, g0, g1, g2, g3, g4⟩ := Q3.out.seen;have hb3 : ((sg.length : Int) == 3) = false := by rw [beq_eq_false_iff_ne]; omega
    have hb3' : decide ((sg.length : Int) = 3) = false := decide_eq_false (by omega)
    have HR : Hid (rpD s.data.toList a = ([], [], b, e)) := by
     show _ = _;unfold rpD;rw [HRR.out, HER.out]
    have HVs := qb qfz;obtain ⟨⟨q0, q1, q2, q3, q4⟩, k0, k1, k2, k3, k4⟩ := Q3.out.resF;(go_wp2_with fail);refine qjq _ _ w.heap.size _ _ _ _ _ HVs.out rfl (put5 _ _ _ _ _ Q3.out.res) ?_;refine qgt HR.out (Q3.out.fin _ _ _ _ _).1 (Q3.out.fin _ _ _ _ _).2.1 HVs.out (fun he => ?_);exact absurd he HNe.out
end Go.Proofs.YtpdlgiioahjhiaaGreat
