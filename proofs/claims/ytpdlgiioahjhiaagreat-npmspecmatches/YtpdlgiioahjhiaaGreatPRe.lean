/- The document's reader: identifiers with dots between: the wa -/
import Derived.Deep.RegionHeld3
import Derived.Deep.AppendLies
import Derived.Test.YtpdlgiioahjhiaaGreatPRd
namespace Go.Proofs.YtpdlgiioahjhiaaGreat
open Go.RowKit Go.Shelf
open Calls renaming quiet_of_same → qcgr
open List renaming getElem?_eq_getElem → qcfb, length_append → qcgv
set_option linter.unusedVariables false
set_option maxHeartbeats 4000000
set_option maxRecDepth 100000
theorem Turn.alloc {B : Nat} {w W : World} (h : Turn B w W) (o : Obj) : Turn B w (W.alloc o) := h.trans (Turn.ofBelow ((Below.refl _ W).alloc (Nat.le_refl _) o))
theorem RdAt.alloc {W : World} {B : Nat} {s : QY} {a : Nat} {e : Int} (h : RdAt W B s a e) (o : Obj) : RdAt (W.alloc o) B s a e := (Below.heap_alloc W o B h.lt).trans h
theorem qdw {B : Nat} {w W W' : World} {row : Option Nat} (h : Turn B w W) (hg : W.grownBy W' row) (hr : ∀ k, row = some k → w.heap.size ≤ k) : Turn B w W' :=
 ⟨hg.os.trans h.os, hg.tape.trans h.tape, hg.output.trans h.output, Nat.le_trans h.size hg.size, fun k hk hn => (hg.block k (Nat.lt_of_lt_of_le hk h.size) (fun e => by have := hr k e.symm; omega)).trans (h.block k hk hn)⟩
theorem qvc {W W' : World} {B : Nat} {s : QY} {a : Nat} {e : Int} {row : Option Nat} (h : RdAt W B s a e) (hg : W.grownBy W' row) (hr : row ≠ some B) : RdAt W' B s a e := (hg.block B h.lt (fun e => hr e.symm)).trans h
theorem qrh (p : Bool) (B : Nat) (s : QY) (a : Nat) (w : World) (h : RdAt w B s a 0) (ha : a ≤ s.size) (hs : s.size ≤ 64) :
    Calls Tryz.prog 115 #[.pointer (some ⟨B, 0, none⟩), .bool p] w (qnd s p a B w) := by
  obtain ⟨i0, hi, hz0, hz1, hz2⟩ := info_parts Tryz.info9;have hBs := h.lt;obtain ⟨c0, c1, c2, f1, f2⟩ := h.seen;have H := qb h;clear h;have HL := qb (qh s);go_enter Tryz.func115, Tryz.ntmps115
  (go_wp2_with fail);clear c0 c1 c2 f1 f2;go_loopw [5] (fun v wr => ∃ (done : List (Nat × Nat)) (k : Nat), a ≤ k ∧ k ≤ s.size ∧ done.length ≤ k ∧ RdAt wr B s k 0 ∧ Hid (done ++ qp s.data.toList k = qp s.data.toList a) ∧ Hid (qcj p s.data.toList done = none) ∧ Hid (wr.ownsRow w.heap.size 9 1 v done.length (strs s done)) ∧ Turn B w wr) (fun _ wr => s.size - qblz wr B)
  case atStart => exact ⟨[], a, by omega, ha, by simp, H.out, rfl, rfl, World.ownsRow_nil _ _ _ _, Turn.refl _ _⟩
  case round =>
    obtain ⟨done, k, hak, hk, hdl, R, HD, HB, HO, HTu⟩ := hrel;obtain ⟨wo, rfl⟩ : ∃ wo : World, wo = wr := ⟨_, rfl⟩;obtain ⟨c0, c1, c2, f1, f2⟩ := R.seen;have HRd := qb R;clear R;(go_wp2_with fail);clear c0 c1 c2 f1 f2;go_loopw [34] (fun _ wi => ∃ j : Nat, k ≤ j ∧ j ≤ s.size ∧ RdAt wi B s j 0 ∧ Turn B wo wi ∧ Hid (k + idL (s.data.toList.drop k) = j + idL (s.data.toList.drop j))) (fun _ wi => s.size - qblz wi B)
    case atStart => exact ⟨k, by omega, hk, HRd.out, Turn.refl _ _, rfl⟩
    case round =>
      obtain ⟨j, hkj, hj, R, HTi, HI⟩ := hrel;obtain ⟨c0, c1, c2, f1, f2⟩ := R.seen;have HRj := qb R;have HM := qb (fun n => qfn B s j 0 (wr.drewN n) (R.drewN n));clear R
      by_cases hl : j < s.size ∧ isId (s.data.toList.getD j 0) = true
      · obtain ⟨hl, hc⟩ := hl
        have hg : s.data.toList.getD j 0 = s[j] := by
          rw [List.getD_eq_getElem?_getD, qcfb (by rw [qh]; exact hl)]; rfl
        rw [hg] at hc;rw [show (decide ((0 : Int) = 0) && decide (j < s.size)) = true by simp [hl]] at HM
        have HC := qb (fun n => qjw s[j] (wr.drewN n));rw [hc] at HC;have HH := qb (qpt s j hl hc);clear hg hc;(go_wp2_with fail);go_quiet ((first | (go_at_call 116; exact Calls.quiet_of (HM.out _)) | (go_at_call 80; exact qcgr (HC.out _))))
        (go_wp2_with fail);go_roundw
        case rel => exact ⟨j + 1, by omega, by omega, (HRj.out.drewN _).step, HTi.trans ((Turn.drewN _ _ _).trans (Turn.set _ _ _ _)), by show _ = _; have := HI.out; have := HH.out; omega⟩
        case measure => rw [(HRj.out.drewN _).step.rplace, HRj.out.rplace]; omega
      · have hz : idL (s.data.toList.drop j) = 0 := by
          by_cases hl' : j < s.size
          · refine qqt s j hl' ?_
            have hg : s.data.toList.getD j 0 = s[j] := by
              rw [List.getD_eq_getElem?_getD, qcfb (by rw [qh]; exact hl')]; rfl
            rw [hg] at hl;cases hx : isId s[j]
            · rfl
            · exact absurd ⟨hl', hx⟩ hl
          · exact qsz s j (by omega)
        have HE := qb (show k + idL (s.data.toList.drop k) = j by have := HI.out; omega)
        clear hz
        by_cases hl' : j < s.size
        · have hc : isId s[j] = false := by
            have hg : s.data.toList.getD j 0 = s[j] := by
              rw [List.getD_eq_getElem?_getD, qcfb (by rw [qh]; exact hl')]; rfl
            rw [hg] at hl;cases hx : isId s[j]
            · rfl
            · exact absurd ⟨hl', hx⟩ hl
          rw [show (decide ((0 : Int) = 0) && decide (j < s.size)) = true by simp [hl']] at HM
          have HC := qb (fun n => qjw s[j] (wr.drewN n));rw [hc] at HC;clear hc hl;(go_wp2_with fail);go_quiet ((first | (go_at_call 116; exact Calls.quiet_of (HM.out _)) | (go_at_call 80; exact qcgr (HC.out _))))
          clear HC;have R2 := qb (HRj.out.drewN nq);have T2 := HTu.trans (HTi.trans (Turn.drewN B wr nq));have O2 := qb (ql HO.out (HTi.trans (Turn.drewN B wr nq)) hBs);generalize wr.drewN nq = W2 at *;clear c0 c1 c2 f1 f2 HM HTi HRj;obtain ⟨c0, c1, c2, f1, f2⟩ := R2.out.seen
          by_cases hkj' : k = j
          · have HX := qb (qbtc p s.data.toList a k done HD.out HB.out (by rw [HE.out, hkj']))
            subst hkj';clear HE;(go_wp2_with fail);refine (qjt B s k 0 W2 R2.out hk).mono ?_;rintro r w1 ⟨rfl, h1, t1⟩;rw [qbj] at h1;(go_wp2_with fail);go_ret
            exact qgd HX.out (by rw [HL.out]; exact h1) (T2.trans t1)
          · have hb : ((j : Int) == (k : Int)) = false := by simp; omega
            have HNe := qb (qbmf s k j (by omega) hj)
            clear hkj';cases p
            · have HG := qb (qqr false s.data.toList k j HNe.out rfl)
              (go_wp2_with fail);go_quiet (fail)
              have R3 := qb (R2.out.drewN nq);have T3 := T2.trans (Turn.drewN B W2 nq);have O3 := qb (ql O2.out (Turn.drewN B W2 nq) hBs);clear R2 T2 O2;generalize W2.drewN nq = W3 at *;clear c0 c1 c2 f1 f2;obtain ⟨c0, c1, c2, f1, f2⟩ := R3.out.seen;(go_wp2_with fail);have hsz := T3.size;have hj0 : (0 : Int) ≤ (j : Int) := Int.natCast_nonneg _;have hk0 : (0 : Int) ≤ (k : Int) := Int.natCast_nonneg _;have hkj2 : (k : Int) ≤ (j : Int) := by omega
              have hjs : (j : Int) ≤ (s.size : Int) := by omega
              have hrow : u5.ownBlock ≠ some B := fun hx => by have := (O3.out.lt B hx).1; omega
              have hB3 := R3.out.lt
              go_region_held3 (fun w' => w'.cell? ⟨B, 0, none⟩ = some (.string s) ∧ w'.cell? ⟨B, 1, none⟩ = some (.int .i64 (j : Int)))
                (first
                  | go_keep
                  | (
                     go_split_ands
                     refine ⟨?_, ?_⟩
                     · (rw [hgrow4.cell_far _ (by simp; omega) (Ne.symm hrow)]; assumption)
                     · (rw [hgrow4.cell_far _ (by simp; omega) (Ne.symm hrow)]; assumption)))
                ((refine step_append_lies _ (by rfl) _ _ _ (by rfl) w.heap.size 9 i0 (.string .empty) 1 16 Tryz.underlying31 hi hz0 hz1 hz2 rfl (by omega) u5 done.length (strs s done) (by rfl) ((O3.out.alloc _).drew)
                    ⟨W3.heap.size, 0, none⟩ 1 1 [.string (s.extract k j)] (by rfl) (by rfl) (World.news_of_block (cs := #[.string (s.extract k j)]) (t := 9) (fr := (0, 0)) (heap_alloc_new W3 _)) (qbg _)
                    (by omega) (by unfold maxLen; omega) (by omega) (by simp; omega) (W3.heap.size + 1) (by simp) ?_; intro g4 cap4 w4 hown4 hgrow4 hat4 hlt4))
              have hrow' : ∀ x, u5.ownBlock = some x → w.heap.size ≤ x := fun x hx => (O3.out.lt x hx).1;obtain ⟨v4, hv4⟩ : ∃ v4 : Value, v4 = .slice (some ⟨g4, 0, none⟩) (done.length + 1) cap4 := ⟨_, rfl⟩;rw [← hv4] at hown4 ⊢;clear hv4;have R4 := qb (qvc ((R3.out.alloc _).drewN 1) hgrow4 hrow);have T4 := qdw ((T3.alloc _).trans (Turn.drewN B _ 1)) hgrow4 hrow';have O4 := qb (show w4.ownsRow w.heap.size 9 1 v4 (done ++ [(k, j)]).length (strs s (done ++ [(k, j)])) by rw [qfg, qcgv]; exact hown4)
              clear c0 c1 c2 f1 f2 hown4 hgrow4 hat4 hlt4;have HI4 := qb (qhj B s j 0 46 w4 R4.out);rw [show (decide ((0 : Int) = 0) && atB s.data.toList j 46) = atB s.data.toList j 46 by simp] at HI4
              cases hdot : atB s.data.toList j 46
              · rw [hdot] at HI4
                have HX := qb (qtk false s.data.toList a k j done HD.out (qpj false s.data.toList k j done HB.out HG.out) HE.out hdot);clear hdot;(go_wp2_with fail);refine HI4.out.mono ?_;rintro r w5 ⟨rfl, n5, rfl⟩;(go_wp2_with fail);go_ret
                exact qpm HX.out (ql O4.out (Turn.drewN B _ _) hBs) (R4.out.drewN _) (T4.trans (Turn.drewN B _ _))
              · rw [hdot] at HI4
                have HX := qb (qtd s.data.toList a k j done HD.out HE.out hdot)
                have hjl : j < s.size := by
                  rcases Nat.lt_or_ge j s.size with h | h
                  · exact h
                  · rw [qfc s j 46 (by omega)] at hdot; cases hdot
                clear hdot;(go_wp2_with fail);refine HI4.out.mono ?_;rintro r w5 ⟨rfl, n5, rfl⟩;obtain ⟨c0, c1, c2, f1, f2⟩ := R4.out.seen;(go_wp2_with fail);go_roundw
                case rel => exact ⟨done ++ [(k, j)], j + 1, by omega, by omega, by simp; omega, (R4.out.drewN n5).step, HX.out, qpj false s.data.toList k j done HB.out HG.out, ql O4.out ((Turn.drewN B _ _).trans (Turn.set _ _ _ _)) hBs, T4.trans ((Turn.drewN B _ _).trans (Turn.set _ _ _ _))⟩
                case measure => rw [(R4.out.drewN n5).step.rplace, HRd.out.rplace]; omega
            · have HZ := qb (fun n => qbbw (s.extract k j) (W2.drewN n) (by rw [qbx, qx, qpw _ _ _ (by rw [qh]; exact hj)]; unfold maxLen; omega))
              rw [qfb] at HZ;cases hzz : qcq (seg s.data.toList k j)
              · rw [hzz] at HZ
                have HG := qb (qqr true s.data.toList k j HNe.out (by rw [hzz]; rfl))
                clear hzz;(go_wp2_with fail);go_quiet ((go_at_call 79; exact qcgr (HZ.out _)))
                have R3 := qb (R2.out.drewN nq);have T3 := T2.trans (Turn.drewN B W2 nq);have O3 := qb (ql O2.out (Turn.drewN B W2 nq) hBs);clear R2 T2 O2;generalize W2.drewN nq = W3 at *;clear c0 c1 c2 f1 f2;obtain ⟨c0, c1, c2, f1, f2⟩ := R3.out.seen;(go_wp2_with fail);have hsz := T3.size;have hj0 : (0 : Int) ≤ (j : Int) := Int.natCast_nonneg _;have hk0 : (0 : Int) ≤ (k : Int) := Int.natCast_nonneg _;have hkj2 : (k : Int) ≤ (j : Int) := by omega
                have hjs : (j : Int) ≤ (s.size : Int) := by omega
                have hrow : u5.ownBlock ≠ some B := fun hx => by have := (O3.out.lt B hx).1; omega
                have hB3 := R3.out.lt
                go_region_held3 (fun w' => w'.cell? ⟨B, 0, none⟩ = some (.string s) ∧ w'.cell? ⟨B, 1, none⟩ = some (.int .i64 (j : Int)))
                  (first
                    | go_keep
                    | (
                       go_split_ands
                       refine ⟨?_, ?_⟩
                       · (rw [hgrow4.cell_far _ (by simp; omega) (Ne.symm hrow)]; assumption)
                       · (rw [hgrow4.cell_far _ (by simp; omega) (Ne.symm hrow)]; assumption)))
                  ((refine step_append_lies _ (by rfl) _ _ _ (by rfl) w.heap.size 9 i0 (.string .empty) 1 16 Tryz.underlying31 hi hz0 hz1 hz2 rfl (by omega) u5 done.length (strs s done) (by rfl) ((O3.out.alloc _).drew)
                      ⟨W3.heap.size, 0, none⟩ 1 1 [.string (s.extract k j)] (by rfl) (by rfl) (World.news_of_block (cs := #[.string (s.extract k j)]) (t := 9) (fr := (0, 0)) (heap_alloc_new W3 _)) (qbg _)
                      (by omega) (by unfold maxLen; omega) (by omega) (by simp; omega) (W3.heap.size + 1) (by simp) ?_; intro g4 cap4 w4 hown4 hgrow4 hat4 hlt4))
                have hrow' : ∀ x, u5.ownBlock = some x → w.heap.size ≤ x := fun x hx => (O3.out.lt x hx).1;obtain ⟨v4, hv4⟩ : ∃ v4 : Value, v4 = .slice (some ⟨g4, 0, none⟩) (done.length + 1) cap4 := ⟨_, rfl⟩;rw [← hv4] at hown4 ⊢;clear hv4;have R4 := qb (qvc ((R3.out.alloc _).drewN 1) hgrow4 hrow);have T4 := qdw ((T3.alloc _).trans (Turn.drewN B _ 1)) hgrow4 hrow';have O4 := qb (show w4.ownsRow w.heap.size 9 1 v4 (done ++ [(k, j)]).length (strs s (done ++ [(k, j)])) by rw [qfg, qcgv]; exact hown4)
                clear c0 c1 c2 f1 f2 hown4 hgrow4 hat4 hlt4;have HI4 := qb (qhj B s j 0 46 w4 R4.out);rw [show (decide ((0 : Int) = 0) && atB s.data.toList j 46) = atB s.data.toList j 46 by simp] at HI4
                cases hdot : atB s.data.toList j 46
                · rw [hdot] at HI4
                  have HX := qb (qtk true s.data.toList a k j done HD.out (qpj true s.data.toList k j done HB.out HG.out) HE.out hdot);clear hdot;(go_wp2_with fail);refine HI4.out.mono ?_;rintro r w5 ⟨rfl, n5, rfl⟩;(go_wp2_with fail);go_ret
                  exact qpm HX.out (ql O4.out (Turn.drewN B _ _) hBs) (R4.out.drewN _) (T4.trans (Turn.drewN B _ _))
                · rw [hdot] at HI4
                  have HX := qb (qtd s.data.toList a k j done HD.out HE.out hdot)
                  have hjl : j < s.size := by
                    rcases Nat.lt_or_ge j s.size with h | h
                    · exact h
                    · rw [qfc s j 46 (by omega)] at hdot; cases hdot
                  clear hdot;(go_wp2_with fail);refine HI4.out.mono ?_;rintro r w5 ⟨rfl, n5, rfl⟩;obtain ⟨c0, c1, c2, f1, f2⟩ := R4.out.seen;(go_wp2_with fail);go_roundw
                  case rel => exact ⟨done ++ [(k, j)], j + 1, by omega, by omega, by simp; omega, (R4.out.drewN n5).step, HX.out, qpj true s.data.toList k j done HB.out HG.out, ql O4.out ((Turn.drewN B _ _).trans (Turn.set _ _ _ _)) hBs, T4.trans ((Turn.drewN B _ _).trans (Turn.set _ _ _ _))⟩
                  case measure => rw [(R4.out.drewN n5).step.rplace, HRd.out.rplace]; omega
              · rw [hzz] at HZ
                (go_wp2_with fail);go_quiet ((go_at_call 79; exact qcgr (HZ.out _)))
                have R3 := qb (R2.out.drewN nq);have T3 := T2.trans (Turn.drewN B W2 nq);clear R2 T2 O2;generalize W2.drewN nq = W3 at *;clear c0 c1 c2 f1 f2;have I1 := qb (qhj B s j 0 46 W3 R3.out);rw [show (decide ((0 : Int) = 0) && atB s.data.toList j 46) = atB s.data.toList j 46 by simp] at I1
                have I2 := qb (fun n => qhj B s j 0 43 (W3.drewN n) (R3.out.drewN n));rw [show (decide ((0 : Int) = 0) && atB s.data.toList j 43) = atB s.data.toList j 43 by simp] at I2
                have HX := qb (qbzc s.data.toList a k j done HD.out HB.out HE.out HNe.out hzz);clear hzz;cases h46 : atB s.data.toList j 46
                · rw [h46] at I1 HX
                  cases h43 : atB s.data.toList j 43
                  · rw [h43] at I2 HX
                    clear h46 h43;(go_wp2_with fail);refine I1.out.mono ?_;rintro r w5 ⟨rfl, n5, rfl⟩;(go_wp2_with fail);refine (I2.out _).mono ?_;rintro r w6 ⟨rfl, n6, rfl⟩;(go_wp2_with fail);refine (qjt B s j 0 _ (R3.out.drewN _) hj).mono ?_;rintro r w7 ⟨rfl, h7, t7⟩;rw [qbj] at h7;(go_wp2_with fail);go_ret
                    exact qgd HX.out (by simp only [Bool.or_self, Bool.false_eq_true, if_false]; rw [HL.out]; exact h7) (T3.trans ((Turn.drewN B _ _).trans t7))
                  · rw [h43] at I2 HX
                    clear h46 h43;(go_wp2_with fail);refine I1.out.mono ?_;rintro r w5 ⟨rfl, n5, rfl⟩;(go_wp2_with fail);refine (I2.out _).mono ?_;rintro r w6 ⟨rfl, n6, rfl⟩;(go_wp2_with fail);refine (qfk B s j 0 14 _ (R3.out.drewN _)).mono ?_;rintro r w7 ⟨rfl, h7, t7⟩;rw [qbj] at h7;(go_wp2_with fail);go_ret
                    exact qgd HX.out (by simp only [Bool.or_true, if_true]; exact h7) (T3.trans ((Turn.drewN B _ _).trans t7))
                · rw [h46] at I1 HX
                  clear h46;(go_wp2_with fail);refine I1.out.mono ?_;rintro r w5 ⟨rfl, n5, rfl⟩;(go_wp2_with fail);refine (qfk B s j 0 14 _ (R3.out.drewN _)).mono ?_;rintro r w7 ⟨rfl, h7, t7⟩;rw [qbj] at h7;(go_wp2_with fail);go_ret
                  exact qgd HX.out (by simp only [Bool.true_or, if_true]; exact h7) (T3.trans ((Turn.drewN B _ _).trans t7))
        · rw [show (decide ((0 : Int) = 0) && decide (j < s.size)) = false by simp [hl']] at HM
          clear hl;(go_wp2_with fail);go_quiet ((go_at_call 116; exact Calls.quiet_of (HM.out _)))
          have R2 := qb (HRj.out.drewN nq);have T2 := HTu.trans (HTi.trans (Turn.drewN B wr nq));have O2 := qb (ql HO.out (HTi.trans (Turn.drewN B wr nq)) hBs);generalize wr.drewN nq = W2 at *;clear c0 c1 c2 f1 f2 HM HTi HRj;obtain ⟨c0, c1, c2, f1, f2⟩ := R2.out.seen
          by_cases hkj' : k = j
          · have HX := qb (qbtc p s.data.toList a k done HD.out HB.out (by rw [HE.out, hkj']))
            subst hkj';clear HE;(go_wp2_with fail);refine (qjt B s k 0 W2 R2.out hk).mono ?_;rintro r w1 ⟨rfl, h1, t1⟩;rw [qbj] at h1;(go_wp2_with fail);go_ret
            exact qgd HX.out (by rw [HL.out]; exact h1) (T2.trans t1)
          · have hb : ((j : Int) == (k : Int)) = false := by simp; omega
            have HNe := qb (qbmf s k j (by omega) hj)
            clear hkj';cases p
            · have HG := qb (qqr false s.data.toList k j HNe.out rfl)
              (go_wp2_with fail);go_quiet (fail)
              have R3 := qb (R2.out.drewN nq);have T3 := T2.trans (Turn.drewN B W2 nq);have O3 := qb (ql O2.out (Turn.drewN B W2 nq) hBs);clear R2 T2 O2;generalize W2.drewN nq = W3 at *;clear c0 c1 c2 f1 f2;obtain ⟨c0, c1, c2, f1, f2⟩ := R3.out.seen;(go_wp2_with fail);have hsz := T3.size;have hj0 : (0 : Int) ≤ (j : Int) := Int.natCast_nonneg _;have hk0 : (0 : Int) ≤ (k : Int) := Int.natCast_nonneg _;have hkj2 : (k : Int) ≤ (j : Int) := by omega
              have hjs : (j : Int) ≤ (s.size : Int) := by omega
              have hrow : u5.ownBlock ≠ some B := fun hx => by have := (O3.out.lt B hx).1; omega
              have hB3 := R3.out.lt
              go_region_held3 (fun w' => w'.cell? ⟨B, 0, none⟩ = some (.string s) ∧ w'.cell? ⟨B, 1, none⟩ = some (.int .i64 (j : Int)))
                (first
                  | go_keep
                  | (
                     go_split_ands
                     refine ⟨?_, ?_⟩
                     · (rw [hgrow4.cell_far _ (by simp; omega) (Ne.symm hrow)]; assumption)
                     · (rw [hgrow4.cell_far _ (by simp; omega) (Ne.symm hrow)]; assumption)))
                ((refine step_append_lies _ (by rfl) _ _ _ (by rfl) w.heap.size 9 i0 (.string .empty) 1 16 Tryz.underlying31 hi hz0 hz1 hz2 rfl (by omega) u5 done.length (strs s done) (by rfl) ((O3.out.alloc _).drew)
                    ⟨W3.heap.size, 0, none⟩ 1 1 [.string (s.extract k j)] (by rfl) (by rfl) (World.news_of_block (cs := #[.string (s.extract k j)]) (t := 9) (fr := (0, 0)) (heap_alloc_new W3 _)) (qbg _)
                    (by omega) (by unfold maxLen; omega) (by omega) (by simp; omega) (W3.heap.size + 1) (by simp) ?_; intro g4 cap4 w4 hown4 hgrow4 hat4 hlt4))
              have hrow' : ∀ x, u5.ownBlock = some x → w.heap.size ≤ x := fun x hx => (O3.out.lt x hx).1;obtain ⟨v4, hv4⟩ : ∃ v4 : Value, v4 = .slice (some ⟨g4, 0, none⟩) (done.length + 1) cap4 := ⟨_, rfl⟩;rw [← hv4] at hown4 ⊢;clear hv4;have R4 := qb (qvc ((R3.out.alloc _).drewN 1) hgrow4 hrow);have T4 := qdw ((T3.alloc _).trans (Turn.drewN B _ 1)) hgrow4 hrow';have O4 := qb (show w4.ownsRow w.heap.size 9 1 v4 (done ++ [(k, j)]).length (strs s (done ++ [(k, j)])) by rw [qfg, qcgv]; exact hown4)
              clear c0 c1 c2 f1 f2 hown4 hgrow4 hat4 hlt4;have HI4 := qb (qhj B s j 0 46 w4 R4.out);rw [show (decide ((0 : Int) = 0) && atB s.data.toList j 46) = atB s.data.toList j 46 by simp] at HI4
              cases hdot : atB s.data.toList j 46
              · rw [hdot] at HI4
                have HX := qb (qtk false s.data.toList a k j done HD.out (qpj false s.data.toList k j done HB.out HG.out) HE.out hdot);clear hdot;(go_wp2_with fail);refine HI4.out.mono ?_;rintro r w5 ⟨rfl, n5, rfl⟩;(go_wp2_with fail);go_ret
                exact qpm HX.out (ql O4.out (Turn.drewN B _ _) hBs) (R4.out.drewN _) (T4.trans (Turn.drewN B _ _))
              · rw [hdot] at HI4
                have HX := qb (qtd s.data.toList a k j done HD.out HE.out hdot)
                have hjl : j < s.size := by
                  rcases Nat.lt_or_ge j s.size with h | h
                  · exact h
                  · rw [qfc s j 46 (by omega)] at hdot; cases hdot
                exact absurd hjl hl'
            · have HZ := qb (fun n => qbbw (s.extract k j) (W2.drewN n) (by rw [qbx, qx, qpw _ _ _ (by rw [qh]; exact hj)]; unfold maxLen; omega))
              rw [qfb] at HZ;cases hzz : qcq (seg s.data.toList k j)
              · rw [hzz] at HZ
                have HG := qb (qqr true s.data.toList k j HNe.out (by rw [hzz]; rfl))
                clear hzz;(go_wp2_with fail);go_quiet ((go_at_call 79; exact qcgr (HZ.out _)))
                have R3 := qb (R2.out.drewN nq);have T3 := T2.trans (Turn.drewN B W2 nq);have O3 := qb (ql O2.out (Turn.drewN B W2 nq) hBs);clear R2 T2 O2;generalize W2.drewN nq = W3 at *;clear c0 c1 c2 f1 f2;obtain ⟨c0, c1, c2, f1, f2⟩ := R3.out.seen;(go_wp2_with fail);have hsz := T3.size;have hj0 : (0 : Int) ≤ (j : Int) := Int.natCast_nonneg _;have hk0 : (0 : Int) ≤ (k : Int) := Int.natCast_nonneg _;have hkj2 : (k : Int) ≤ (j : Int) := by omega
                have hjs : (j : Int) ≤ (s.size : Int) := by omega
                have hrow : u5.ownBlock ≠ some B := fun hx => by have := (O3.out.lt B hx).1; omega
                have hB3 := R3.out.lt
                go_region_held3 (fun w' => w'.cell? ⟨B, 0, none⟩ = some (.string s) ∧ w'.cell? ⟨B, 1, none⟩ = some (.int .i64 (j : Int)))
                  (first
                    | go_keep
                    | (
                       go_split_ands
                       refine ⟨?_, ?_⟩
                       · (rw [hgrow4.cell_far _ (by simp; omega) (Ne.symm hrow)]; assumption)
                       · (rw [hgrow4.cell_far _ (by simp; omega) (Ne.symm hrow)]; assumption)))
                  ((refine step_append_lies _ (by rfl) _ _ _ (by rfl) w.heap.size 9 i0 (.string .empty) 1 16 Tryz.underlying31 hi hz0 hz1 hz2 rfl (by omega) u5 done.length (strs s done) (by rfl) ((O3.out.alloc _).drew)
                      ⟨W3.heap.size, 0, none⟩ 1 1 [.string (s.extract k j)] (by rfl) (by rfl) (World.news_of_block (cs := #[.string (s.extract k j)]) (t := 9) (fr := (0, 0)) (heap_alloc_new W3 _)) (qbg _)
                      (by omega) (by unfold maxLen; omega) (by omega) (by simp; omega) (W3.heap.size + 1) (by simp) ?_; intro g4 cap4 w4 hown4 hgrow4 hat4 hlt4))
                have hrow' : ∀ x, u5.ownBlock = some x → w.heap.size ≤ x := fun x hx => (O3.out.lt x hx).1;obtain ⟨v4, hv4⟩ : ∃ v4 : Value, v4 = .slice (some ⟨g4, 0, none⟩) (done.length + 1) cap4 := ⟨_, rfl⟩;rw [← hv4] at hown4 ⊢;clear hv4;have R4 := qb (qvc ((R3.out.alloc _).drewN 1) hgrow4 hrow);have T4 := qdw ((T3.alloc _).trans (Turn.drewN B _ 1)) hgrow4 hrow';have O4 := qb (show w4.ownsRow w.heap.size 9 1 v4 (done ++ [(k, j)]).length (strs s (done ++ [(k, j)])) by rw [qfg, qcgv]; exact hown4)
                clear c0 c1 c2 f1 f2 hown4 hgrow4 hat4 hlt4;have HI4 := qb (qhj B s j 0 46 w4 R4.out);rw [show (decide ((0 : Int) = 0) && atB s.data.toList j 46) = atB s.data.toList j 46 by simp] at HI4
                cases hdot : atB s.data.toList j 46
                · rw [hdot] at HI4
                  have HX := qb (qtk true s.data.toList a k j done HD.out (qpj true s.data.toList k j done HB.out HG.out) HE.out hdot);clear hdot;(go_wp2_with fail);refine HI4.out.mono ?_;rintro r w5 ⟨rfl, n5, rfl⟩;(go_wp2_with fail);go_ret
                  exact qpm HX.out (ql O4.out (Turn.drewN B _ _) hBs) (R4.out.drewN _) (T4.trans (Turn.drewN B _ _))
                · rw [hdot] at HI4
                  have HX := qb (qtd s.data.toList a k j done HD.out HE.out hdot)
                  have hjl : j < s.size := by
                    rcases Nat.lt_or_ge j s.size with h | h
                    · exact h
                    · rw [qfc s j 46 (by omega)] at hdot; cases hdot
                  exact absurd hjl hl'
              · rw [hzz] at HZ
                (go_wp2_with fail);go_quiet ((go_at_call 79; exact qcgr (HZ.out _)))
                have R3 := qb (R2.out.drewN nq);have T3 := T2.trans (Turn.drewN B W2 nq);clear R2 T2 O2;generalize W2.drewN nq = W3 at *;clear c0 c1 c2 f1 f2;have I1 := qb (qhj B s j 0 46 W3 R3.out);rw [show (decide ((0 : Int) = 0) && atB s.data.toList j 46) = atB s.data.toList j 46 by simp] at I1
                have I2 := qb (fun n => qhj B s j 0 43 (W3.drewN n) (R3.out.drewN n));rw [show (decide ((0 : Int) = 0) && atB s.data.toList j 43) = atB s.data.toList j 43 by simp] at I2
                have HX := qb (qbzc s.data.toList a k j done HD.out HB.out HE.out HNe.out hzz);clear hzz;cases h46 : atB s.data.toList j 46
                · rw [h46] at I1 HX
                  cases h43 : atB s.data.toList j 43
                  · rw [h43] at I2 HX
                    clear h46 h43;(go_wp2_with fail);refine I1.out.mono ?_;rintro r w5 ⟨rfl, n5, rfl⟩;(go_wp2_with fail);refine (I2.out _).mono ?_;rintro r w6 ⟨rfl, n6, rfl⟩;(go_wp2_with fail);refine (qjt B s j 0 _ (R3.out.drewN _) hj).mono ?_;rintro r w7 ⟨rfl, h7, t7⟩;rw [qbj] at h7;(go_wp2_with fail);go_ret
                    exact qgd HX.out (by simp only [Bool.or_self, Bool.false_eq_true, if_false]; rw [HL.out]; exact h7) (T3.trans ((Turn.drewN B _ _).trans t7))
                  · rw [h43] at I2 HX
                    clear h46 h43;(go_wp2_with fail);refine I1.out.mono ?_;rintro r w5 ⟨rfl, n5, rfl⟩;(go_wp2_with fail);refine (I2.out _).mono ?_;rintro r w6 ⟨rfl, n6, rfl⟩;(go_wp2_with fail);refine (qfk B s j 0 14 _ (R3.out.drewN _)).mono ?_;rintro r w7 ⟨rfl, h7, t7⟩;rw [qbj] at h7;(go_wp2_with fail);go_ret
                    exact qgd HX.out (by simp only [Bool.or_true, if_true]; exact h7) (T3.trans ((Turn.drewN B _ _).trans t7))
                · rw [h46] at I1 HX
                  clear h46;(go_wp2_with fail);refine I1.out.mono ?_;rintro r w5 ⟨rfl, n5, rfl⟩;(go_wp2_with fail);refine (qfk B s j 0 14 _ (R3.out.drewN _)).mono ?_;rintro r w7 ⟨rfl, h7, t7⟩;rw [qbj] at h7;(go_wp2_with fail);go_ret
                  exact qgd HX.out (by simp only [Bool.true_or, if_true]; exact h7) (T3.trans ((Turn.drewN B _ _).trans t7))
end Go.Proofs.YtpdlgiioahjhiaaGreat
