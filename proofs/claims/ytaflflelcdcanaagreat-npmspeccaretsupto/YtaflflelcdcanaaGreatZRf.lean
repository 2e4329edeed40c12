/-
  The document's reader: identifiers with dots between: the walk. · The document's parse: the walk.
-/
import Derived.Test.YtaflflelcdcanaaGreatZRd
import Derived.Deep.RegionHeld3
import Derived.Deep.AppendLies
import Derived.Test.YtaflflelcdcanaaGreatZSg
namespace Go.Proofs.YtaflflelcdcanaaGreat
open Go.RowKit Go.Shelf
set_option linter.unusedVariables false

theorem Turn.alloc {B : Nat} {w W : World} (h : Turn B w W) (o : Obj) : Turn B w (W.alloc o) := h.trans (Turn.ofBelow ((Below.refl _ W).alloc (Nat.le_refl _) o))
theorem RdAt.alloc {W : World} {B : Nat} {s : ByteArray} {a : Nat} {e : Int} (h : RdAt W B s a e) (o : Obj) : RdAt (W.alloc o) B s a e := (Below.heap_alloc W o B h.lt).trans h
theorem turn_grown {B : Nat} {w W W' : World} {row : Option Nat} (h : Turn B w W) (hg : W.grownBy W' row) (hr : ∀ k, row = some k → w.heap.size ≤ k) : Turn B w W' :=
  ⟨hg.os.trans h.os, hg.tape.trans h.tape, hg.output.trans h.output, Nat.le_trans h.size hg.size, fun k hk hn => (hg.block k (Nat.lt_of_lt_of_le hk h.size) (fun e => by have := hr k e.symm; omega)).trans (h.block k hk hn)⟩
theorem rd_grown {W W' : World} {B : Nat} {s : ByteArray} {a : Nat} {e : Int} {row : Option Nat} (h : RdAt W B s a e) (hg : W.grownBy W' row) (hr : row ≠ some B) : RdAt W' B s a e := (hg.block B h.lt (fun e => hr e.symm)).trans h

set_option maxRecDepth 100000 in
set_option maxHeartbeats 4000000 in
theorem rIdents_any (p : Bool) (B : Nat) (s : ByteArray) (a : Nat) (w : World) (h : RdAt w B s a 0) (ha : a ≤ s.size) (hs : s.size ≤ 64) :
    Calls Tryz.prog 115 #[.pointer (some ⟨B, 0, none⟩), .bool p] w (IdsPost s p a B w) := by
  obtain ⟨i0, hi, hz0, hz1, hz2⟩ := info_parts Tryz.info9
  have hBs := h.lt
  obtain ⟨c0, c1, c2, f1, f2⟩ := h.seen
  have H := hide h
  clear h
  have HL := hide (len_data s)
  go_enter Tryz.func115, Tryz.ntmps115
  go_wp2_with fail
  clear c0 c1 c2 f1 f2
  go_loopw [5] (fun v wr => ∃ (done : List (Nat × Nat)) (k : Nat), a ≤ k ∧ k ≤ s.size ∧ done.length ≤ k ∧ RdAt wr B s k 0 ∧ Hid (done ++ segs s.data.toList k = segs s.data.toList a) ∧ Hid (badOf p s.data.toList done = none) ∧ Hid (wr.ownsRow w.heap.size 9 1 v done.length (strs s done)) ∧ Turn B w wr) (fun _ wr => s.size - rplace wr B)
  case atStart => exact ⟨[], a, by omega, ha, by simp, H.out, rfl, rfl, World.ownsRow_nil _ _ _ _, Turn.refl _ _⟩
  case round =>
    obtain ⟨done, k, hak, hk, hdl, R, HD, HB, HO, HTu⟩ := hrel
    obtain ⟨wo, rfl⟩ : ∃ wo : World, wo = wr := ⟨_, rfl⟩
    obtain ⟨c0, c1, c2, f1, f2⟩ := R.seen
    have HRd := hide R
    clear R
    go_wp2_with fail
    clear c0 c1 c2 f1 f2
    go_loopw [34] (fun _ wi => ∃ j : Nat, k ≤ j ∧ j ≤ s.size ∧ RdAt wi B s j 0 ∧ Turn B wo wi ∧ Hid (k + idL (s.data.toList.drop k) = j + idL (s.data.toList.drop j))) (fun _ wi => s.size - rplace wi B)
    case atStart => exact ⟨k, by omega, hk, HRd.out, Turn.refl _ _, rfl⟩
    case round =>
      obtain ⟨j, hkj, hj, R, HTi, HI⟩ := hrel
      obtain ⟨c0, c1, c2, f1, f2⟩ := R.seen
      have HRj := hide R
      have HM := hide (fun n => rmore_any B s j 0 (wr.drewN n) (R.drewN n))
      clear R
      by_cases hl : j < s.size ∧ isId (s.data.toList.getD j 0) = true
      · obtain ⟨hl, hc⟩ := hl
        have hg : s.data.toList.getD j 0 = s[j] := by
          rw [List.getD_eq_getElem?_getD, List.getElem?_eq_getElem (by rw [len_data]; exact hl)]; rfl
        rw [hg] at hc
        rw [show (decide ((0 : Int) = 0) && decide (j < s.size)) = true by simp [hl]] at HM
        have HC := hide (fun n => rident_any s[j] (wr.drewN n))
        rw [hc] at HC
        have HH := hide (idL_hit s j hl hc)
        clear hg hc
        go_wp2_with fail
        go_quiet ((first | (go_at_call 116; exact Calls.quiet_of (HM.out _)) | (go_at_call 80; exact Calls.quiet_of_same (HC.out _))))
        go_wp2_with fail
        go_roundw
        case rel => exact ⟨j + 1, by omega, by omega, (HRj.out.drewN _).step, HTi.trans ((Turn.drewN _ _ _).trans (Turn.set _ _ _ _)), by show _ = _; have := HI.out; have := HH.out; omega⟩
        case measure => rw [(HRj.out.drewN _).step.rplace, HRj.out.rplace]; omega
      · have hz : idL (s.data.toList.drop j) = 0 := by
          by_cases hl' : j < s.size
          · refine idL_miss s j hl' ?_
            have hg : s.data.toList.getD j 0 = s[j] := by
              rw [List.getD_eq_getElem?_getD, List.getElem?_eq_getElem (by rw [len_data]; exact hl')]; rfl
            rw [hg] at hl
            cases hx : isId s[j]
            · rfl
            · exact absurd ⟨hl', hx⟩ hl
          · exact idL_end s j (by omega)
        have HE := hide (show k + idL (s.data.toList.drop k) = j by have := HI.out; omega)
        clear hz
        by_cases hl' : j < s.size
        · have hc : isId s[j] = false := by
            have hg : s.data.toList.getD j 0 = s[j] := by
              rw [List.getD_eq_getElem?_getD, List.getElem?_eq_getElem (by rw [len_data]; exact hl')]; rfl
            rw [hg] at hl
            cases hx : isId s[j]
            · rfl
            · exact absurd ⟨hl', hx⟩ hl
          rw [show (decide ((0 : Int) = 0) && decide (j < s.size)) = true by simp [hl']] at HM
          have HC := hide (fun n => rident_any s[j] (wr.drewN n))
          rw [hc] at HC
          clear hc hl
          go_wp2_with fail
          go_quiet ((first | (go_at_call 116; exact Calls.quiet_of (HM.out _)) | (go_at_call 80; exact Calls.quiet_of_same (HC.out _))))
          clear HC
          have R2 := hide (HRj.out.drewN nq)
          have T2 := HTu.trans (HTi.trans (Turn.drewN B wr nq))
          have O2 := hide (own_turn HO.out (HTi.trans (Turn.drewN B wr nq)) hBs)
          generalize wr.drewN nq = W2 at *
          clear c0 c1 c2 f1 f2 HM HTi HRj
          obtain ⟨c0, c1, c2, f1, f2⟩ := R2.out.seen
          by_cases hkj' : k = j
          · have HX := hide (ids_none p s.data.toList a k done HD.out HB.out (by rw [HE.out, hkj']))
            subst hkj'
            clear HE
            go_wp2_with fail
            refine (rnone_any B s k 0 W2 R2.out hk).mono ?_
            rintro r w1 ⟨rfl, h1, t1⟩
            rw [rerr_0] at h1
            go_wp2_with fail
            go_ret
            exact idsPost_err HX.out (by rw [HL.out]; exact h1) (T2.trans t1)
          · have hb : ((j : Int) == (k : Int)) = false := by simp; omega
            have HNe := hide (seg_ne s k j (by omega) hj)
            clear hkj'
            cases p
            · have HG := hide (ids_good false s.data.toList k j HNe.out rfl)
              go_wp2_with fail
              go_quiet (fail)
              have R3 := hide (R2.out.drewN nq)
              have T3 := T2.trans (Turn.drewN B W2 nq)
              have O3 := hide (own_turn O2.out (Turn.drewN B W2 nq) hBs)
              clear R2 T2 O2
              generalize W2.drewN nq = W3 at *
              clear c0 c1 c2 f1 f2
              obtain ⟨c0, c1, c2, f1, f2⟩ := R3.out.seen
              go_wp2_with fail
              have hsz := T3.size
              have hj0 : (0 : Int) ≤ (j : Int) := Int.natCast_nonneg _
              have hk0 : (0 : Int) ≤ (k : Int) := Int.natCast_nonneg _
              have hkj2 : (k : Int) ≤ (j : Int) := by omega
              have hjs : (j : Int) ≤ (s.size : Int) := by omega
              have hrow : u5.ownBlock ≠ some B := fun hx => by have := (O3.out.lt B hx).1; omega
              have hB3 := R3.out.lt
              go_region_held3 (fun w' => w'.cell? ⟨B, 0, none⟩ = some (.string s) ∧ w'.cell? ⟨B, 1, none⟩ = some (.int .i64 (j : Int)))
                (first
                  | go_keep
                  | (go_split_ands
                     refine ⟨?_, ?_⟩
                     · (rw [hgrow4.cell_far _ (by simp; omega) (Ne.symm hrow)]; assumption)
                     · (rw [hgrow4.cell_far _ (by simp; omega) (Ne.symm hrow)]; assumption)))
                ((refine step_append_lies _ (by rfl) _ _ _ (by rfl) w.heap.size 9 i0 (.string .empty) 1 16 Tryz.underlying31 hi hz0 hz1 hz2 rfl (by omega) u5 done.length (strs s done) (by rfl) ((O3.out.alloc _).drew)
                    ⟨W3.heap.size, 0, none⟩ 1 1 [.string (s.extract k j)] (by rfl) (by rfl) (World.news_of_block (cs := #[.string (s.extract k j)]) (t := 9) (fr := (0, 0)) (heap_alloc_new W3 _)) (str_one _)
                    (by omega) (by unfold maxLen; omega) (by omega) (by simp; omega) (W3.heap.size + 1) (by simp) ?_; intro g4 cap4 w4 hown4 hgrow4 hat4 hlt4))
              have hrow' : ∀ x, u5.ownBlock = some x → w.heap.size ≤ x := fun x hx => (O3.out.lt x hx).1
              obtain ⟨v4, hv4⟩ : ∃ v4 : Value, v4 = .slice (some ⟨g4, 0, none⟩) (done.length + 1) cap4 := ⟨_, rfl⟩
              rw [← hv4] at hown4 ⊢
              clear hv4
              have R4 := hide (rd_grown ((R3.out.alloc _).drewN 1) hgrow4 hrow)
              have T4 := turn_grown ((T3.alloc _).trans (Turn.drewN B _ 1)) hgrow4 hrow'
              have O4 := hide (show w4.ownsRow w.heap.size 9 1 v4 (done ++ [(k, j)]).length (strs s (done ++ [(k, j)])) by rw [strs_snoc, List.length_append]; exact hown4)
              clear c0 c1 c2 f1 f2 hown4 hgrow4 hat4 hlt4
              have HI4 := hide (rIs_any B s j 0 46 w4 R4.out)
              rw [show (decide ((0 : Int) = 0) && atB s.data.toList j 46) = atB s.data.toList j 46 by simp] at HI4
              cases hdot : atB s.data.toList j 46
              · rw [hdot] at HI4
                have HX := hide (ids_last false s.data.toList a k j done HD.out (bad_snoc false s.data.toList k j done HB.out HG.out) HE.out hdot)
                clear hdot
                go_wp2_with fail
                refine HI4.out.mono ?_
                rintro r w5 ⟨rfl, n5, rfl⟩
                go_wp2_with fail
                go_ret
                exact idsPost_ok HX.out (own_turn O4.out (Turn.drewN B _ _) hBs) (R4.out.drewN _) (T4.trans (Turn.drewN B _ _))
              · rw [hdot] at HI4
                have HX := hide (ids_next s.data.toList a k j done HD.out HE.out hdot)
                have hjl : j < s.size := by
                  rcases Nat.lt_or_ge j s.size with h | h
                  · exact h
                  · rw [atB_out s j 46 (by omega)] at hdot; cases hdot
                clear hdot
                go_wp2_with fail
                refine HI4.out.mono ?_
                rintro r w5 ⟨rfl, n5, rfl⟩
                obtain ⟨c0, c1, c2, f1, f2⟩ := R4.out.seen
                go_wp2_with fail
                go_roundw
                case rel => exact ⟨done ++ [(k, j)], j + 1, by omega, by omega, by simp; omega, (R4.out.drewN n5).step, HX.out, bad_snoc false s.data.toList k j done HB.out HG.out, own_turn O4.out ((Turn.drewN B _ _).trans (Turn.set _ _ _ _)) hBs, T4.trans ((Turn.drewN B _ _).trans (Turn.set _ _ _ _))⟩
                case measure => rw [(R4.out.drewN n5).step.rplace, HRd.out.rplace]; omega
            · have HZ := hide (fun n => rbad_any (s.extract k j) (W2.drewN n) (by rw [extract_seg, ofL_size, seg_len _ _ _ (by rw [len_data]; exact hj)]; unfold maxLen; omega))
              rw [extract_data] at HZ
              cases hzz : zeroB (seg s.data.toList k j)
              · rw [hzz] at HZ
                have HG := hide (ids_good true s.data.toList k j HNe.out (by rw [hzz]; rfl))
                clear hzz
                go_wp2_with fail
                go_quiet ((go_at_call 79; exact Calls.quiet_of_same (HZ.out _)))
                have R3 := hide (R2.out.drewN nq)
                have T3 := T2.trans (Turn.drewN B W2 nq)
                have O3 := hide (own_turn O2.out (Turn.drewN B W2 nq) hBs)
                clear R2 T2 O2
                generalize W2.drewN nq = W3 at *
                clear c0 c1 c2 f1 f2
                obtain ⟨c0, c1, c2, f1, f2⟩ := R3.out.seen
                go_wp2_with fail
                have hsz := T3.size
                have hj0 : (0 : Int) ≤ (j : Int) := Int.natCast_nonneg _
                have hk0 : (0 : Int) ≤ (k : Int) := Int.natCast_nonneg _
                have hkj2 : (k : Int) ≤ (j : Int) := by omega
                have hjs : (j : Int) ≤ (s.size : Int) := by omega
                have hrow : u5.ownBlock ≠ some B := fun hx => by have := (O3.out.lt B hx).1; omega
                have hB3 := R3.out.lt
                go_region_held3 (fun w' => w'.cell? ⟨B, 0, none⟩ = some (.string s) ∧ w'.cell? ⟨B, 1, none⟩ = some (.int .i64 (j : Int)))
                  (first
                    | go_keep
                    | (go_split_ands
                       refine ⟨?_, ?_⟩
                       · (rw [hgrow4.cell_far _ (by simp; omega) (Ne.symm hrow)]; assumption)
                       · (rw [hgrow4.cell_far _ (by simp; omega) (Ne.symm hrow)]; assumption)))
                  ((refine step_append_lies _ (by rfl) _ _ _ (by rfl) w.heap.size 9 i0 (.string .empty) 1 16 Tryz.underlying31 hi hz0 hz1 hz2 rfl (by omega) u5 done.length (strs s done) (by rfl) ((O3.out.alloc _).drew)
                      ⟨W3.heap.size, 0, none⟩ 1 1 [.string (s.extract k j)] (by rfl) (by rfl) (World.news_of_block (cs := #[.string (s.extract k j)]) (t := 9) (fr := (0, 0)) (heap_alloc_new W3 _)) (str_one _)
                      (by omega) (by unfold maxLen; omega) (by omega) (by simp; omega) (W3.heap.size + 1) (by simp) ?_; intro g4 cap4 w4 hown4 hgrow4 hat4 hlt4))
                have hrow' : ∀ x, u5.ownBlock = some x → w.heap.size ≤ x := fun x hx => (O3.out.lt x hx).1
                obtain ⟨v4, hv4⟩ : ∃ v4 : Value, v4 = .slice (some ⟨g4, 0, none⟩) (done.length + 1) cap4 := ⟨_, rfl⟩
                rw [← hv4] at hown4 ⊢
                clear hv4
                have R4 := hide (rd_grown ((R3.out.alloc _).drewN 1) hgrow4 hrow)
                have T4 := turn_grown ((T3.alloc _).trans (Turn.drewN B _ 1)) hgrow4 hrow'
                have O4 := hide (show w4.ownsRow w.heap.size 9 1 v4 (done ++ [(k, j)]).length (strs s (done ++ [(k, j)])) by rw [strs_snoc, List.length_append]; exact hown4)
                clear c0 c1 c2 f1 f2 hown4 hgrow4 hat4 hlt4
                have HI4 := hide (rIs_any B s j 0 46 w4 R4.out)
                rw [show (decide ((0 : Int) = 0) && atB s.data.toList j 46) = atB s.data.toList j 46 by simp] at HI4
                cases hdot : atB s.data.toList j 46
                · rw [hdot] at HI4
                  have HX := hide (ids_last true s.data.toList a k j done HD.out (bad_snoc true s.data.toList k j done HB.out HG.out) HE.out hdot)
                  clear hdot
                  go_wp2_with fail
                  refine HI4.out.mono ?_
                  rintro r w5 ⟨rfl, n5, rfl⟩
                  go_wp2_with fail
                  go_ret
                  exact idsPost_ok HX.out (own_turn O4.out (Turn.drewN B _ _) hBs) (R4.out.drewN _) (T4.trans (Turn.drewN B _ _))
                · rw [hdot] at HI4
                  have HX := hide (ids_next s.data.toList a k j done HD.out HE.out hdot)
                  have hjl : j < s.size := by
                    rcases Nat.lt_or_ge j s.size with h | h
                    · exact h
                    · rw [atB_out s j 46 (by omega)] at hdot; cases hdot
                  clear hdot
                  go_wp2_with fail
                  refine HI4.out.mono ?_
                  rintro r w5 ⟨rfl, n5, rfl⟩
                  obtain ⟨c0, c1, c2, f1, f2⟩ := R4.out.seen
                  go_wp2_with fail
                  go_roundw
                  case rel => exact ⟨done ++ [(k, j)], j + 1, by omega, by omega, by simp; omega, (R4.out.drewN n5).step, HX.out, bad_snoc true s.data.toList k j done HB.out HG.out, own_turn O4.out ((Turn.drewN B _ _).trans (Turn.set _ _ _ _)) hBs, T4.trans ((Turn.drewN B _ _).trans (Turn.set _ _ _ _))⟩
                  case measure => rw [(R4.out.drewN n5).step.rplace, HRd.out.rplace]; omega
              · rw [hzz] at HZ
                go_wp2_with fail
                go_quiet ((go_at_call 79; exact Calls.quiet_of_same (HZ.out _)))
                have R3 := hide (R2.out.drewN nq)
                have T3 := T2.trans (Turn.drewN B W2 nq)
                clear R2 T2 O2
                generalize W2.drewN nq = W3 at *
                clear c0 c1 c2 f1 f2
                have I1 := hide (rIs_any B s j 0 46 W3 R3.out)
                rw [show (decide ((0 : Int) = 0) && atB s.data.toList j 46) = atB s.data.toList j 46 by simp] at I1
                have I2 := hide (fun n => rIs_any B s j 0 43 (W3.drewN n) (R3.out.drewN n))
                rw [show (decide ((0 : Int) = 0) && atB s.data.toList j 43) = atB s.data.toList j 43 by simp] at I2
                have HX := hide (ids_bad s.data.toList a k j done HD.out HB.out HE.out HNe.out hzz)
                clear hzz
                cases h46 : atB s.data.toList j 46
                · rw [h46] at I1 HX
                  cases h43 : atB s.data.toList j 43
                  · rw [h43] at I2 HX
                    clear h46 h43
                    go_wp2_with fail
                    refine I1.out.mono ?_
                    rintro r w5 ⟨rfl, n5, rfl⟩
                    go_wp2_with fail
                    refine (I2.out _).mono ?_
                    rintro r w6 ⟨rfl, n6, rfl⟩
                    go_wp2_with fail
                    refine (rnone_any B s j 0 _ (R3.out.drewN _) hj).mono ?_
                    rintro r w7 ⟨rfl, h7, t7⟩
                    rw [rerr_0] at h7
                    go_wp2_with fail
                    go_ret
                    exact idsPost_err HX.out (by simp only [Bool.or_self, Bool.false_eq_true, if_false]; rw [HL.out]; exact h7) (T3.trans ((Turn.drewN B _ _).trans t7))
                  · rw [h43] at I2 HX
                    clear h46 h43
                    go_wp2_with fail
                    refine I1.out.mono ?_
                    rintro r w5 ⟨rfl, n5, rfl⟩
                    go_wp2_with fail
                    refine (I2.out _).mono ?_
                    rintro r w6 ⟨rfl, n6, rfl⟩
                    go_wp2_with fail
                    refine (rwrong_any B s j 0 14 _ (R3.out.drewN _)).mono ?_
                    rintro r w7 ⟨rfl, h7, t7⟩
                    rw [rerr_0] at h7
                    go_wp2_with fail
                    go_ret
                    exact idsPost_err HX.out (by simp only [Bool.or_true, if_true]; exact h7) (T3.trans ((Turn.drewN B _ _).trans t7))
                · rw [h46] at I1 HX
                  clear h46
                  go_wp2_with fail
                  refine I1.out.mono ?_
                  rintro r w5 ⟨rfl, n5, rfl⟩
                  go_wp2_with fail
                  refine (rwrong_any B s j 0 14 _ (R3.out.drewN _)).mono ?_
                  rintro r w7 ⟨rfl, h7, t7⟩
                  rw [rerr_0] at h7
                  go_wp2_with fail
                  go_ret
                  exact idsPost_err HX.out (by simp only [Bool.true_or, if_true]; exact h7) (T3.trans ((Turn.drewN B _ _).trans t7))

        · rw [show (decide ((0 : Int) = 0) && decide (j < s.size)) = false by simp [hl']] at HM
          clear hl
          go_wp2_with fail
          go_quiet ((go_at_call 116; exact Calls.quiet_of (HM.out _)))
          have R2 := hide (HRj.out.drewN nq)
          have T2 := HTu.trans (HTi.trans (Turn.drewN B wr nq))
          have O2 := hide (own_turn HO.out (HTi.trans (Turn.drewN B wr nq)) hBs)
          generalize wr.drewN nq = W2 at *
          clear c0 c1 c2 f1 f2 HM HTi HRj
          obtain ⟨c0, c1, c2, f1, f2⟩ := R2.out.seen
          by_cases hkj' : k = j
          · have HX := hide (ids_none p s.data.toList a k done HD.out HB.out (by rw [HE.out, hkj']))
            subst hkj'
            clear HE
            go_wp2_with fail
            refine (rnone_any B s k 0 W2 R2.out hk).mono ?_
            rintro r w1 ⟨rfl, h1, t1⟩
            rw [rerr_0] at h1
            go_wp2_with fail
            go_ret
            exact idsPost_err HX.out (by rw [HL.out]; exact h1) (T2.trans t1)
          · have hb : ((j : Int) == (k : Int)) = false := by simp; omega
            have HNe := hide (seg_ne s k j (by omega) hj)
            clear hkj'
            cases p
            · have HG := hide (ids_good false s.data.toList k j HNe.out rfl)
              go_wp2_with fail
              go_quiet (fail)
              have R3 := hide (R2.out.drewN nq)
              have T3 := T2.trans (Turn.drewN B W2 nq)
              have O3 := hide (own_turn O2.out (Turn.drewN B W2 nq) hBs)
              clear R2 T2 O2
              generalize W2.drewN nq = W3 at *
              clear c0 c1 c2 f1 f2
              obtain ⟨c0, c1, c2, f1, f2⟩ := R3.out.seen
              go_wp2_with fail
              have hsz := T3.size
              have hj0 : (0 : Int) ≤ (j : Int) := Int.natCast_nonneg _
              have hk0 : (0 : Int) ≤ (k : Int) := Int.natCast_nonneg _
              have hkj2 : (k : Int) ≤ (j : Int) := by omega
              have hjs : (j : Int) ≤ (s.size : Int) := by omega
              have hrow : u5.ownBlock ≠ some B := fun hx => by have := (O3.out.lt B hx).1; omega
              have hB3 := R3.out.lt
              go_region_held3 (fun w' => w'.cell? ⟨B, 0, none⟩ = some (.string s) ∧ w'.cell? ⟨B, 1, none⟩ = some (.int .i64 (j : Int)))
                (first
                  | go_keep
                  | (go_split_ands
                     refine ⟨?_, ?_⟩
                     · (rw [hgrow4.cell_far _ (by simp; omega) (Ne.symm hrow)]; assumption)
                     · (rw [hgrow4.cell_far _ (by simp; omega) (Ne.symm hrow)]; assumption)))
                ((refine step_append_lies _ (by rfl) _ _ _ (by rfl) w.heap.size 9 i0 (.string .empty) 1 16 Tryz.underlying31 hi hz0 hz1 hz2 rfl (by omega) u5 done.length (strs s done) (by rfl) ((O3.out.alloc _).drew)
                    ⟨W3.heap.size, 0, none⟩ 1 1 [.string (s.extract k j)] (by rfl) (by rfl) (World.news_of_block (cs := #[.string (s.extract k j)]) (t := 9) (fr := (0, 0)) (heap_alloc_new W3 _)) (str_one _)
                    (by omega) (by unfold maxLen; omega) (by omega) (by simp; omega) (W3.heap.size + 1) (by simp) ?_; intro g4 cap4 w4 hown4 hgrow4 hat4 hlt4))
              have hrow' : ∀ x, u5.ownBlock = some x → w.heap.size ≤ x := fun x hx => (O3.out.lt x hx).1
              obtain ⟨v4, hv4⟩ : ∃ v4 : Value, v4 = .slice (some ⟨g4, 0, none⟩) (done.length + 1) cap4 := ⟨_, rfl⟩
              rw [← hv4] at hown4 ⊢
              clear hv4
              have R4 := hide (rd_grown ((R3.out.alloc _).drewN 1) hgrow4 hrow)
              have T4 := turn_grown ((T3.alloc _).trans (Turn.drewN B _ 1)) hgrow4 hrow'
              have O4 := hide (show w4.ownsRow w.heap.size 9 1 v4 (done ++ [(k, j)]).length (strs s (done ++ [(k, j)])) by rw [strs_snoc, List.length_append]; exact hown4)
              clear c0 c1 c2 f1 f2 hown4 hgrow4 hat4 hlt4
              have HI4 := hide (rIs_any B s j 0 46 w4 R4.out)
              rw [show (decide ((0 : Int) = 0) && atB s.data.toList j 46) = atB s.data.toList j 46 by simp] at HI4
              cases hdot : atB s.data.toList j 46
              · rw [hdot] at HI4
                have HX := hide (ids_last false s.data.toList a k j done HD.out (bad_snoc false s.data.toList k j done HB.out HG.out) HE.out hdot)
                clear hdot
                go_wp2_with fail
                refine HI4.out.mono ?_
                rintro r w5 ⟨rfl, n5, rfl⟩
                go_wp2_with fail
                go_ret
                exact idsPost_ok HX.out (own_turn O4.out (Turn.drewN B _ _) hBs) (R4.out.drewN _) (T4.trans (Turn.drewN B _ _))
              · rw [hdot] at HI4
                have HX := hide (ids_next s.data.toList a k j done HD.out HE.out hdot)
                have hjl : j < s.size := by
                  rcases Nat.lt_or_ge j s.size with h | h
                  · exact h
                  · rw [atB_out s j 46 (by omega)] at hdot; cases hdot
                exact absurd hjl hl'
            · have HZ := hide (fun n => rbad_any (s.extract k j) (W2.drewN n) (by rw [extract_seg, ofL_size, seg_len _ _ _ (by rw [len_data]; exact hj)]; unfold maxLen; omega))
              rw [extract_data] at HZ
              cases hzz : zeroB (seg s.data.toList k j)
              · rw [hzz] at HZ
                have HG := hide (ids_good true s.data.toList k j HNe.out (by rw [hzz]; rfl))
                clear hzz
                go_wp2_with fail
                go_quiet ((go_at_call 79; exact Calls.quiet_of_same (HZ.out _)))
                have R3 := hide (R2.out.drewN nq)
                have T3 := T2.trans (Turn.drewN B W2 nq)
                have O3 := hide (own_turn O2.out (Turn.drewN B W2 nq) hBs)
                clear R2 T2 O2
                generalize W2.drewN nq = W3 at *
                clear c0 c1 c2 f1 f2
                obtain ⟨c0, c1, c2, f1, f2⟩ := R3.out.seen
                go_wp2_with fail
                have hsz := T3.size
                have hj0 : (0 : Int) ≤ (j : Int) := Int.natCast_nonneg _
                have hk0 : (0 : Int) ≤ (k : Int) := Int.natCast_nonneg _
                have hkj2 : (k : Int) ≤ (j : Int) := by omega
                have hjs : (j : Int) ≤ (s.size : Int) := by omega
                have hrow : u5.ownBlock ≠ some B := fun hx => by have := (O3.out.lt B hx).1; omega
                have hB3 := R3.out.lt
                go_region_held3 (fun w' => w'.cell? ⟨B, 0, none⟩ = some (.string s) ∧ w'.cell? ⟨B, 1, none⟩ = some (.int .i64 (j : Int)))
                  (first
                    | go_keep
                    | (go_split_ands
                       refine ⟨?_, ?_⟩
                       · (rw [hgrow4.cell_far _ (by simp; omega) (Ne.symm hrow)]; assumption)
                       · (rw [hgrow4.cell_far _ (by simp; omega) (Ne.symm hrow)]; assumption)))
                  ((refine step_append_lies _ (by rfl) _ _ _ (by rfl) w.heap.size 9 i0 (.string .empty) 1 16 Tryz.underlying31 hi hz0 hz1 hz2 rfl (by omega) u5 done.length (strs s done) (by rfl) ((O3.out.alloc _).drew)
                      ⟨W3.heap.size, 0, none⟩ 1 1 [.string (s.extract k j)] (by rfl) (by rfl) (World.news_of_block (cs := #[.string (s.extract k j)]) (t := 9) (fr := (0, 0)) (heap_alloc_new W3 _)) (str_one _)
                      (by omega) (by unfold maxLen; omega) (by omega) (by simp; omega) (W3.heap.size + 1) (by simp) ?_; intro g4 cap4 w4 hown4 hgrow4 hat4 hlt4))
                have hrow' : ∀ x, u5.ownBlock = some x → w.heap.size ≤ x := fun x hx => (O3.out.lt x hx).1
                obtain ⟨v4, hv4⟩ : ∃ v4 : Value, v4 = .slice (some ⟨g4, 0, none⟩) (done.length + 1) cap4 := ⟨_, rfl⟩
                rw [← hv4] at hown4 ⊢
                clear hv4
                have R4 := hide (rd_grown ((R3.out.alloc _).drewN 1) hgrow4 hrow)
                have T4 := turn_grown ((T3.alloc _).trans (Turn.drewN B _ 1)) hgrow4 hrow'
                have O4 := hide (show w4.ownsRow w.heap.size 9 1 v4 (done ++ [(k, j)]).length (strs s (done ++ [(k, j)])) by rw [strs_snoc, List.length_append]; exact hown4)
                clear c0 c1 c2 f1 f2 hown4 hgrow4 hat4 hlt4
                have HI4 := hide (rIs_any B s j 0 46 w4 R4.out)
                rw [show (decide ((0 : Int) = 0) && atB s.data.toList j 46) = atB s.data.toList j 46 by simp] at HI4
                cases hdot : atB s.data.toList j 46
                · rw [hdot] at HI4
                  have HX := hide (ids_last true s.data.toList a k j done HD.out (bad_snoc true s.data.toList k j done HB.out HG.out) HE.out hdot)
                  clear hdot
                  go_wp2_with fail
                  refine HI4.out.mono ?_
                  rintro r w5 ⟨rfl, n5, rfl⟩
                  go_wp2_with fail
                  go_ret
                  exact idsPost_ok HX.out (own_turn O4.out (Turn.drewN B _ _) hBs) (R4.out.drewN _) (T4.trans (Turn.drewN B _ _))
                · rw [hdot] at HI4
                  have HX := hide (ids_next s.data.toList a k j done HD.out HE.out hdot)
                  have hjl : j < s.size := by
                    rcases Nat.lt_or_ge j s.size with h | h
                    · exact h
                    · rw [atB_out s j 46 (by omega)] at hdot; cases hdot
                  exact absurd hjl hl'
              · rw [hzz] at HZ
                go_wp2_with fail
                go_quiet ((go_at_call 79; exact Calls.quiet_of_same (HZ.out _)))
                have R3 := hide (R2.out.drewN nq)
                have T3 := T2.trans (Turn.drewN B W2 nq)
                clear R2 T2 O2
                generalize W2.drewN nq = W3 at *
                clear c0 c1 c2 f1 f2
                have I1 := hide (rIs_any B s j 0 46 W3 R3.out)
                rw [show (decide ((0 : Int) = 0) && atB s.data.toList j 46) = atB s.data.toList j 46 by simp] at I1
                have I2 := hide (fun n => rIs_any B s j 0 43 (W3.drewN n) (R3.out.drewN n))
                rw [show (decide ((0 : Int) = 0) && atB s.data.toList j 43) = atB s.data.toList j 43 by simp] at I2
                have HX := hide (ids_bad s.data.toList a k j done HD.out HB.out HE.out HNe.out hzz)
                clear hzz
                cases h46 : atB s.data.toList j 46
                · rw [h46] at I1 HX
                  cases h43 : atB s.data.toList j 43
                  · rw [h43] at I2 HX
                    clear h46 h43
                    go_wp2_with fail
                    refine I1.out.mono ?_
                    rintro r w5 ⟨rfl, n5, rfl⟩
                    go_wp2_with fail
                    refine (I2.out _).mono ?_
                    rintro r w6 ⟨rfl, n6, rfl⟩
                    go_wp2_with fail
                    refine (rnone_any B s j 0 _ (R3.out.drewN _) hj).mono ?_
                    rintro r w7 ⟨rfl, h7, t7⟩
                    rw [rerr_0] at h7
                    go_wp2_with fail
                    go_ret
                    exact idsPost_err HX.out (by simp only [Bool.or_self, Bool.false_eq_true, if_false]; rw [HL.out]; exact h7) (T3.trans ((Turn.drewN B _ _).trans t7))
                  · rw [h43] at I2 HX
                    clear h46 h43
                    go_wp2_with fail
                    refine I1.out.mono ?_
                    rintro r w5 ⟨rfl, n5, rfl⟩
                    go_wp2_with fail
                    refine (I2.out _).mono ?_
                    rintro r w6 ⟨rfl, n6, rfl⟩
                    go_wp2_with fail
                    refine (rwrong_any B s j 0 14 _ (R3.out.drewN _)).mono ?_
                    rintro r w7 ⟨rfl, h7, t7⟩
                    rw [rerr_0] at h7
                    go_wp2_with fail
                    go_ret
                    exact idsPost_err HX.out (by simp only [Bool.or_true, if_true]; exact h7) (T3.trans ((Turn.drewN B _ _).trans t7))
                · rw [h46] at I1 HX
                  clear h46
                  go_wp2_with fail
                  refine I1.out.mono ?_
                  rintro r w5 ⟨rfl, n5, rfl⟩
                  go_wp2_with fail
                  refine (rwrong_any B s j 0 14 _ (R3.out.drewN _)).mono ?_
                  rintro r w7 ⟨rfl, h7, t7⟩
                  rw [rerr_0] at h7
                  go_wp2_with fail
                  go_ret
                  exact idsPost_err HX.out (by simp only [Bool.true_or, if_true]; exact h7) (T3.trans ((Turn.drewN B _ _).trans t7))

end Go.Proofs.YtaflflelcdcanaaGreat

namespace Go.Proofs.YtaflflelcdcanaaGreat
open Go.RowKit Go.Shelf
set_option linter.unusedVariables false

/-- What lies in memory while the document's parse reads. -/
structure PM (w W : World) (s : ByteArray) (x : Nat × Int) (v : Array Value) : Prop where
  below : Below w.heap.size w W
  res : W.heap[w.heap.size]? = some (.cells #[.string ⟨#[]⟩, .string ⟨#[]⟩, .string ⟨#[]⟩, .slice none 0 0, .slice none 0 0] 33 (0, 0))
  rd : RdAt W (w.heap.size + 1) s x.1 x.2
  ver : W.heap[w.heap.size + 1 + 1]? = some (.cells v 33 (0, 0))
theorem PM.turn {w W W' : World} {s : ByteArray} {x x' : Nat × Int} {v : Array Value} (h : PM w W s x v) (t : Turn (w.heap.size + 1) W W') (r : RdAt W' (w.heap.size + 1) s x'.1 x'.2) : PM w W' s x' v := by
  have h2 := (Array.getElem?_eq_some_iff.1 h.ver).1
  exact ⟨h.below.trans (t.below (by omega) h.below.size), (t.block _ (by omega) (by omega)).trans h.res, r, (t.block _ h2 (by omega)).trans h.ver⟩
theorem PM.drewN {w W : World} {s : ByteArray} {x : Nat × Int} {v : Array Value} (h : PM w W s x v) (n : Nat) : PM w (W.drewN n) s x v := h.turn (Turn.drewN _ _ n) (h.rd.drewN n)
theorem PM.put {w W : World} {s : ByteArray} {x : Nat × Int} {v : Array Value} (h : PM w W s x v) (o : Nat) (u : Value) : PM w (W.setCell ⟨w.heap.size + 1 + 1, o, none⟩ u) s x (v.setIfInBounds o u) :=
  ⟨h.below.setCell (p := ⟨w.heap.size + 1 + 1, o, none⟩) (by simp only; omega) u, (Below.heap_setCell _ _ _ _ (by simp only; omega)).trans h.res, (Below.heap_setCell _ _ _ _ (by simp only; omega)).trans h.rd, set_lies o u h.ver⟩
theorem PM.step {w W : World} {s : ByteArray} {a : Nat} {e : Int} {v : Array Value} (h : PM w W s (a, e) v) : PM w (W.setCell ⟨w.heap.size + 1, 1, none⟩ (.int .i64 ((a : Int) + 1))) s (a + 1, e) v :=
  h.turn (Turn.set _ _ _ _) (x' := (a + 1, e)) h.rd.step

theorem byteS_le (l : List UInt8) (c : UInt8) (x : Nat × Int) (h : x.1 ≤ l.length) : (byteS l c x).1 ≤ l.length := by
  unfold byteS
  split
  · split
    · rename_i h2
      have := (List.getElem?_eq_some_iff.1 ((atB_iff l x.1 c).1 h2)).1
      simp only; omega
    · exact h
  · exact h
theorem numR_le (l : List UInt8) (a : Nat) (h : a ≤ l.length) : (∀ b, numR l a = .ok b → b ≤ l.length) ∧ (∀ y, numR l a = .error y → y.2 ≤ l.length) := by
  have hle := runL_le 1 (l.drop a)
  rw [List.length_drop] at hle
  unfold numR
  constructor
  · intro b hb
    split at hb
    · cases hb
    · split at hb
      · cases hb
      · cases hb; omega
  · intro y hy
    split at hy
    · cases hy; exact h
    · split at hy
      · cases hy; simp only; omega
      · cases hy
theorem numS_le (l : List UInt8) (x : Nat × Int) (h : x.1 ≤ l.length) : (numS l x).1 ≤ l.length := by
  have := numR_le l x.1 h
  unfold numS
  split
  · cases hn : numR l x.1 with
    | ok b => exact this.1 b hn
    | error y => exact this.2 y hn
  · exact h
theorem numT_len (l : List UInt8) (x : Nat × Int) : (numT l x).length ≤ l.length := by
  unfold numT
  split
  · cases hn : numR l x.1 with
    | ok b => simp only [seg, List.length_drop, List.length_take]; omega
    | error y => simp
  · simp
theorem numR_err {l : List UInt8} {a : Nat} {y : Int × Nat} (h : numR l a = .error y) : y.1 ≠ 0 := by
  unfold numR at h
  split at h
  · cases h; exact misL_ne _ _
  · split at h
    · cases h; simp
    · cases h
theorem dotR_err {l : List UInt8} {a : Nat} {y : Int × Nat} (h : dotR l a = .error y) : y.1 ≠ 0 := by
  unfold dotR at h
  split at h
  · cases h
  · cases h; exact misL_ne _ _
theorem numS_ok {l : List UInt8} {a b : Nat} (h : numR l a = .ok b) : numS l (a, 0) = (b, 0) ∧ numT l (a, 0) = seg l a b := by unfold numS numT; rw [if_pos rfl, if_pos rfl, h]; exact ⟨rfl, rfl⟩
theorem numS_err {l : List UInt8} {a : Nat} {y : Int × Nat} (h : numR l a = .error y) : numS l (a, 0) = (y.2, y.1) := by unfold numS; rw [if_pos rfl, h]
theorem numS_bad (l : List UInt8) {p : Nat} {q : Int} (h : q ≠ 0) : numS l (p, q) = (p, q) := if_neg h
theorem byteS_bad (l : List UInt8) (c : UInt8) {p : Nat} {q : Int} (h : q ≠ 0) : byteS l c (p, q) = (p, q) := if_neg h
theorem byteS_dot (l : List UInt8) (a : Nat) : byteS l 46 (a, 0) = match dotR l a with | .ok b => (b, 0) | .error y => (y.2, y.1) := by
  unfold byteS dotR
  rw [if_pos rfl]
  by_cases h : l[a]? = some 46
  · rw [if_pos ((atB_iff l a 46).2 h), if_pos h]
  · rw [if_neg (fun hh => h ((atB_iff l a 46).1 hh)), if_neg h]

/-- The reader behind three numbers with dots between. -/
def x1 (l : List UInt8) : Nat × Int := numS l (0, 0)
def x2 (l : List UInt8) : Nat × Int := byteS l 46 (x1 l)
def x3 (l : List UInt8) : Nat × Int := numS l (x2 l)
def x4 (l : List UInt8) : Nat × Int := byteS l 46 (x3 l)
def x5 (l : List UInt8) : Nat × Int := numS l (x4 l)
theorem x5_ok {l : List UInt8} {a b c d e : Nat} (h : numsR l = .ok (a, b, c, d, e)) : x5 l = (e, 0) ∧ numT l (0, 0) = seg l 0 a ∧ numT l (x2 l) = seg l b c ∧ numT l (x4 l) = seg l d e := by
  unfold numsR at h
  cases h1 : numR l 0 with
  | error y => rw [h1] at h; cases h
  | ok a' =>
    rw [h1] at h; simp only at h
    cases h2 : dotR l a' with
    | error y => rw [h2] at h; cases h
    | ok b' =>
      rw [h2] at h; simp only at h
      cases h3 : numR l b' with
      | error y => rw [h3] at h; cases h
      | ok c' =>
        rw [h3] at h; simp only at h
        cases h4 : dotR l c' with
        | error y => rw [h4] at h; cases h
        | ok d' =>
          rw [h4] at h; simp only at h
          cases h5 : numR l d' with
          | error y => rw [h5] at h; cases h
          | ok e' =>
            rw [h5] at h; simp only at h
            cases h
            have e1 : x1 l = (a, 0) := (numS_ok h1).1
            have e2 : x2 l = (b, 0) := by unfold x2; rw [e1, byteS_dot, h2]
            have e3 : x3 l = (c, 0) := by unfold x3; rw [e2]; exact (numS_ok h3).1
            have e4 : x4 l = (d, 0) := by unfold x4; rw [e3, byteS_dot, h4]
            refine ⟨?_, (numS_ok h1).2, ?_, ?_⟩
            · unfold x5; rw [e4]; exact (numS_ok h5).1
            · rw [e2]; exact (numS_ok h3).2
            · rw [e4]; exact (numS_ok h5).2
theorem x5_err {l : List UInt8} {y : Int × Nat} (h : numsR l = .error y) : x5 l = (y.2, y.1) ∧ y.1 ≠ 0 := by
  unfold numsR at h
  cases h1 : numR l 0 with
  | error z =>
    rw [h1] at h; cases h
    have hn := numR_err h1
    have e1 : x1 l = (y.2, y.1) := numS_err h1
    refine ⟨?_, hn⟩
    unfold x5 x4 x3 x2
    rw [e1, byteS_bad _ _ hn, numS_bad _ hn, byteS_bad _ _ hn, numS_bad _ hn]
  | ok a' =>
    have e1 : x1 l = (a', 0) := (numS_ok h1).1
    rw [h1] at h; simp only at h
    cases h2 : dotR l a' with
    | error z =>
      rw [h2] at h; cases h
      have hn := dotR_err h2
      refine ⟨?_, hn⟩
      unfold x5 x4 x3 x2
      rw [e1, byteS_dot, h2]
      simp only
      rw [numS_bad _ hn, byteS_bad _ _ hn, numS_bad _ hn]
    | ok b' =>
      have e2 : x2 l = (b', 0) := by unfold x2; rw [e1, byteS_dot, h2]
      rw [h2] at h; simp only at h
      cases h3 : numR l b' with
      | error z =>
        rw [h3] at h; cases h
        have hn := numR_err h3
        refine ⟨?_, hn⟩
        unfold x5 x4 x3
        rw [e2, numS_err h3, byteS_bad _ _ hn, numS_bad _ hn]
      | ok c' =>
        have e3 : x3 l = (c', 0) := by unfold x3; rw [e2]; exact (numS_ok h3).1
        rw [h3] at h; simp only at h
        cases h4 : dotR l c' with
        | error z =>
          rw [h4] at h; cases h
          have hn := dotR_err h4
          refine ⟨?_, hn⟩
          unfold x5 x4
          rw [e3, byteS_dot, h4]
          simp only
          rw [numS_bad _ hn]
        | ok d' =>
          have e4 : x4 l = (d', 0) := by unfold x4; rw [e3, byteS_dot, h4]
          rw [h4] at h; simp only at h
          cases h5 : numR l d' with
          | error z =>
            rw [h5] at h; cases h
            have hn := numR_err h5
            refine ⟨?_, hn⟩
            unfold x5
            rw [e4, numS_err h5]
          | ok e' => rw [h5] at h; cases h

/-- A version whose lists lie in memory that is younger than a number of blocks. -/
def SemF (n : Nat) (W : World) (v : Value) (x : SemL) : Prop :=
  ∃ vp vb, v = .agg #[.string (ofL x.maj), .string (ofL x.min), .string (ofL x.pat), vp, vb] ∧ Txt W vp x.pre ∧ Txt W vb x.bld ∧ Fresh n vp ∧ Fresh n vb
theorem SemF.toAt {n : Nat} {W : World} {v : Value} {x : SemL} (h : SemF n W v x) : SemAt W v x := by
  obtain ⟨vp, vb, h1, h2, h3, _⟩ := h
  exact ⟨vp, vb, h1, h2, h3⟩
theorem txt_young {n : Nat} {W W' : World} {v : Value} {ts : List (List UInt8)} (h : Txt W v ts) (hf : Fresh n v) (hk : ∀ j, n ≤ j → j < W.heap.size → W'.heap[j]? = W.heap[j]?) (hs : W.heap.size ≤ W'.heap.size) : Txt W' v ts := by
  obtain ⟨a, cap, hv, h0 | ⟨b, off, ha, hlt, hc⟩⟩ := h
  · exact ⟨a, cap, hv, .inl h0⟩
  · have hn := hf _ _ _ (by rw [hv, ha])
    exact ⟨a, cap, hv, .inr ⟨b, off, ha, Nat.lt_of_lt_of_le hlt hs, fun i hi => by rw [← hc i hi]; simp only [World.cell?]; rw [hk b hn hlt]⟩⟩
theorem SemF.young {n : Nat} {W W' : World} {v : Value} {x : SemL} (h : SemF n W v x) (hk : ∀ j, n ≤ j → j < W.heap.size → W'.heap[j]? = W.heap[j]?) (hs : W.heap.size ≤ W'.heap.size) : SemF n W' v x := by
  obtain ⟨vp, vb, h1, h2, h3, h4, h5⟩ := h
  exact ⟨vp, vb, h1, txt_young h2 h4 hk hs, txt_young h3 h5 hk hs, h4, h5⟩
theorem SemF.mono {n m : Nat} {W : World} {v : Value} {x : SemL} (h : SemF n W v x) (hm : m ≤ n) : SemF m W v x := by
  obtain ⟨vp, vb, h1, h2, h3, h4, h5⟩ := h
  exact ⟨vp, vb, h1, h2, h3, fun a i c e => Nat.le_trans hm (h4 a i c e), fun a i c e => Nat.le_trans hm (h5 a i c e)⟩

/-- What the document's parse leaves. -/
def RPost (l : List UInt8) (w : World) (e : Ending) (w' : World) : Prop :=
  Below w.heap.size w w' ∧ match parseR l with
  | .ok c => ∃ v, e = .returned (.tuple #[v, .int .i64 0, .int .i64 0]) ∧ SemF w.heap.size w' v (semOf l c)
  | .error y => e = .returned (.tuple #[semZ, .int .i64 y.1, .int .i64 (y.2 : Int)])

end Go.Proofs.YtaflflelcdcanaaGreat
