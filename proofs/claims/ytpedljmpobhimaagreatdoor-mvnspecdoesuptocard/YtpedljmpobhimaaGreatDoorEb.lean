/-
  Walks: the document's split.
-/
import Derived.Test.YtpedljmpobhimaaGreatDoorEa
import Derived.Test.YtpedljmpobhimaaGreatDoorLd
namespace Go.Proofs.YtpedljmpobhimaaGreatDoor
open Go.RowKit Go.Shelf
set_option linter.unusedVariables false

attribute [local go_sem] Oper.semAt_some

theorem own_drewN {W : World} {base : Nat} {e : TypeId} {size : Nat} {v : Value} {n : Nat} {xs : List Value} (h : W.ownsRow base e size v n xs) (m : Nat) : (W.drewN m).ownsRow base e size v n xs := own_below h (below_drewN _ _ _)
theorem below_app {w W w1 : World} {v : Value} {k : Nat} {xs : List Value} {tmp : Obj} (hr : W.ownsRow w.heap.size 91 3 v k xs) (hB : Below w.heap.size w W) (hg : (W.alloc tmp).grownBy w1 v.ownBlock) : Below w.heap.size w w1 := by
  obtain ⟨hk, _⟩ := app_blocks hr hB.size hg
  have hs := hg.size
  simp only [World.size_alloc] at hs
  exact ⟨hg.os.trans hB.os, hg.tape.trans hB.tape, hg.output.trans hB.output, by have := hB.size; omega, fun k h => (hk k h).trans (hB.block k h)⟩
/-- Where the split stands. -/
def InvS (l : List UInt8) (i a : Nat) (d : Bool) (acc : List Tok) : Prop := splitL l = acc ++ restS l d a ∧ ((i = l.length + 1 ∧ a = l.length + 1) ∨ (a ≤ i ∧ i ≤ l.length ∧ i ≤ a + tkN (l.drop a)))

set_option maxRecDepth 100000 in
set_option maxHeartbeats 8000000 in
theorem Rsplit_any (s : ByteArray) (w : World) (hs : s.size ≤ 64) (hok : ∀ c ∈ s.data.toList, okM c = true) :
    Calls Tryz.prog 65 #[.string s] w fun e w' => ∃ v, e = .returned v ∧ w'.ownsRow w.heap.size 91 3 v (splitL s.data.toList).length (flatT (splitL s.data.toList)) ∧ Below w.heap.size w w' := by
  obtain ⟨i0, hi, hz0, hz1, hz2⟩ := info_parts Tryz.info91
  have HOK := hide hok
  have hld := len_data s
  have HLD := hide hld
  clear hok hld
  go_enter Tryz.func65, Tryz.ntmps65
  go_wp2_with fail
  go_loopw [3, 4, 5, 6] (fun vl vd vf vi wr => ∃ (i a : Nat) (d : Bool) (acc : List Tok) (ao : Option Addr) (cv : Nat), vi = .int .i64 i ∧ vd = .bool d ∧ vf = .int .i64 a ∧ i ≤ s.size + 1 ∧ vl = .slice ao acc.length cv ∧ wr.ownsRow w.heap.size 91 3 vl acc.length (flatT acc) ∧ Below w.heap.size w wr ∧ acc.length ≤ i ∧ Hid (InvS s.data.toList i a d acc))
    (fun _ _ _ vi _ => s.size + 2 - (intOf vi).toNat)
  case atStart => exact ⟨0, 0, false, [], none, 0, rfl, rfl, rfl, by omega, rfl, World.ownsRow_nil _ _ _ _, Below.refl _ _, by simp, ⟨rfl, .inr ⟨by omega, by omega, by omega⟩⟩⟩
  case round =>
    obtain ⟨i, a, d, acc, ao, cv, rfl, rfl, rfl, his, rfl, hown, hB, hacc, HI⟩ := hrel
    have OW := hide hown
    have HB := hide hB
    clear hown hB
    by_cases hle : i ≤ s.size
    · have hle' : (i : Int) ≤ (s.size : Int) := by omega
      have HI2 : Hid (a ≤ i ∧ i ≤ a + tkN (s.data.toList.drop a)) := by
        rcases HI.out.2 with h | h
        · have := HLD.out; omega
        · exact ⟨h.1, h.2.2⟩
      have hai := HI2.out.1
      have hit := HI2.out.2
      by_cases hin : i < a + tkN (s.data.toList.drop a)
      · have hlt : i < s.size := by
          have h1 := tkN_le (s.data.toList.drop a)
          rw [List.length_drop, HLD.out] at h1
          omega
        have hlt' : (i : Int) < (s.size : Int) := by omega
        have hneq : ((i : Int) == (s.size : Int)) = false := by rw [beq_eq_false_iff_ne]; omega
        obtain ⟨hmk, hdg⟩ := tok_in s.data.toList a i hai hin (by rw [HLD.out]; exact hlt)
        have hsi : s.data.toList[i]'(by rw [HLD.out]; exact hlt) = s[i] := rfl
        rw [hsi] at hmk hdg
        have SP := fun w => Rsep_any s[i] w
        rw [hmk] at SP
        have SP := hide SP
        have HNX : Hid (InvS s.data.toList (i + 1) a d acc) := ⟨HI.out.1, .inr ⟨by omega, by rw [HLD.out]; omega, by omega⟩⟩
        clear hin hit hmk
        by_cases hgt : a < i
        · have hgt' : (a : Int) < (i : Int) := by omega
          obtain ⟨m, rfl⟩ : ∃ m, i = m + 1 := ⟨i - 1, by omega⟩
          have hml : m < s.size := by omega
          have hmi : (m : Int) + 1 - 1 = (m : Int) := by omega
          have hneq2 : ((m : Int) + 1 == (s.size : Int)) = false := by rw [beq_eq_false_iff_ne]; omega
          have hgt2 : (a : Int) < (m : Int) + 1 := by omega
          have hlt2 : (m : Int) + 1 < (s.size : Int) := by omega
          have hle2 : (m : Int) + 1 ≤ (s.size : Int) := by omega
          clear hneq hgt' hlt' hle'
          have hdg := hdg hgt
          have hgm : s.data.toList.getD (m + 1 - 1) 0 = s[m] := by
            rw [Nat.add_sub_cancel, List.getD_eq_getElem?_getD, List.getElem?_eq_getElem (by rw [HLD.out]; exact hml)]; rfl
          rw [hgm] at hdg
          have D1 := fun w => Rdigit_any (s[m + 1].toNat : Int) w
          have D2 := fun w => Rdigit_any (s[m].toNat : Int) w
          rw [hdg] at D1
          have D1 := hide D1
          have D2 := hide D2
          have hbb : (isC (s[m].toNat : Int) 1 != isC (s[m].toNat : Int) 1) = false := by simp
          clear hdg hgm
          generalize isC (s[m].toNat : Int) 1 = DG at *
          go_wp2_with fail
          refine (SP.out _).mono ?_
          rintro e w' ⟨rfl, hw'⟩
          rw [hw']; clear hw' w'
          go_wp2_with fail
          go_quiet (first | (go_at_call 61; exact Calls.quiet_of_same (D1.out _)) | (go_at_call 61; exact Calls.quiet_of_same (D2.out _)) | fail)
          have OW2 := hide (own_drewN OW.out nq)
          have B2 := hide (HB.out.trans (below_drewN _ _ nq))
          generalize wr.drewN nq = W2 at *
          go_wp2_with fail
          go_roundw
          case rel => exact ⟨m + 1 + 1, a, d, acc, ao, cv, by go_num, rfl, rfl, by omega, rfl, OW2.out, B2.out, by omega, HNX⟩
          case measure => simp [intOf]; omega
        · have hgt' : ¬ (a : Int) < (i : Int) := by omega
          go_wp2_with fail
          refine (SP.out _).mono ?_
          rintro e w' ⟨rfl, hw'⟩
          rw [hw']; clear hw' w'
          go_wp2_with fail
          go_quiet (fail)
          have OW2 := hide (own_drewN OW.out nq)
          have B2 := hide (HB.out.trans (below_drewN _ _ nq))
          generalize wr.drewN nq = W2 at *
          go_wp2_with fail
          go_roundw
          case rel => exact ⟨i + 1, a, d, acc, ao, cv, by go_num, rfl, rfl, by omega, rfl, OW2.out, B2.out, by omega, HNX⟩
          case measure => simp [intOf]; omega
      · have HIE : Hid (i = a + tkN (s.data.toList.drop a)) := by show _ = _; omega
        have hal : a ≤ s.data.toList.length := by rw [HLD.out]; omega
        have hsg : (s.extract a i).size ≤ 64 := by rw [extract_seg, ofL_size, seg_len _ _ _ (by rw [HLD.out]; exact hle)]; omega
        clear hin hit
        by_cases hlt : i < s.size
        · have hlt' : (i : Int) < (s.size : Int) := by omega
          have hneq : ((i : Int) == (s.size : Int)) = false := by rw [beq_eq_false_iff_ne]; omega
          have hill : i < s.data.toList.length := by rw [HLD.out]; exact hlt
          have hsi : s.data.toList[i]'hill = s[i] := rfl
          have SP := hide (fun w => Rsep_any s[i] w)
          cases hmk : markB s[i]
          · rw [hmk] at SP
            have hmk' : markB (s.data.toList[a + tkN (s.data.toList.drop a)]'(by rw [← HIE.out]; exact hill)) = false := by
              have := hmk
              rw [← hsi] at this
              simpa only [HIE.out] using this
            obtain ⟨htp, hR⟩ := restS_turn s.data.toList HOK.out d a hal (by rw [← HIE.out]; exact hill) hmk'
            have hai2 : a < i := by rw [HIE.out]; omega
            obtain ⟨m, hm⟩ : ∃ m, i = m + 1 := ⟨i - 1, by omega⟩
            have hml : m < s.size := by omega
            have hmi : (i : Int) - 1 = (m : Int) := by omega
            have hgt2 : (a : Int) < (i : Int) := by omega
            have htl : tkN (s.data.toList.drop a) < (s.data.toList.drop a).length := by rw [List.length_drop]; have := HIE.out; omega
            have hst := tok_stop (s.data.toList.drop a) (fun c hc => HOK.out c (List.mem_of_mem_drop hc)) htp htl (by
              rw [List.getElem_drop]; exact hmk')
            have e1 : (s.data.toList.drop a)[tkN (s.data.toList.drop a)]'htl = s[i] := by
              rw [List.getElem_drop, ← hsi]
              have := HIE.out
              simp only [← this]
            have e2 : (s.data.toList.drop a).getD (tkN (s.data.toList.drop a) - 1) 0 = s[m] := by
              have hx : a + (tkN (s.data.toList.drop a) - 1) = m := by have := HIE.out; omega
              rw [List.getD_eq_getElem?_getD, List.getElem?_drop, hx, List.getElem?_eq_getElem (by rw [HLD.out]; exact hml)]
              rfl
            rw [e1, e2, drop_seg, ← HIE.out] at hst
            obtain ⟨hs1, hs2⟩ := hst
            have D1 := fun w => Rdigit_any (s[i].toNat : Int) w
            have D2 := fun w => Rdigit_any (s[m].toNat : Int) w
            have TK := fun w => Rtoken_any d (s.extract a i) (isC (s[i].toNat : Int) 1) w hsg
            rw [extract_data] at TK
            have hnr : tokL d (seg s.data.toList a i) (isC (s[i].toNat : Int) 1) = tokL d (seg s.data.toList a i) true := tok_near _ _ _ _ (by
              rw [hs2, hs1]
              cases isC (s[m].toNat : Int) 1
              · exact .inr rfl
              · exact .inl rfl)
            rw [hnr] at TK
            obtain ⟨T, hT⟩ : ∃ T, tokL d (seg s.data.toList a i) true = T := ⟨_, rfl⟩
            rw [hT] at TK
            unfold tokV at TK
            have HNX : Hid (InvS s.data.toList (i + 1) i true (acc ++ [T])) := by
              have hpos : 0 < tkN (s.data.toList.drop i) := by
                rw [List.drop_eq_getElem_cons hill]
                exact tkN_pos _ _ (HOK.out _ (List.getElem_mem hill)) (by rw [hsi]; exact hmk)
              refine ⟨?_, .inr ⟨by omega, by rw [HLD.out]; omega, by omega⟩⟩
              rw [HI.out.1, hR, ← HIE.out, hT]
              simp
            rw [hs1] at D1 TK
            have hbb : ((!isC (s[m].toNat : Int) 1) != isC (s[m].toNat : Int) 1) = true := by cases isC (s[m].toNat : Int) 1 <;> rfl
            generalize isC (s[m].toNat : Int) 1 = DG at *
            have D1 := hide D1
            have D2 := hide D2
            have TK := hide TK
            have HM := hide hm
            clear hR hmk' hT hs1 hs2 hnr e1 e2 htl htp hm
            go_wp2_with fail
            refine (SP.out _).mono ?_
            rintro e w' ⟨rfl, hw'⟩
            rw [hw']; clear hw' w'
            go_wp2_with fail
            go_quiet (first | (go_at_call 61; exact Calls.quiet_of_same (D1.out _)) | (go_at_call 61; exact Calls.quiet_of_same (D2.out _)) | fail)
            have OW2 := hide (own_drewN OW.out nq)
            have B2 := hide (HB.out.trans (below_drewN _ _ nq))
            generalize wr.drewN nq = W2 at *
            go_wp2_with fail
            refine (wpIn_wide (n := 5)).1 ?_
            refine wpIn_region_any (by kernel_rfl) ?_
            change wpAnyIn _ _ _ _ _ _ _ _ _ (World.drew _)
            refine wpAnyIn_take (i := 0) (v := ?_) rfl rfl (by kernel_rfl) (by kernel_rfl) (by kernel_rfl) (fun _ _ _ h => h) ⟨Or.inl ⟨by rfl, ?_⟩, fun _ => rfl⟩ ?_
            rotate_left
            · intro w; go_simp
              try with_reducible rfl
            refine wpAnyIn_take (i := 1) (v := ?_) rfl rfl (by kernel_rfl) (by kernel_rfl) (by kernel_rfl) (fun _ _ _ h => h) ⟨Or.inl ⟨by rfl, ?_⟩, fun _ => rfl⟩ ?_
            rotate_left
            · intro w; go_simp
              try with_reducible rfl
            refine wpAnyIn_take (i := 2) (v := ?_) rfl rfl (by kernel_rfl) (by kernel_rfl) (by kernel_rfl) (fun _ _ _ h => h) ⟨Or.inl ⟨by rfl, ?_⟩, fun _ => rfl⟩ ?_
            rotate_left
            · intro w; go_simp
              try with_reducible rfl
            refine wpAnyIn_take (i := 3) (v := ?_) rfl rfl (by kernel_rfl) (by kernel_rfl) (by kernel_rfl) (fun _ _ _ h => h) ⟨Or.inl ⟨by rfl, ?_⟩, fun _ => rfl⟩ ?_
            rotate_left
            · intro w; go_simp
              try with_reducible rfl
            refine wpAnyIn_take (i := 4) (v := ?_) rfl rfl (by kernel_rfl) (by kernel_rfl) (by kernel_rfl) (fun _ _ _ h => h) ⟨Or.inl ⟨by rfl, ?_⟩, fun _ => rfl⟩ ?_
            rotate_left
            · intro w; go_simp
              try with_reducible rfl
            refine wpAnyIn_take (i := 5) (v := ?_) rfl rfl (by kernel_rfl) (by kernel_rfl) (by kernel_rfl) (fun _ _ _ h => h) ⟨Or.inl ⟨by rfl, ?_⟩, fun _ => rfl⟩ ?_
            rotate_left
            · intro w; go_simp
              try with_reducible rfl
            refine wpAnyIn_take (i := 6) (v := ?_) rfl rfl (by kernel_rfl) (by kernel_rfl) (by kernel_rfl) (fun _ _ _ h => h) ⟨Or.inl ⟨by rfl, ?_⟩, fun _ => rfl⟩ ?_
            rotate_left
            · intro w; go_simp
              try with_reducible rfl
            refine wpAnyIn_take (i := 7) (v := ?_) rfl rfl (by kernel_rfl) (by kernel_rfl) (by kernel_rfl) (fun _ _ _ h => h) ⟨Or.inl ⟨by rfl, ?_⟩, fun _ => rfl⟩ ?_
            rotate_left
            · intro w; go_simp
              try with_reducible rfl
            refine wpAnyIn_ready (rs := [8, 9]) (by kernel_rfl) (by simp) ?_
            refine AllReadyIn.cons rfl (fun K hK => ?_) ?_
            · go_simp
              refine hK _ _ ?_
              clear hK K
              refine wpAnyIn_ready (rs := [9]) (by kernel_rfl) (by simp) ?_
              refine AllReadyIn.cons rfl (fun K hK => ?_) ?_
              · go_simp
                refine hK _ _ ?_
                clear hK K
                refine wpAnyIn_ready (rs := [10]) (by kernel_rfl) (by simp) ?_
                refine AllReadyIn.cons rfl (fun K hK => ?_) ?_
                · go_simp
                  refine hK _ _ ?_
                  clear hK K
                  refine wpAnyIn_ready (rs := [11]) (by kernel_rfl) (by simp) ?_
                  refine AllReadyIn.cons rfl (fun K hK => ?_) ?_
                  · go_simp
                    refine ⟨trivial, ?_⟩
                    refine (callsIn_wide.2 (D1.out _)).mono ?_
                    rintro e w4 ⟨rfl, hw4⟩
                    rw [hw4]; clear hw4 w4
                    refine hK _ _ ?_
                    clear hK K
                    refine wpAnyIn_ready (rs := [12]) (by kernel_rfl) (by simp) ?_
                    refine AllReadyIn.cons rfl (fun K hK => ?_) ?_
                    · go_simp
                      refine hK _ _ ?_
                      clear hK K
                      refine wpAnyIn_ready (rs := [13]) (by kernel_rfl) (by simp) ?_
                      refine AllReadyIn.cons rfl (fun K hK => ?_) ?_
                      · go_simp
                        refine ⟨trivial, ?_⟩
                        refine (callsIn_wide.2 (TK.out _)).mono ?_
                        rintro e w5 ⟨rfl, b5⟩
                        have B5 := hide (B2.out.drew.trans (b5.mono B2.out.size))
                        have OW5 := hide (own_below OW2.out.drew b5)
                        clear b5
                        refine hK _ _ ?_
                        clear hK K
                        refine wpAnyIn_ready (rs := [14]) (by kernel_rfl) (by simp) ?_
                        refine AllReadyIn.cons rfl (fun K hK => ?_) ?_
                        · go_simp
                          refine hK _ _ ?_
                          clear hK K
                          refine wpAnyIn_ready (rs := [15]) (by kernel_rfl) (by simp) ?_
                          refine AllReadyIn.cons rfl (fun K hK => ?_) ?_
                          · refine stepIn_append_own rfl _ _ 60 rfl w.heap.size 91 i0 (.agg #[.bool false, .bool false, .string .empty]) 3 24 Tryz.underlying60 hi hz0 hz1 hz2 rfl (by decide) _ _ _ rfl (OW5.out.alloc _) ⟨w5.heap.size, 0, none⟩ 1 1 (rowT T) rfl rfl (cell_three_new _ _ _ _ _) (rowT_one _) (by unfold maxLen; omega) (by omega) (by have := B5.out.size; simp; omega) ?_
                            intro v6 w6 hown6 hgrow6 _
                            obtain ⟨g6, cap6, rfl⟩ := ownsRow_succ hown6
                            refine hK _ _ ?_
                            clear hK K
                            refine wpAnyIn_ready (rs := [16]) (by kernel_rfl) (by simp) ?_
                            refine AllReadyIn.cons rfl (fun K hK => ?_) ?_
                            · go_simp
                              refine hK _ _ ?_
                              clear hK K
                              refine wpAnyIn_done (by kernel_rfl) ?_ _
                              have B6 := hide (below_app OW5.out B5.out hgrow6)
                              have OW6 : Hid (w6.ownsRow w.heap.size 91 3 (.slice (some ⟨g6, 0, none⟩) (acc.length + 1) cap6) (acc ++ [T]).length (flatT (acc ++ [T]))) := by
                                show World.ownsRow _ _ _ _ _ _ _
                                rw [List.length_append, flatT_snoc]
                                exact hown6
                              clear hgrow6 hown6
                              go_wp2_with fail
                              go_roundw
                              case rel => exact ⟨i + 1, i, true, acc ++ [T], _, cap6, by go_num, rfl, by first | rfl | go_num, by omega, by rw [List.length_append, List.length_singleton], OW6.out, B6.out, by rw [List.length_append, List.length_singleton]; omega, HNX⟩
                              case measure => simp [intOf]; omega
                            exact AllReadyIn.nil
                          exact AllReadyIn.nil
                        exact AllReadyIn.nil
                      exact AllReadyIn.nil
                    exact AllReadyIn.nil
                  exact AllReadyIn.nil
                exact AllReadyIn.nil
              exact AllReadyIn.nil
            refine AllReadyIn.cons rfl (fun K hK => ?_) ?_
            · go_simp
              refine hK _ _ ?_
              clear hK K
              refine wpAnyIn_ready (rs := [8]) (by kernel_rfl) (by simp) ?_
              refine AllReadyIn.cons rfl (fun K hK => ?_) ?_
              · go_simp
                refine hK _ _ ?_
                clear hK K
                refine wpAnyIn_ready (rs := [10]) (by kernel_rfl) (by simp) ?_
                refine AllReadyIn.cons rfl (fun K hK => ?_) ?_
                · go_simp
                  refine hK _ _ ?_
                  clear hK K
                  refine wpAnyIn_ready (rs := [11]) (by kernel_rfl) (by simp) ?_
                  refine AllReadyIn.cons rfl (fun K hK => ?_) ?_
                  · go_simp
                    refine ⟨trivial, ?_⟩
                    refine (callsIn_wide.2 (D1.out _)).mono ?_
                    rintro e w4 ⟨rfl, hw4⟩
                    rw [hw4]; clear hw4 w4
                    refine hK _ _ ?_
                    clear hK K
                    refine wpAnyIn_ready (rs := [12]) (by kernel_rfl) (by simp) ?_
                    refine AllReadyIn.cons rfl (fun K hK => ?_) ?_
                    · go_simp
                      refine hK _ _ ?_
                      clear hK K
                      refine wpAnyIn_ready (rs := [13]) (by kernel_rfl) (by simp) ?_
                      refine AllReadyIn.cons rfl (fun K hK => ?_) ?_
                      · go_simp
                        refine ⟨trivial, ?_⟩
                        refine (callsIn_wide.2 (TK.out _)).mono ?_
                        rintro e w5 ⟨rfl, b5⟩
                        have B5 := hide (B2.out.drew.trans (b5.mono B2.out.size))
                        have OW5 := hide (own_below OW2.out.drew b5)
                        clear b5
                        refine hK _ _ ?_
                        clear hK K
                        refine wpAnyIn_ready (rs := [14]) (by kernel_rfl) (by simp) ?_
                        refine AllReadyIn.cons rfl (fun K hK => ?_) ?_
                        · go_simp
                          refine hK _ _ ?_
                          clear hK K
                          refine wpAnyIn_ready (rs := [15]) (by kernel_rfl) (by simp) ?_
                          refine AllReadyIn.cons rfl (fun K hK => ?_) ?_
                          · refine stepIn_append_own rfl _ _ 60 rfl w.heap.size 91 i0 (.agg #[.bool false, .bool false, .string .empty]) 3 24 Tryz.underlying60 hi hz0 hz1 hz2 rfl (by decide) _ _ _ rfl (OW5.out.alloc _) ⟨w5.heap.size, 0, none⟩ 1 1 (rowT T) rfl rfl (cell_three_new _ _ _ _ _) (rowT_one _) (by unfold maxLen; omega) (by omega) (by have := B5.out.size; simp; omega) ?_
                            intro v6 w6 hown6 hgrow6 _
                            obtain ⟨g6, cap6, rfl⟩ := ownsRow_succ hown6
                            refine hK _ _ ?_
                            clear hK K
                            refine wpAnyIn_ready (rs := [16]) (by kernel_rfl) (by simp) ?_
                            refine AllReadyIn.cons rfl (fun K hK => ?_) ?_
                            · go_simp
                              refine hK _ _ ?_
                              clear hK K
                              refine wpAnyIn_done (by kernel_rfl) ?_ _
                              have B6 := hide (below_app OW5.out B5.out hgrow6)
                              have OW6 : Hid (w6.ownsRow w.heap.size 91 3 (.slice (some ⟨g6, 0, none⟩) (acc.length + 1) cap6) (acc ++ [T]).length (flatT (acc ++ [T]))) := by
                                show World.ownsRow _ _ _ _ _ _ _
                                rw [List.length_append, flatT_snoc]
                                exact hown6
                              clear hgrow6 hown6
                              go_wp2_with fail
                              go_roundw
                              case rel => exact ⟨i + 1, i, true, acc ++ [T], _, cap6, by go_num, rfl, by first | rfl | go_num, by omega, by rw [List.length_append, List.length_singleton], OW6.out, B6.out, by rw [List.length_append, List.length_singleton]; omega, HNX⟩
                              case measure => simp [intOf]; omega
                            exact AllReadyIn.nil
                          exact AllReadyIn.nil
                        exact AllReadyIn.nil
                      exact AllReadyIn.nil
                    exact AllReadyIn.nil
                  exact AllReadyIn.nil
                exact AllReadyIn.nil
              exact AllReadyIn.nil
            exact AllReadyIn.nil
          · rw [hmk] at SP
            have hmk' : markB (s.data.toList[a + tkN (s.data.toList.drop a)]'(by rw [← HIE.out]; exact hill)) = true := by
              have := hmk
              rw [← hsi] at this
              simpa only [HIE.out] using this
            have hR := restS_mark s.data.toList HOK.out d a hal (by rw [← HIE.out]; exact hill) hmk'
            have TK := fun w => Rtoken_any d (s.extract a i) false w hsg
            rw [extract_data] at TK
            obtain ⟨T, hT⟩ : ∃ T, tokL d (seg s.data.toList a i) false = T := ⟨_, rfl⟩
            rw [hT] at TK
            unfold tokV at TK
            have TK := hide TK
            obtain ⟨D1, hD1⟩ : ∃ D1, ((s[i].toNat : Int) == 45) = D1 := ⟨_, rfl⟩
            have hD2 : (s.data.toList[a + tkN (s.data.toList.drop a)]'(by rw [← HIE.out]; exact hill) == 45) = D1 := by
              have h45 : (s[i] == 45) = D1 := by rw [← hD1, show (45 : Int) = ((45 : UInt8).toNat : Int) from rfl, u8_beq]
              rw [← hsi] at h45
              simpa only [HIE.out] using h45
            have HNX : Hid (InvS s.data.toList (i + 1) (i + 1) D1 (acc ++ [T])) := by
              refine ⟨?_, .inr ⟨Nat.le_refl _, by rw [HLD.out]; omega, by omega⟩⟩
              rw [HI.out.1, hR, hD2, ← HIE.out, hT]
              simp
            clear hR hmk' hD2 hT
            go_wp2_with fail
            refine (SP.out _).mono ?_
            rintro e w' ⟨rfl, hw'⟩
            rw [hw']; clear hw' w'
            go_wp2_with fail
            go_quiet (fail)
            have OW2 := hide (own_drewN OW.out nq)
            have B2 := hide (HB.out.trans (below_drewN _ _ nq))
            generalize wr.drewN nq = W2 at *
            go_wp2_with fail
            refine (wpIn_wide (n := 5)).1 ?_
            refine wpIn_region_any (by kernel_rfl) ?_
            change wpAnyIn _ _ _ _ _ _ _ _ _ (World.drew _)
            refine wpAnyIn_take (i := 0) (v := ?_) rfl rfl (by kernel_rfl) (by kernel_rfl) (by kernel_rfl) (fun _ _ _ h => h) ⟨Or.inl ⟨by rfl, ?_⟩, fun _ => rfl⟩ ?_
            rotate_left
            · intro w; go_simp
              try with_reducible rfl
            refine wpAnyIn_take (i := 1) (v := ?_) rfl rfl (by kernel_rfl) (by kernel_rfl) (by kernel_rfl) (fun _ _ _ h => h) ⟨Or.inl ⟨by rfl, ?_⟩, fun _ => rfl⟩ ?_
            rotate_left
            · intro w; go_simp
              try with_reducible rfl
            refine wpAnyIn_take (i := 2) (v := ?_) rfl rfl (by kernel_rfl) (by kernel_rfl) (by kernel_rfl) (fun _ _ _ h => h) ⟨Or.inl ⟨by rfl, ?_⟩, fun _ => rfl⟩ ?_
            rotate_left
            · intro w; go_simp
              try with_reducible rfl
            refine wpAnyIn_take (i := 3) (v := ?_) rfl rfl (by kernel_rfl) (by kernel_rfl) (by kernel_rfl) (fun _ _ _ h => h) ⟨Or.inl ⟨by rfl, ?_⟩, fun _ => rfl⟩ ?_
            rotate_left
            · intro w; go_simp
              try with_reducible rfl
            refine wpAnyIn_take (i := 4) (v := ?_) rfl rfl (by kernel_rfl) (by kernel_rfl) (by kernel_rfl) (fun _ _ _ h => h) ⟨Or.inl ⟨by rfl, ?_⟩, fun _ => rfl⟩ ?_
            rotate_left
            · intro w; go_simp
              try with_reducible rfl
            refine wpAnyIn_take (i := 5) (v := ?_) rfl rfl (by kernel_rfl) (by kernel_rfl) (by kernel_rfl) (fun _ _ _ h => h) ⟨Or.inl ⟨by rfl, ?_⟩, fun _ => rfl⟩ ?_
            rotate_left
            · intro w; go_simp
              try with_reducible rfl
            refine wpAnyIn_take (i := 6) (v := ?_) rfl rfl (by kernel_rfl) (by kernel_rfl) (by kernel_rfl) (fun _ _ _ h => h) ⟨Or.inl ⟨by rfl, ?_⟩, fun _ => rfl⟩ ?_
            rotate_left
            · intro w; go_simp
              try with_reducible rfl
            refine wpAnyIn_take (i := 7) (v := ?_) rfl rfl (by kernel_rfl) (by kernel_rfl) (by kernel_rfl) (fun _ _ _ h => h) ⟨Or.inl ⟨by rfl, ?_⟩, fun _ => rfl⟩ ?_
            rotate_left
            · intro w; go_simp
              try with_reducible rfl
            refine wpAnyIn_ready (rs := [8, 9]) (by kernel_rfl) (by simp) ?_
            refine AllReadyIn.cons rfl (fun K hK => ?_) ?_
            · go_simp
              refine hK _ _ ?_
              clear hK K
              refine wpAnyIn_ready (rs := [9]) (by kernel_rfl) (by simp) ?_
              refine AllReadyIn.cons rfl (fun K hK => ?_) ?_
              · go_simp
                refine hK _ _ ?_
                clear hK K
                refine wpAnyIn_ready (rs := [10]) (by kernel_rfl) (by simp) ?_
                refine AllReadyIn.cons rfl (fun K hK => ?_) ?_
                · go_simp
                  refine hK _ _ ?_
                  clear hK K
                  refine wpAnyIn_ready (rs := [11]) (by kernel_rfl) (by simp) ?_
                  refine AllReadyIn.cons rfl (fun K hK => ?_) ?_
                  · go_simp
                    refine ⟨trivial, ?_⟩
                    refine hK _ _ ?_
                    clear hK K
                    refine wpAnyIn_ready (rs := [12]) (by kernel_rfl) (by simp) ?_
                    refine AllReadyIn.cons rfl (fun K hK => ?_) ?_
                    · go_simp
                      refine hK _ _ ?_
                      clear hK K
                      refine wpAnyIn_ready (rs := [13]) (by kernel_rfl) (by simp) ?_
                      refine AllReadyIn.cons rfl (fun K hK => ?_) ?_
                      · go_simp
                        refine ⟨trivial, ?_⟩
                        refine (callsIn_wide.2 (TK.out _)).mono ?_
                        rintro e w5 ⟨rfl, b5⟩
                        have B5 := hide (B2.out.drew.trans (b5.mono B2.out.size))
                        have OW5 := hide (own_below OW2.out.drew b5)
                        clear b5
                        refine hK _ _ ?_
                        clear hK K
                        refine wpAnyIn_ready (rs := [14]) (by kernel_rfl) (by simp) ?_
                        refine AllReadyIn.cons rfl (fun K hK => ?_) ?_
                        · go_simp
                          refine hK _ _ ?_
                          clear hK K
                          refine wpAnyIn_ready (rs := [15]) (by kernel_rfl) (by simp) ?_
                          refine AllReadyIn.cons rfl (fun K hK => ?_) ?_
                          · refine stepIn_append_own rfl _ _ 60 rfl w.heap.size 91 i0 (.agg #[.bool false, .bool false, .string .empty]) 3 24 Tryz.underlying60 hi hz0 hz1 hz2 rfl (by decide) _ _ _ rfl (OW5.out.alloc _) ⟨w5.heap.size, 0, none⟩ 1 1 (rowT T) rfl rfl (cell_three_new _ _ _ _ _) (rowT_one _) (by unfold maxLen; omega) (by omega) (by have := B5.out.size; simp; omega) ?_
                            intro v6 w6 hown6 hgrow6 _
                            obtain ⟨g6, cap6, rfl⟩ := ownsRow_succ hown6
                            refine hK _ _ ?_
                            clear hK K
                            refine wpAnyIn_ready (rs := [16]) (by kernel_rfl) (by simp) ?_
                            refine AllReadyIn.cons rfl (fun K hK => ?_) ?_
                            · go_simp
                              refine hK _ _ ?_
                              clear hK K
                              refine wpAnyIn_done (by kernel_rfl) ?_ _
                              have B6 := hide (below_app OW5.out B5.out hgrow6)
                              have OW6 : Hid (w6.ownsRow w.heap.size 91 3 (.slice (some ⟨g6, 0, none⟩) (acc.length + 1) cap6) (acc ++ [T]).length (flatT (acc ++ [T]))) := by
                                show World.ownsRow _ _ _ _ _ _ _
                                rw [List.length_append, flatT_snoc]
                                exact hown6
                              clear hgrow6 hown6
                              go_wp2_with fail
                              go_roundw
                              case rel => exact ⟨i + 1, i + 1, D1, acc ++ [T], _, cap6, by go_num, rfl, by first | rfl | go_num, by omega, by rw [List.length_append, List.length_singleton], OW6.out, B6.out, by rw [List.length_append, List.length_singleton]; omega, HNX⟩
                              case measure => simp [intOf]; omega
                            exact AllReadyIn.nil
                          exact AllReadyIn.nil
                        exact AllReadyIn.nil
                      exact AllReadyIn.nil
                    exact AllReadyIn.nil
                  exact AllReadyIn.nil
                exact AllReadyIn.nil
              exact AllReadyIn.nil
            refine AllReadyIn.cons rfl (fun K hK => ?_) ?_
            · go_simp
              refine hK _ _ ?_
              clear hK K
              refine wpAnyIn_ready (rs := [8]) (by kernel_rfl) (by simp) ?_
              refine AllReadyIn.cons rfl (fun K hK => ?_) ?_
              · go_simp
                refine hK _ _ ?_
                clear hK K
                refine wpAnyIn_ready (rs := [10]) (by kernel_rfl) (by simp) ?_
                refine AllReadyIn.cons rfl (fun K hK => ?_) ?_
                · go_simp
                  refine hK _ _ ?_
                  clear hK K
                  refine wpAnyIn_ready (rs := [11]) (by kernel_rfl) (by simp) ?_
                  refine AllReadyIn.cons rfl (fun K hK => ?_) ?_
                  · go_simp
                    refine ⟨trivial, ?_⟩
                    refine hK _ _ ?_
                    clear hK K
                    refine wpAnyIn_ready (rs := [12]) (by kernel_rfl) (by simp) ?_
                    refine AllReadyIn.cons rfl (fun K hK => ?_) ?_
                    · go_simp
                      refine hK _ _ ?_
                      clear hK K
                      refine wpAnyIn_ready (rs := [13]) (by kernel_rfl) (by simp) ?_
                      refine AllReadyIn.cons rfl (fun K hK => ?_) ?_
                      · go_simp
                        refine ⟨trivial, ?_⟩
                        refine (callsIn_wide.2 (TK.out _)).mono ?_
                        rintro e w5 ⟨rfl, b5⟩
                        have B5 := hide (B2.out.drew.trans (b5.mono B2.out.size))
                        have OW5 := hide (own_below OW2.out.drew b5)
                        clear b5
                        refine hK _ _ ?_
                        clear hK K
                        refine wpAnyIn_ready (rs := [14]) (by kernel_rfl) (by simp) ?_
                        refine AllReadyIn.cons rfl (fun K hK => ?_) ?_
                        · go_simp
                          refine hK _ _ ?_
                          clear hK K
                          refine wpAnyIn_ready (rs := [15]) (by kernel_rfl) (by simp) ?_
                          refine AllReadyIn.cons rfl (fun K hK => ?_) ?_
                          · refine stepIn_append_own rfl _ _ 60 rfl w.heap.size 91 i0 (.agg #[.bool false, .bool false, .string .empty]) 3 24 Tryz.underlying60 hi hz0 hz1 hz2 rfl (by decide) _ _ _ rfl (OW5.out.alloc _) ⟨w5.heap.size, 0, none⟩ 1 1 (rowT T) rfl rfl (cell_three_new _ _ _ _ _) (rowT_one _) (by unfold maxLen; omega) (by omega) (by have := B5.out.size; simp; omega) ?_
                            intro v6 w6 hown6 hgrow6 _
                            obtain ⟨g6, cap6, rfl⟩ := ownsRow_succ hown6
                            refine hK _ _ ?_
                            clear hK K
                            refine wpAnyIn_ready (rs := [16]) (by kernel_rfl) (by simp) ?_
                            refine AllReadyIn.cons rfl (fun K hK => ?_) ?_
                            · go_simp
                              refine hK _ _ ?_
                              clear hK K
                              refine wpAnyIn_done (by kernel_rfl) ?_ _
                              have B6 := hide (below_app OW5.out B5.out hgrow6)
                              have OW6 : Hid (w6.ownsRow w.heap.size 91 3 (.slice (some ⟨g6, 0, none⟩) (acc.length + 1) cap6) (acc ++ [T]).length (flatT (acc ++ [T]))) := by
                                show World.ownsRow _ _ _ _ _ _ _
                                rw [List.length_append, flatT_snoc]
                                exact hown6
                              clear hgrow6 hown6
                              go_wp2_with fail
                              go_roundw
                              case rel => exact ⟨i + 1, i + 1, D1, acc ++ [T], _, cap6, by go_num, rfl, by first | rfl | go_num, by omega, by rw [List.length_append, List.length_singleton], OW6.out, B6.out, by rw [List.length_append, List.length_singleton]; omega, HNX⟩
                              case measure => simp [intOf]; omega
                            exact AllReadyIn.nil
                          exact AllReadyIn.nil
                        exact AllReadyIn.nil
                      exact AllReadyIn.nil
                    exact AllReadyIn.nil
                  exact AllReadyIn.nil
                exact AllReadyIn.nil
              exact AllReadyIn.nil
            exact AllReadyIn.nil
        · obtain rfl : i = s.size := by omega
          have hlt' : ¬ ((s.size : Nat) : Int) < (s.size : Int) := by omega
          have heq : ((s.size : Int) == (s.size : Int)) = true := by simp
          have hR := restS_end s.data.toList d a hal (by rw [HLD.out]; exact HIE.out.symm)
          have TK := fun w => Rtoken_any d (s.extract a s.size) false w hsg
          rw [extract_data] at TK
          obtain ⟨T, hT⟩ : ∃ T, tokL d (seg s.data.toList a s.size) false = T := ⟨_, rfl⟩
          rw [hT] at TK
          unfold tokV at TK
          have TK := hide TK
          have HNX : Hid (InvS s.data.toList (s.size + 1) (s.size + 1) false (acc ++ [T])) := by
            refine ⟨?_, .inl ⟨by rw [HLD.out], by rw [HLD.out]⟩⟩
            rw [HI.out.1, hR, ← HIE.out, hT]
            unfold restS
            rw [if_neg (by rw [HLD.out]; omega)]
            simp
          clear hR hT
          go_wp2_with fail
          go_quiet (fail)
          have OW2 := hide (own_drewN OW.out nq)
          have B2 := hide (HB.out.trans (below_drewN _ _ nq))
          generalize wr.drewN nq = W2 at *
          go_wp2_with fail
          refine (wpIn_wide (n := 5)).1 ?_
          refine wpIn_region_any (by kernel_rfl) ?_
          change wpAnyIn _ _ _ _ _ _ _ _ _ (World.drew _)
          refine wpAnyIn_take (i := 0) (v := ?_) rfl rfl (by kernel_rfl) (by kernel_rfl) (by kernel_rfl) (fun _ _ _ h => h) ⟨Or.inl ⟨by rfl, ?_⟩, fun _ => rfl⟩ ?_
          rotate_left
          · intro w; go_simp
            try with_reducible rfl
          refine wpAnyIn_take (i := 1) (v := ?_) rfl rfl (by kernel_rfl) (by kernel_rfl) (by kernel_rfl) (fun _ _ _ h => h) ⟨Or.inl ⟨by rfl, ?_⟩, fun _ => rfl⟩ ?_
          rotate_left
          · intro w; go_simp
            try with_reducible rfl
          refine wpAnyIn_take (i := 2) (v := ?_) rfl rfl (by kernel_rfl) (by kernel_rfl) (by kernel_rfl) (fun _ _ _ h => h) ⟨Or.inl ⟨by rfl, ?_⟩, fun _ => rfl⟩ ?_
          rotate_left
          · intro w; go_simp
            try with_reducible rfl
          refine wpAnyIn_take (i := 3) (v := ?_) rfl rfl (by kernel_rfl) (by kernel_rfl) (by kernel_rfl) (fun _ _ _ h => h) ⟨Or.inl ⟨by rfl, ?_⟩, fun _ => rfl⟩ ?_
          rotate_left
          · intro w; go_simp
            try with_reducible rfl
          refine wpAnyIn_take (i := 4) (v := ?_) rfl rfl (by kernel_rfl) (by kernel_rfl) (by kernel_rfl) (fun _ _ _ h => h) ⟨Or.inl ⟨by rfl, ?_⟩, fun _ => rfl⟩ ?_
          rotate_left
          · intro w; go_simp
            try with_reducible rfl
          refine wpAnyIn_take (i := 5) (v := ?_) rfl rfl (by kernel_rfl) (by kernel_rfl) (by kernel_rfl) (fun _ _ _ h => h) ⟨Or.inl ⟨by rfl, ?_⟩, fun _ => rfl⟩ ?_
          rotate_left
          · intro w; go_simp
            try with_reducible rfl
          refine wpAnyIn_take (i := 6) (v := ?_) rfl rfl (by kernel_rfl) (by kernel_rfl) (by kernel_rfl) (fun _ _ _ h => h) ⟨Or.inl ⟨by rfl, ?_⟩, fun _ => rfl⟩ ?_
          rotate_left
          · intro w; go_simp
            try with_reducible rfl
          refine wpAnyIn_take (i := 7) (v := ?_) rfl rfl (by kernel_rfl) (by kernel_rfl) (by kernel_rfl) (fun _ _ _ h => h) ⟨Or.inl ⟨by rfl, ?_⟩, fun _ => rfl⟩ ?_
          rotate_left
          · intro w; go_simp
            try with_reducible rfl
          refine wpAnyIn_ready (rs := [8, 9]) (by kernel_rfl) (by simp) ?_
          refine AllReadyIn.cons rfl (fun K hK => ?_) ?_
          · go_simp
            refine hK _ _ ?_
            clear hK K
            refine wpAnyIn_ready (rs := [9]) (by kernel_rfl) (by simp) ?_
            refine AllReadyIn.cons rfl (fun K hK => ?_) ?_
            · go_simp
              refine hK _ _ ?_
              clear hK K
              refine wpAnyIn_ready (rs := [10]) (by kernel_rfl) (by simp) ?_
              refine AllReadyIn.cons rfl (fun K hK => ?_) ?_
              · go_simp
                refine hK _ _ ?_
                clear hK K
                refine wpAnyIn_ready (rs := [11]) (by kernel_rfl) (by simp) ?_
                refine AllReadyIn.cons rfl (fun K hK => ?_) ?_
                · go_simp
                  refine ⟨trivial, ?_⟩
                  refine hK _ _ ?_
                  clear hK K
                  refine wpAnyIn_ready (rs := [12]) (by kernel_rfl) (by simp) ?_
                  refine AllReadyIn.cons rfl (fun K hK => ?_) ?_
                  · go_simp
                    refine hK _ _ ?_
                    clear hK K
                    refine wpAnyIn_ready (rs := [13]) (by kernel_rfl) (by simp) ?_
                    refine AllReadyIn.cons rfl (fun K hK => ?_) ?_
                    · go_simp
                      refine ⟨trivial, ?_⟩
                      refine (callsIn_wide.2 (TK.out _)).mono ?_
                      rintro e w5 ⟨rfl, b5⟩
                      have B5 := hide (B2.out.drew.trans (b5.mono B2.out.size))
                      have OW5 := hide (own_below OW2.out.drew b5)
                      clear b5
                      refine hK _ _ ?_
                      clear hK K
                      refine wpAnyIn_ready (rs := [14]) (by kernel_rfl) (by simp) ?_
                      refine AllReadyIn.cons rfl (fun K hK => ?_) ?_
                      · go_simp
                        refine hK _ _ ?_
                        clear hK K
                        refine wpAnyIn_ready (rs := [15]) (by kernel_rfl) (by simp) ?_
                        refine AllReadyIn.cons rfl (fun K hK => ?_) ?_
                        · refine stepIn_append_own rfl _ _ 60 rfl w.heap.size 91 i0 (.agg #[.bool false, .bool false, .string .empty]) 3 24 Tryz.underlying60 hi hz0 hz1 hz2 rfl (by decide) _ _ _ rfl (OW5.out.alloc _) ⟨w5.heap.size, 0, none⟩ 1 1 (rowT T) rfl rfl (cell_three_new _ _ _ _ _) (rowT_one _) (by unfold maxLen; omega) (by omega) (by have := B5.out.size; simp; omega) ?_
                          intro v6 w6 hown6 hgrow6 _
                          obtain ⟨g6, cap6, rfl⟩ := ownsRow_succ hown6
                          refine hK _ _ ?_
                          clear hK K
                          refine wpAnyIn_ready (rs := [16]) (by kernel_rfl) (by simp) ?_
                          refine AllReadyIn.cons rfl (fun K hK => ?_) ?_
                          · go_simp
                            refine hK _ _ ?_
                            clear hK K
                            refine wpAnyIn_done (by kernel_rfl) ?_ _
                            have B6 := hide (below_app OW5.out B5.out hgrow6)
                            have OW6 : Hid (w6.ownsRow w.heap.size 91 3 (.slice (some ⟨g6, 0, none⟩) (acc.length + 1) cap6) (acc ++ [T]).length (flatT (acc ++ [T]))) := by
                              show World.ownsRow _ _ _ _ _ _ _
                              rw [List.length_append, flatT_snoc]
                              exact hown6
                            clear hgrow6 hown6
                            go_wp2_with fail
                            go_roundw
                            case rel => exact ⟨s.size + 1, s.size + 1, false, acc ++ [T], _, cap6, by go_num, rfl, by first | rfl | go_num, by omega, by rw [List.length_append, List.length_singleton], OW6.out, B6.out, by rw [List.length_append, List.length_singleton]; omega, HNX⟩
                            case measure => simp [intOf]
                          exact AllReadyIn.nil
                        exact AllReadyIn.nil
                      exact AllReadyIn.nil
                    exact AllReadyIn.nil
                  exact AllReadyIn.nil
                exact AllReadyIn.nil
              exact AllReadyIn.nil
            exact AllReadyIn.nil
          refine AllReadyIn.cons rfl (fun K hK => ?_) ?_
          · go_simp
            refine hK _ _ ?_
            clear hK K
            refine wpAnyIn_ready (rs := [8]) (by kernel_rfl) (by simp) ?_
            refine AllReadyIn.cons rfl (fun K hK => ?_) ?_
            · go_simp
              refine hK _ _ ?_
              clear hK K
              refine wpAnyIn_ready (rs := [10]) (by kernel_rfl) (by simp) ?_
              refine AllReadyIn.cons rfl (fun K hK => ?_) ?_
              · go_simp
                refine hK _ _ ?_
                clear hK K
                refine wpAnyIn_ready (rs := [11]) (by kernel_rfl) (by simp) ?_
                refine AllReadyIn.cons rfl (fun K hK => ?_) ?_
                · go_simp
                  refine ⟨trivial, ?_⟩
                  refine hK _ _ ?_
                  clear hK K
                  refine wpAnyIn_ready (rs := [12]) (by kernel_rfl) (by simp) ?_
                  refine AllReadyIn.cons rfl (fun K hK => ?_) ?_
                  · go_simp
                    refine hK _ _ ?_
                    clear hK K
                    refine wpAnyIn_ready (rs := [13]) (by kernel_rfl) (by simp) ?_
                    refine AllReadyIn.cons rfl (fun K hK => ?_) ?_
                    · go_simp
                      refine ⟨trivial, ?_⟩
                      refine (callsIn_wide.2 (TK.out _)).mono ?_
                      rintro e w5 ⟨rfl, b5⟩
                      have B5 := hide (B2.out.drew.trans (b5.mono B2.out.size))
                      have OW5 := hide (own_below OW2.out.drew b5)
                      clear b5
                      refine hK _ _ ?_
                      clear hK K
                      refine wpAnyIn_ready (rs := [14]) (by kernel_rfl) (by simp) ?_
                      refine AllReadyIn.cons rfl (fun K hK => ?_) ?_
                      · go_simp
                        refine hK _ _ ?_
                        clear hK K
                        refine wpAnyIn_ready (rs := [15]) (by kernel_rfl) (by simp) ?_
                        refine AllReadyIn.cons rfl (fun K hK => ?_) ?_
                        · refine stepIn_append_own rfl _ _ 60 rfl w.heap.size 91 i0 (.agg #[.bool false, .bool false, .string .empty]) 3 24 Tryz.underlying60 hi hz0 hz1 hz2 rfl (by decide) _ _ _ rfl (OW5.out.alloc _) ⟨w5.heap.size, 0, none⟩ 1 1 (rowT T) rfl rfl (cell_three_new _ _ _ _ _) (rowT_one _) (by unfold maxLen; omega) (by omega) (by have := B5.out.size; simp; omega) ?_
                          intro v6 w6 hown6 hgrow6 _
                          obtain ⟨g6, cap6, rfl⟩ := ownsRow_succ hown6
                          refine hK _ _ ?_
                          clear hK K
                          refine wpAnyIn_ready (rs := [16]) (by kernel_rfl) (by simp) ?_
                          refine AllReadyIn.cons rfl (fun K hK => ?_) ?_
                          · go_simp
                            refine hK _ _ ?_
                            clear hK K
                            refine wpAnyIn_done (by kernel_rfl) ?_ _
                            have B6 := hide (below_app OW5.out B5.out hgrow6)
                            have OW6 : Hid (w6.ownsRow w.heap.size 91 3 (.slice (some ⟨g6, 0, none⟩) (acc.length + 1) cap6) (acc ++ [T]).length (flatT (acc ++ [T]))) := by
                              show World.ownsRow _ _ _ _ _ _ _
                              rw [List.length_append, flatT_snoc]
                              exact hown6
                            clear hgrow6 hown6
                            go_wp2_with fail
                            go_roundw
                            case rel => exact ⟨s.size + 1, s.size + 1, false, acc ++ [T], _, cap6, by go_num, rfl, by first | rfl | go_num, by omega, by rw [List.length_append, List.length_singleton], OW6.out, B6.out, by rw [List.length_append, List.length_singleton]; omega, HNX⟩
                            case measure => simp [intOf]
                          exact AllReadyIn.nil
                        exact AllReadyIn.nil
                      exact AllReadyIn.nil
                    exact AllReadyIn.nil
                  exact AllReadyIn.nil
                exact AllReadyIn.nil
              exact AllReadyIn.nil
            exact AllReadyIn.nil
          exact AllReadyIn.nil
    · have hle' : ¬ (i : Int) ≤ (s.size : Int) := by omega
      have HX : Hid (splitL s.data.toList = acc) := by
        show _ = _
        rcases HI.out.2 with h | h
        · rw [HI.out.1, h.2]
          unfold restS
          rw [if_neg (by omega), List.append_nil]
        · have := HLD.out; omega
      go_wp2_with fail
      go_ret
      exact ⟨_, rfl, by rw [HX.out]; exact OW.out, HB.out⟩

end Go.Proofs.YtpedljmpobhimaaGreatDoor
