/-
  Walks: the document's text of a range, set by set.
-/
import Derived.Test.YtplbdciikkpjoaaGreatZKc
namespace Go.Proofs.YtplbdciikkpjoaaGreat
open Go.RowKit Go.Shelf
set_option linter.unusedVariables false

theorem add_run (a b c : ByteArray) (h : a ++ b = c) (hs : a.size + b.size ≤ 9000000000000000000) : Op.stringOp .add a b = pure (.string c) := by
  unfold Op.stringOp
  have hm : IntKind.i64.max = 9223372036854775807 := rfl
  dsimp only
  rw [if_neg (by rw [hm]; omega), h]
theorem set_end (l : List (List Comp)) (i : Nat) (hi : i < l.length) (P B T : List UInt8) (hP : P = Lib.join ((l.take i).map (fun cs => (setT cs).1)) [32, 124, 124, 32]) (hA : (l.take i).all (fun cs => (setT cs).2) = true)
    (hB : B = (if i = 0 then [] else P ++ [32, 124, 124, 32]) ++ (if l[i].length = 0 then [42] else [])) (hT : T = B ++ Lib.join (l[i].map compT) [32]) (hok : l[i].all okT1 = true) :
    T = Lib.join ((l.take (i + 1)).map (fun cs => (setT cs).1)) [32, 124, 124, 32] ∧ (l.take (i + 1)).all (fun cs => (setT cs).2) = true := by
  have hs : setT l[i] = ((if l[i].length = 0 then [42] else []) ++ Lib.join (l[i].map compT) [32], true) := by
    unfold setT
    by_cases h0 : l[i].length = 0
    · rw [if_pos h0, if_pos h0, List.length_eq_zero_iff.1 h0]
      rfl
    · rw [if_neg h0, if_neg h0, if_pos hok, List.nil_append]
  refine ⟨?_, ?_⟩
  · rw [join_takeS l i hi, hT, hB, hs]
    by_cases h : i = 0
    · rw [if_pos h, if_pos h]; simp
    · rw [if_neg h, if_neg h, hP]; simp
  · rw [List.take_succ_eq_append_getElem hi, List.all_append, hA]
    simp [hs]
theorem fmt_bad (l : List (List Comp)) (i : Nat) (hi : i < l.length) (k : Nat) (hk : k < l[i].length) (h : okT1 l[i][k] = false) : fmtSets l = [] := by
  unfold fmtSets
  rw [if_neg]
  intro ha
  have h1 := List.all_eq_true.1 ha l[i] (List.getElem_mem hi)
  unfold setT at h1
  rw [if_neg (by omega)] at h1
  split at h1
  · rename_i h2
    have h3 := List.all_eq_true.1 h2 l[i][k] (List.getElem_mem hk)
    rw [h] at h3
    cases h3
  · cases h1

set_option maxRecDepth 100000 in
set_option maxHeartbeats 8000000 in
theorem RFormatS_any (l : List (List Comp)) (v : Value) (w : World) (hv : SetsAt w v l) (hs : ∀ cs ∈ l, cs.length ≤ 2000000 ∧ ∀ c ∈ cs, lenS c.2 ≤ 1048576) (hln : l.length ≤ 2000000) (hJ : totS l ≤ 1000000000) :
    Calls Tryz.prog 14 #[v] w fun e w' => e = .returned (.string (ofL (fmtSets l))) ∧ Below w.heap.size w w' := by
  obtain ⟨a, ka, rfl, _⟩ := id hv
  obtain ⟨n, hn⟩ : ∃ n, l.length = n := ⟨_, rfl⟩
  rw [hn] at hv hln ⊢
  have HN := hide hn
  have HV := hide hv
  have HS := hide hs
  have HJ := hide hJ
  clear hn hv hs hJ
  go_enter Tryz.func14, Tryz.ntmps14
  go_wp2_with fail
  go_loopw [3, 4, 5] (fun z j _ wr => ∃ (i : Nat) (P : List UInt8), i ≤ n ∧ z = .string (ofL P) ∧ j = .int .i64 i ∧ Hid (Below w.heap.size w wr) ∧ Hid (P = Lib.join ((l.take i).map (fun cs => (setT cs).1)) [32, 124, 124, 32]) ∧ Hid (P.length ≤ totS (l.take i)) ∧ Hid ((l.take i).all (fun cs => (setT cs).2) = true)) (fun _ j _ _ => n - (intOf j).toNat)
  case atStart => exact ⟨0, [], by omega, rfl, rfl, Below.refl _ _, rfl, Nat.zero_le _, rfl⟩
  case round =>
    obtain ⟨i, P, hin, rfl, rfl, HW, HP, HPL, HA0⟩ := hrel
    by_cases hlt : i < n
    · have hlt' : (i : Int) < (n : Int) := by omega
      have i1 : i < l.length := by rw [HN.out]; exact hlt
      obtain ⟨a', k', hv', h0 | ⟨b, o, rfl, hbl, hrow⟩⟩ := HV.out
      · exfalso
        rw [h0] at i1
        simp at i1
      cases hv'
      obtain ⟨u, d0, hcs⟩ := hrow i i1
      have HE := hide (fun B T h1 h2 h3 => set_end l i i1 P B T HP.out HA0.out h1 h2 h3)
      have HBD := hide (fun k hk h => fmt_bad l i i1 k hk h)
      have HTS := hide (totS_take l i i1)
      have HTSL := hide (totS_le l (i + 1))
      obtain ⟨hm0, hsc⟩ := HS.out l[i] (List.getElem_mem i1)
      have HSC := hide hsc
      obtain ⟨m, hm⟩ : ∃ m, l[i].length = m := ⟨_, rfl⟩
      obtain ⟨au, ku, rfl, _⟩ := id hcs
      rw [hm] at d0 hcs hm0
      have HM := hide hm
      generalize l[i] = cs at *
      have HCS : Hid (∀ W, Below w.heap.size w W → W.cell? ⟨b, o + i, none⟩ = some (.slice au m ku) ∧ CompsAt W (.slice au m ku) cs) := fun W hW => ⟨(hW.cell hbl).trans d0, hcs.below hW⟩
      have hP0 : i = 0 → P = [] := fun h => by
        have := HP.out
        rw [h] at this
        exact this
      clear hrow d0 hcs hsc hm i1
      obtain ⟨hca, hcb0⟩ := HCS.out _ HW.out
      clear hcb0
      have hPb : P.length ≤ 1000000000 := by have := HPL.out; have := HTS.out; have := HTSL.out; have := HJ.out; omega
      have szP := ofL_size P
      by_cases h0 : i = 0
      · by_cases hmm : m = 0
        · have h0' : ¬ (0 : Int) < (i : Int) := by omega
          have hPe := hP0 h0
          obtain ⟨B0, hB0⟩ : ∃ B0 : List UInt8, B0 = P := ⟨_, rfl⟩
          have hBe : B0 = (if i = 0 then [] else P ++ [32, 124, 124, 32]) := by rw [if_pos h0, hB0, hPe]
          have hBl : B0.length ≤ P.length + 4 := by rw [hB0]; omega
          rw [← hB0]
          have hmz : ((m : Int) == 0) = true := by simp [hmm]
          obtain ⟨B, hB⟩ : ∃ B : List UInt8, B = B0 ++ [42] := ⟨_, rfl⟩
          have hcS : ofL B0 ++ ⟨#[42]⟩ = ofL B := by rw [hB, ← cat_ofL]; rfl
          have adS := add_run (ofL B0) ⟨#[42]⟩ (ofL B) hcS (by rw [ofL_size]; show _ + 1 ≤ _; omega)
          have szB0 := ofL_size B0
          have hBl2 : B.length ≤ P.length + 5 := by rw [hB]; simp; omega
          have hBf : B = (if i = 0 then [] else P ++ [32, 124, 124, 32]) ++ (if cs.length = 0 then [42] else []) := by
            have h2 : (if cs.length = 0 then ([42] : List UInt8) else []) = [42] := if_pos (HM.out.trans hmm)
            rw [h2, hB, hBe]
          obtain ⟨b0, hb0⟩ : ∃ b0, b0 = totS (l.take i) + 6 := ⟨_, rfl⟩
          have HBL : Hid (B.length ≤ b0) := by show _ ≤ _; have := HPL.out; omega
          have HBT : Hid (b0 + totC cs ≤ 1000000000) := by show _ ≤ _; have := HTS.out; have := HTSL.out; have := HJ.out; omega
          have HEND : Hid (∀ q T, q = m → T = B ++ Lib.join ((cs.take q).map compT) [32] → (cs.take q).all okT1 = true → (T = Lib.join ((l.take (i + 1)).map (fun cs => (setT cs).1)) [32, 124, 124, 32] ∧ (l.take (i + 1)).all (fun cs => (setT cs).2) = true)) := by
            intro q T hq h1 h2
            rw [List.take_of_length_le (by rw [HM.out, hq]; exact Nat.le_refl _)] at h1 h2
            exact HE.out B T hBf h1 h2
          have HLEN : Hid (∀ q (T : List UInt8), q = m → T.length ≤ b0 + totC (cs.take q) → T.length ≤ totS (l.take (i + 1))) := by
            intro q T hq h1
            have := totC_le cs q
            have := HTS.out
            omega
          have HMZ := hide hmm
          have HI0 := hide h0
          clear hb0 hP0 hmm hBf hBe hBl hBl2 h0 hPe
          clear hB hB0
          go_wp2_with fail
          go_loopw [3, 5] (fun z j wr => ∃ (q : Nat) (T : List UInt8), q ≤ m ∧ z = .string (ofL T) ∧ j = .int .i64 q ∧ Hid (Below w.heap.size w wr) ∧ Hid (T = B ++ Lib.join ((cs.take q).map compT) [32]) ∧ Hid (T.length ≤ b0 + totC (cs.take q)) ∧ Hid ((cs.take q).all okT1 = true)) (fun _ j _ => m - (intOf j).toNat)
          case atStart => exact ⟨0, B, by omega, rfl, rfl, HW, by show B = B ++ Lib.join [] [32]; rw [Lib.join_nil, List.append_nil], by show B.length ≤ b0 + 0; exact HBL.out, rfl⟩
          case round =>
            clear HW hca
            obtain ⟨q, T, hqm, rfl, rfl, HW, HT, HTL, HA⟩ := hrel
            obtain ⟨hca, hcb⟩ := HCS.out _ HW.out
            by_cases hql : q < m
            · exfalso
              have := HMZ.out
              omega
            · have hql' : ¬ (q : Int) < (m : Int) := by omega
              have hqe : q = m := by omega
              have HT9 := hide (HEND.out q T hqe HT.out HA.out)
              have HL9 := hide (HLEN.out q T hqe HTL.out)
              clear hqe
              go_wp2_with fail
              go_roundw
              case rel => exact ⟨i + 1, T, by omega, rfl, by go_num, HW, HT9.out.1, HL9, HT9.out.2⟩
              case measure => simp [intOf]; omega
        · have h0' : ¬ (0 : Int) < (i : Int) := by omega
          have hPe := hP0 h0
          obtain ⟨B0, hB0⟩ : ∃ B0 : List UInt8, B0 = P := ⟨_, rfl⟩
          have hBe : B0 = (if i = 0 then [] else P ++ [32, 124, 124, 32]) := by rw [if_pos h0, hB0, hPe]
          have hBl : B0.length ≤ P.length + 4 := by rw [hB0]; omega
          rw [← hB0]
          have hmz : ((m : Int) == 0) = false := by simp; omega
          obtain ⟨B, hB⟩ : ∃ B : List UInt8, B = B0 := ⟨_, rfl⟩
          have hBl2 : B.length ≤ P.length + 5 := by rw [hB]; omega
          have hBf : B = (if i = 0 then [] else P ++ [32, 124, 124, 32]) ++ (if cs.length = 0 then [42] else []) := by
            have h2 : (if cs.length = 0 then ([42] : List UInt8) else []) = [] := if_neg (by rw [HM.out]; exact hmm)
            rw [h2, List.append_nil, hB, hBe]
          obtain ⟨b0, hb0⟩ : ∃ b0, b0 = totS (l.take i) + 6 := ⟨_, rfl⟩
          have HBL : Hid (B.length ≤ b0) := by show _ ≤ _; have := HPL.out; omega
          have HBT : Hid (b0 + totC cs ≤ 1000000000) := by show _ ≤ _; have := HTS.out; have := HTSL.out; have := HJ.out; omega
          have HEND : Hid (∀ q T, q = m → T = B ++ Lib.join ((cs.take q).map compT) [32] → (cs.take q).all okT1 = true → (T = Lib.join ((l.take (i + 1)).map (fun cs => (setT cs).1)) [32, 124, 124, 32] ∧ (l.take (i + 1)).all (fun cs => (setT cs).2) = true)) := by
            intro q T hq h1 h2
            rw [List.take_of_length_le (by rw [HM.out, hq]; exact Nat.le_refl _)] at h1 h2
            exact HE.out B T hBf h1 h2
          have HLEN : Hid (∀ q (T : List UInt8), q = m → T.length ≤ b0 + totC (cs.take q) → T.length ≤ totS (l.take (i + 1))) := by
            intro q T hq h1
            have := totC_le cs q
            have := HTS.out
            omega
          have HMZ := hide hmm
          have HI0 := hide h0
          clear hb0 hP0 hmm hBf hBe hBl hBl2 h0 hPe
          rw [← hB]
          clear hB hB0
          go_wp2_with fail
          go_loopw [3, 5] (fun z j wr => ∃ (q : Nat) (T : List UInt8), q ≤ m ∧ z = .string (ofL T) ∧ j = .int .i64 q ∧ Hid (Below w.heap.size w wr) ∧ Hid (T = B ++ Lib.join ((cs.take q).map compT) [32]) ∧ Hid (T.length ≤ b0 + totC (cs.take q)) ∧ Hid ((cs.take q).all okT1 = true)) (fun _ j _ => m - (intOf j).toNat)
          case atStart => exact ⟨0, B, by omega, rfl, rfl, HW, by show B = B ++ Lib.join [] [32]; rw [Lib.join_nil, List.append_nil], by show B.length ≤ b0 + 0; exact HBL.out, rfl⟩
          case round =>
            clear HW hca
            obtain ⟨q, T, hqm, rfl, rfl, HW, HT, HTL, HA⟩ := hrel
            obtain ⟨hca, hcb⟩ := HCS.out _ HW.out
            by_cases hql : q < m
            · have hql' : (q : Int) < (m : Int) := by omega
              have q1 : q < cs.length := by rw [HM.out]; exact hql
              obtain ⟨a2', k2', hv2, h0 | ⟨bc, oc, rfl, hbc, hrow2⟩⟩ := hcb
              · exfalso
                rw [h0] at q1
                simp at q1
              cases hv2
              obtain ⟨vp, vb, d0, d1, d2, d3, d4, d5, t1, t2, _⟩ := hrow2 q q1
              have sc := HSC.out cs[q] (List.getElem_mem q1)
              have HBAD := hide (HBD.out q q1)
              have HJN := hide (join_takeC cs q q1)
              have HTC := hide (totC_take cs q q1)
              have HTE := hide (totC_le cs (q + 1))
              have hcl := comp_len cs[q]
              have HA8 := hide (all_takeE (f := okT1) cs q q1 HA.out)
              obtain ⟨a1, k1, rfl, _⟩ := id t1
              obtain ⟨a2, k2, rfl, _⟩ := id t2
              obtain ⟨m1, hm1⟩ : ∃ m1, cs[q].2.pre.length = m1 := ⟨_, rfl⟩
              obtain ⟨m2, hm2⟩ : ∃ m2, cs[q].2.bld.length = m2 := ⟨_, rfl⟩
              rw [hm1] at t1 d4
              rw [hm2] at t2 d5
              have HM2 := hide hm2
              clear hrow2 hm1 hm2
              generalize cs[q] = c at *
              clear q1
              obtain ⟨op, x⟩ := c
              dsimp only at *
              obtain ⟨hsg, hfm⟩ : (signL op).1.data.toList.length ≤ 2 ∧ (fmtL x).length ≤ lenS x := ⟨hcl.2.2, hcl.2.1⟩
              have hTb : T.length ≤ 1000000000 := by have := HTL.out; have := HTE.out; have := HTC.out; have := HBT.out; omega
              have bb := (Below.refl _ wr).alloc (Nat.le_refl _) (.cells #[.int .i64 op, .string (ofL x.maj), .string (ofL x.min), .string (ofL x.pat), .slice a1 m1 k1, .slice a2 m2 k2] 35)
              have C0 : Hid (Cb wr.heap.size op x a1 a2 m1 m2 k1 k2 (wr.alloc (.cells #[.int .i64 op, .string (ofL x.maj), .string (ofL x.min), .string (ofL x.pat), .slice a1 m1 k1, .slice a2 m2 k2] 35))) := ⟨World.alloc_heap_new wr _, t1.below bb, t2.below bb⟩
              have HW2 := hide (HW.out.trans (bb.mono HW.out.size))
              have RFT := hide (fun W (c : Cb wr.heap.size op x a1 a2 m1 m2 k1 k2 W) => rFit_any _ x W c.sem sc)
              have RFM := hide (fun W (c : Cb wr.heap.size op x a1 a2 m1 m2 k1 k2 W) => rFormat_any _ x W c.sem sc)
              clear t1 t2 bb hcl
              obtain ⟨g0, g1, g2, g3, g4, g5⟩ := C0.out.seen
              by_cases ho1 : op < 1
              · have HB9 := hide (HBAD.out (okT_no (.inl ho1)))
                go_wp2_with fail
                go_ret
                exact ⟨by rw [HB9.out]; rfl, HW2.out⟩
              by_cases ho5 : 5 < op
              · have HB9 := hide (HBAD.out (okT_no (.inr (.inl ho5))))
                go_wp2_with fail
                go_ret
                exact ⟨by rw [HB9.out]; rfl, HW2.out⟩
              have RO := hide (fun W => rop_any op (by omega) (by omega) W)
              have HOK := hide (fun h1 h2 => okT_of (op := op) (x := x) (by omega) (by omega) h1 h2)
              generalize hfx : fitW x = fx at *
              have HFX := hide hfx
              clear hfx
              go_wp2_with fail
              generalize wr.alloc (.cells #[.int .i64 op, .string (ofL x.maj), .string (ofL x.min), .string (ofL x.pat), .slice a1 m1 k1, .slice a2 m2 k2] 35) = W2 at *
              generalize wr.heap.size = K at *
              refine (RFT.out _ C0.out).mono ?_
              rintro e9 W3 ⟨rfl, b3⟩
              have HW3 := hide (HW2.out.trans (b3.mono HW2.out.size))
              have C3 := hide (C0.out.next b3)
              clear b3 C0 HW2 g0 g1 g2 g3 g4 g5 RFT
              obtain ⟨g0, g1, g2, g3, g4, g5⟩ := C3.out.seen
              cases fx with
              | false =>
                have HB9 := hide (HBAD.out (okT_no (.inr (.inr (.inl HFX.out)))))
                go_wp2_with fail
                go_ret
                exact ⟨by rw [HB9.out]; rfl, HW3.out⟩
              | true =>
                by_cases hmz : m2 = 0
                · have hA9 := HA8.out
                  rw [HOK.out rfl (by rw [HM2.out]; exact hmz)] at hA9
                  have HA9 := hide hA9
                  have hm2' : ¬ (0 : Int) < (m2 : Int) := by omega
                  have hm2n : ¬ 0 < m2 := by omega
                  have BD := hide (drew_below W3.heap.size W3)
                  obtain ⟨SG, hSG⟩ : ∃ SG, SG = (signL op).1.data.toList := ⟨_, rfl⟩
                  obtain ⟨FM, hFM⟩ : ∃ FM, FM = textL x := ⟨_, rfl⟩
                  have hFX : fmtL x = FM := by unfold fmtL; rw [HFX.out, hFM]; rfl
                  have RF : Hid (∀ W, Below W3.heap.size W3 W → Calls Tryz.prog 24 #[.agg #[.string (ofL x.maj), .string (ofL x.min), .string (ofL x.pat), .slice a1 m1 k1, .slice a2 m2 k2]] W fun e w' => e = .returned (.string (ofL FM)) ∧ Below W.heap.size W w') := fun W hW => by rw [hFM]; exact RFM.out W (C3.out.next hW)
                  rw [← hSG] at RO hsg
                  rw [hFX] at hfm
                  have HJM : Hid (compT (op, x) = SG ++ FM) := by show _ = _; rw [hSG, ← hFX]; rfl
                  rw [HJM.out] at HJN
                  clear hA9 hmz hSG hFM hFX HA8 HBAD RFM
                  by_cases hq0 : q = 0
                  · have hq' : ¬ (0 : Int) < (q : Int) := by omega
                    obtain ⟨Y, hY⟩ : ∃ Y, Y = T := ⟨_, rfl⟩
                    have hYl : Y.length = T.length := by rw [hY]
                    obtain ⟨U, hU⟩ : ∃ U, U = Y ++ SG := ⟨_, rfl⟩
                    obtain ⟨Z, hZ⟩ : ∃ Z, Z = U ++ FM := ⟨_, rfl⟩
                    have hc1 : ofL Y ++ ofL SG = ofL U := by rw [hU]; exact cat_ofL _ _
                    have hc2 : ofL U ++ ofL FM = ofL Z := by rw [hZ]; exact cat_ofL _ _
                    have hUl : U.length = Y.length + SG.length := by rw [hU]; simp
                    have hZl : Z.length = U.length + FM.length := by rw [hZ]; simp
                    have sz0 := ofL_size T
                    have sz1 := ofL_size Y
                    have sz2 := ofL_size U
                    have sz3 := ofL_size SG
                    have sz4 := ofL_size FM
                    have zb1 : Y.length ≤ 1000000001 := by omega
                    have zb2 : U.length ≤ 1000000003 := by omega
                    have zb3 : FM.length ≤ 1048576 := by omega
                    have ad1 := add_run (ofL Y) (ofL SG) (ofL U) hc1 (by omega)
                    have ad2 := add_run (ofL U) (ofL FM) (ofL Z) hc2 (by omega)
                    have HT9 : Hid (Z = B ++ Lib.join ((cs.take (q + 1)).map compT) [32]) := by
                      show _ = _
                      rw [HJN.out, hZ, hU, hY, if_pos (by omega), HT.out, show q = 0 by omega]
                      simp [Lib.join_nil]
                    have HL9 : Hid (Z.length ≤ b0 + totC (cs.take (q + 1))) := by
                      have := HTL.out
                      have := HTC.out
                      show _ ≤ _
                      omega
                    clear hZ hU hYl hUl hZl
                    rw [hY] at hc1 sz1 zb1 ad1
                    clear hY
                    have HQH := hide hq0
                    clear hq0
                    go_wp2_with fail
                    go_region_held3 (fun W' => W'.cell? ⟨K, 0, none⟩ = some (.int .i64 op) ∧ W'.cell? ⟨K, 1, none⟩ = some (.string (ofL x.maj)) ∧ W'.cell? ⟨K, 2, none⟩ = some (.string (ofL x.min)) ∧ W'.cell? ⟨K, 3, none⟩ = some (.string (ofL x.pat)) ∧ W'.cell? ⟨K, 4, none⟩ = some (.slice a1 m1 k1) ∧ W'.cell? ⟨K, 5, none⟩ = some (.slice a2 m2 k2)) (go_keep) ((first
                      | (go_at_call 34; refine (RO.out _).mono ?_; rintro e5 w5 ⟨rfl, b5⟩; (first | have P5 := hide (BD.out.trans (b5.mono BD.out.size)) | have P5 := hide (P6.out.trans (b5.mono P6.out.size))); obtain ⟨y0, y1, y2, y3, y4, y5⟩ := (C3.out.next P5.out).seen; clear b5)
                      | (go_at_call 24; (first | refine (RF.out _ BD.out).mono ?_ | refine (RF.out _ P5.out).mono ?_); rintro e6 w6 ⟨rfl, b6⟩; (first | have P6 := hide (BD.out.trans (b6.mono BD.out.size)) | have P6 := hide (P5.out.trans (b6.mono P5.out.size))); obtain ⟨v0, v1, v2, v3, v4, v5⟩ := (C3.out.next P6.out).seen; clear b6)
                      | fail))
                    all_goals
                      go_wp2_with fail
                      go_roundw
                      case rel => exact ⟨q + 1, _, by omega, rfl, by go_num, (by first | exact HW3.out.trans (P6.out.mono HW3.out.size) | exact HW3.out.trans (P5.out.mono HW3.out.size)), HT9, HL9, HA9⟩
                      case measure => simp [intOf]; omega
                  · have hq' : (0 : Int) < (q : Int) := by omega
                    obtain ⟨Y, hY⟩ : ∃ Y, Y = T ++ [32] := ⟨_, rfl⟩
                    have hc0 : ofL T ++ ⟨#[32]⟩ = ofL Y := by rw [hY, ← cat_ofL]; rfl
                    have hYl : Y.length = T.length + 1 := by rw [hY]; simp
                    obtain ⟨U, hU⟩ : ∃ U, U = Y ++ SG := ⟨_, rfl⟩
                    obtain ⟨Z, hZ⟩ : ∃ Z, Z = U ++ FM := ⟨_, rfl⟩
                    have hc1 : ofL Y ++ ofL SG = ofL U := by rw [hU]; exact cat_ofL _ _
                    have hc2 : ofL U ++ ofL FM = ofL Z := by rw [hZ]; exact cat_ofL _ _
                    have hUl : U.length = Y.length + SG.length := by rw [hU]; simp
                    have hZl : Z.length = U.length + FM.length := by rw [hZ]; simp
                    have sz0 := ofL_size T
                    have sz1 := ofL_size Y
                    have sz2 := ofL_size U
                    have sz3 := ofL_size SG
                    have sz4 := ofL_size FM
                    have zb1 : Y.length ≤ 1000000001 := by omega
                    have zb2 : U.length ≤ 1000000003 := by omega
                    have zb3 : FM.length ≤ 1048576 := by omega
                    have ad1 := add_run (ofL Y) (ofL SG) (ofL U) hc1 (by omega)
                    have ad2 := add_run (ofL U) (ofL FM) (ofL Z) hc2 (by omega)
                    have HT9 : Hid (Z = B ++ Lib.join ((cs.take (q + 1)).map compT) [32]) := by
                      show _ = _
                      rw [HJN.out, hZ, hU, hY, if_neg (by omega), HT.out]
                      simp
                    have HL9 : Hid (Z.length ≤ b0 + totC (cs.take (q + 1))) := by
                      have := HTL.out
                      have := HTC.out
                      show _ ≤ _
                      omega
                    clear hZ hU hYl hUl hZl
                    clear hY
                    have HQH := hide hq0
                    clear hq0
                    go_wp2_with fail
                    go_region_held3 (fun W' => W'.cell? ⟨K, 0, none⟩ = some (.int .i64 op) ∧ W'.cell? ⟨K, 1, none⟩ = some (.string (ofL x.maj)) ∧ W'.cell? ⟨K, 2, none⟩ = some (.string (ofL x.min)) ∧ W'.cell? ⟨K, 3, none⟩ = some (.string (ofL x.pat)) ∧ W'.cell? ⟨K, 4, none⟩ = some (.slice a1 m1 k1) ∧ W'.cell? ⟨K, 5, none⟩ = some (.slice a2 m2 k2)) (go_keep) ((first
                      | (go_at_call 34; refine (RO.out _).mono ?_; rintro e5 w5 ⟨rfl, b5⟩; (first | have P5 := hide (BD.out.trans (b5.mono BD.out.size)) | have P5 := hide (P6.out.trans (b5.mono P6.out.size))); obtain ⟨y0, y1, y2, y3, y4, y5⟩ := (C3.out.next P5.out).seen; clear b5)
                      | (go_at_call 24; (first | refine (RF.out _ BD.out).mono ?_ | refine (RF.out _ P5.out).mono ?_); rintro e6 w6 ⟨rfl, b6⟩; (first | have P6 := hide (BD.out.trans (b6.mono BD.out.size)) | have P6 := hide (P5.out.trans (b6.mono P5.out.size))); obtain ⟨v0, v1, v2, v3, v4, v5⟩ := (C3.out.next P6.out).seen; clear b6)
                      | fail))
                    all_goals
                      go_wp2_with fail
                      go_roundw
                      case rel => exact ⟨q + 1, _, by omega, rfl, by go_num, (by first | exact HW3.out.trans (P6.out.mono HW3.out.size) | exact HW3.out.trans (P5.out.mono HW3.out.size)), HT9, HL9, HA9⟩
                      case measure => simp [intOf]; omega
                · have hm2' : (0 : Int) < (m2 : Int) := by omega
                  have hm2n : 0 < m2 := by omega
                  have HB9 := hide (HBAD.out (okT_no (.inr (.inr (.inr (by rw [HM2.out]; exact hmz))))))
                  clear hmz
                  go_wp2_with fail
                  go_ret
                  exact ⟨by rw [HB9.out]; rfl, HW3.out⟩
            · have hql' : ¬ (q : Int) < (m : Int) := by omega
              have hqe : q = m := by omega
              have HT9 := hide (HEND.out q T hqe HT.out HA.out)
              have HL9 := hide (HLEN.out q T hqe HTL.out)
              clear hqe
              go_wp2_with fail
              go_roundw
              case rel => exact ⟨i + 1, T, by omega, rfl, by go_num, HW, HT9.out.1, HL9, HT9.out.2⟩
              case measure => simp [intOf]; omega
      · by_cases hmm : m = 0
        · have h0' : (0 : Int) < (i : Int) := by omega
          obtain ⟨B0, hB0⟩ : ∃ B0 : List UInt8, B0 = P ++ [32, 124, 124, 32] := ⟨_, rfl⟩
          have hcP : ofL P ++ ⟨#[32, 124, 124, 32]⟩ = ofL B0 := by rw [hB0, ← cat_ofL]; rfl
          have hBe : B0 = (if i = 0 then [] else P ++ [32, 124, 124, 32]) := by rw [if_neg h0, hB0]
          have hBl : B0.length ≤ P.length + 4 := by rw [hB0]; simp
          have szB0 := ofL_size B0
          have hmz : ((m : Int) == 0) = true := by simp [hmm]
          obtain ⟨B, hB⟩ : ∃ B : List UInt8, B = B0 ++ [42] := ⟨_, rfl⟩
          have hcS : ofL B0 ++ ⟨#[42]⟩ = ofL B := by rw [hB, ← cat_ofL]; rfl
          have adS := add_run (ofL B0) ⟨#[42]⟩ (ofL B) hcS (by rw [ofL_size]; show _ + 1 ≤ _; omega)
          have szB0 := ofL_size B0
          have hBl2 : B.length ≤ P.length + 5 := by rw [hB]; simp; omega
          have hBf : B = (if i = 0 then [] else P ++ [32, 124, 124, 32]) ++ (if cs.length = 0 then [42] else []) := by
            have h2 : (if cs.length = 0 then ([42] : List UInt8) else []) = [42] := if_pos (HM.out.trans hmm)
            rw [h2, hB, hBe]
          obtain ⟨b0, hb0⟩ : ∃ b0, b0 = totS (l.take i) + 6 := ⟨_, rfl⟩
          have HBL : Hid (B.length ≤ b0) := by show _ ≤ _; have := HPL.out; omega
          have HBT : Hid (b0 + totC cs ≤ 1000000000) := by show _ ≤ _; have := HTS.out; have := HTSL.out; have := HJ.out; omega
          have HEND : Hid (∀ q T, q = m → T = B ++ Lib.join ((cs.take q).map compT) [32] → (cs.take q).all okT1 = true → (T = Lib.join ((l.take (i + 1)).map (fun cs => (setT cs).1)) [32, 124, 124, 32] ∧ (l.take (i + 1)).all (fun cs => (setT cs).2) = true)) := by
            intro q T hq h1 h2
            rw [List.take_of_length_le (by rw [HM.out, hq]; exact Nat.le_refl _)] at h1 h2
            exact HE.out B T hBf h1 h2
          have HLEN : Hid (∀ q (T : List UInt8), q = m → T.length ≤ b0 + totC (cs.take q) → T.length ≤ totS (l.take (i + 1))) := by
            intro q T hq h1
            have := totC_le cs q
            have := HTS.out
            omega
          have HMZ := hide hmm
          have HI0 := hide h0
          clear hb0 hP0 hmm hBf hBe hBl hBl2 h0
          clear hB hB0
          go_wp2_with fail
          go_loopw [3, 5] (fun z j wr => ∃ (q : Nat) (T : List UInt8), q ≤ m ∧ z = .string (ofL T) ∧ j = .int .i64 q ∧ Hid (Below w.heap.size w wr) ∧ Hid (T = B ++ Lib.join ((cs.take q).map compT) [32]) ∧ Hid (T.length ≤ b0 + totC (cs.take q)) ∧ Hid ((cs.take q).all okT1 = true)) (fun _ j _ => m - (intOf j).toNat)
          case atStart => exact ⟨0, B, by omega, rfl, rfl, HW, by show B = B ++ Lib.join [] [32]; rw [Lib.join_nil, List.append_nil], by show B.length ≤ b0 + 0; exact HBL.out, rfl⟩
          case round =>
            clear HW hca
            obtain ⟨q, T, hqm, rfl, rfl, HW, HT, HTL, HA⟩ := hrel
            obtain ⟨hca, hcb⟩ := HCS.out _ HW.out
            by_cases hql : q < m
            · exfalso
              have := HMZ.out
              omega
            · have hql' : ¬ (q : Int) < (m : Int) := by omega
              have hqe : q = m := by omega
              have HT9 := hide (HEND.out q T hqe HT.out HA.out)
              have HL9 := hide (HLEN.out q T hqe HTL.out)
              clear hqe
              go_wp2_with fail
              go_roundw
              case rel => exact ⟨i + 1, T, by omega, rfl, by go_num, HW, HT9.out.1, HL9, HT9.out.2⟩
              case measure => simp [intOf]; omega
        · have h0' : (0 : Int) < (i : Int) := by omega
          obtain ⟨B0, hB0⟩ : ∃ B0 : List UInt8, B0 = P ++ [32, 124, 124, 32] := ⟨_, rfl⟩
          have hcP : ofL P ++ ⟨#[32, 124, 124, 32]⟩ = ofL B0 := by rw [hB0, ← cat_ofL]; rfl
          have hBe : B0 = (if i = 0 then [] else P ++ [32, 124, 124, 32]) := by rw [if_neg h0, hB0]
          have hBl : B0.length ≤ P.length + 4 := by rw [hB0]; simp
          have szB0 := ofL_size B0
          have hmz : ((m : Int) == 0) = false := by simp; omega
          obtain ⟨B, hB⟩ : ∃ B : List UInt8, B = B0 := ⟨_, rfl⟩
          have hBl2 : B.length ≤ P.length + 5 := by rw [hB]; omega
          have hBf : B = (if i = 0 then [] else P ++ [32, 124, 124, 32]) ++ (if cs.length = 0 then [42] else []) := by
            have h2 : (if cs.length = 0 then ([42] : List UInt8) else []) = [] := if_neg (by rw [HM.out]; exact hmm)
            rw [h2, List.append_nil, hB, hBe]
          obtain ⟨b0, hb0⟩ : ∃ b0, b0 = totS (l.take i) + 6 := ⟨_, rfl⟩
          have HBL : Hid (B.length ≤ b0) := by show _ ≤ _; have := HPL.out; omega
          have HBT : Hid (b0 + totC cs ≤ 1000000000) := by show _ ≤ _; have := HTS.out; have := HTSL.out; have := HJ.out; omega
          have HEND : Hid (∀ q T, q = m → T = B ++ Lib.join ((cs.take q).map compT) [32] → (cs.take q).all okT1 = true → (T = Lib.join ((l.take (i + 1)).map (fun cs => (setT cs).1)) [32, 124, 124, 32] ∧ (l.take (i + 1)).all (fun cs => (setT cs).2) = true)) := by
            intro q T hq h1 h2
            rw [List.take_of_length_le (by rw [HM.out, hq]; exact Nat.le_refl _)] at h1 h2
            exact HE.out B T hBf h1 h2
          have HLEN : Hid (∀ q (T : List UInt8), q = m → T.length ≤ b0 + totC (cs.take q) → T.length ≤ totS (l.take (i + 1))) := by
            intro q T hq h1
            have := totC_le cs q
            have := HTS.out
            omega
          have HMZ := hide hmm
          have HI0 := hide h0
          clear hb0 hP0 hmm hBf hBe hBl hBl2 h0
          rw [← hB] at hcP szB0
          clear hB hB0
          go_wp2_with fail
          go_loopw [3, 5] (fun z j wr => ∃ (q : Nat) (T : List UInt8), q ≤ m ∧ z = .string (ofL T) ∧ j = .int .i64 q ∧ Hid (Below w.heap.size w wr) ∧ Hid (T = B ++ Lib.join ((cs.take q).map compT) [32]) ∧ Hid (T.length ≤ b0 + totC (cs.take q)) ∧ Hid ((cs.take q).all okT1 = true)) (fun _ j _ => m - (intOf j).toNat)
          case atStart => exact ⟨0, B, by omega, rfl, rfl, HW, by show B = B ++ Lib.join [] [32]; rw [Lib.join_nil, List.append_nil], by show B.length ≤ b0 + 0; exact HBL.out, rfl⟩
          case round =>
            clear HW hca
            obtain ⟨q, T, hqm, rfl, rfl, HW, HT, HTL, HA⟩ := hrel
            obtain ⟨hca, hcb⟩ := HCS.out _ HW.out
            by_cases hql : q < m
            · have hql' : (q : Int) < (m : Int) := by omega
              have q1 : q < cs.length := by rw [HM.out]; exact hql
              obtain ⟨a2', k2', hv2, h0 | ⟨bc, oc, rfl, hbc, hrow2⟩⟩ := hcb
              · exfalso
                rw [h0] at q1
                simp at q1
              cases hv2
              obtain ⟨vp, vb, d0, d1, d2, d3, d4, d5, t1, t2, _⟩ := hrow2 q q1
              have sc := HSC.out cs[q] (List.getElem_mem q1)
              have HBAD := hide (HBD.out q q1)
              have HJN := hide (join_takeC cs q q1)
              have HTC := hide (totC_take cs q q1)
              have HTE := hide (totC_le cs (q + 1))
              have hcl := comp_len cs[q]
              have HA8 := hide (all_takeE (f := okT1) cs q q1 HA.out)
              obtain ⟨a1, k1, rfl, _⟩ := id t1
              obtain ⟨a2, k2, rfl, _⟩ := id t2
              obtain ⟨m1, hm1⟩ : ∃ m1, cs[q].2.pre.length = m1 := ⟨_, rfl⟩
              obtain ⟨m2, hm2⟩ : ∃ m2, cs[q].2.bld.length = m2 := ⟨_, rfl⟩
              rw [hm1] at t1 d4
              rw [hm2] at t2 d5
              have HM2 := hide hm2
              clear hrow2 hm1 hm2
              generalize cs[q] = c at *
              clear q1
              obtain ⟨op, x⟩ := c
              dsimp only at *
              obtain ⟨hsg, hfm⟩ : (signL op).1.data.toList.length ≤ 2 ∧ (fmtL x).length ≤ lenS x := ⟨hcl.2.2, hcl.2.1⟩
              have hTb : T.length ≤ 1000000000 := by have := HTL.out; have := HTE.out; have := HTC.out; have := HBT.out; omega
              have bb := (Below.refl _ wr).alloc (Nat.le_refl _) (.cells #[.int .i64 op, .string (ofL x.maj), .string (ofL x.min), .string (ofL x.pat), .slice a1 m1 k1, .slice a2 m2 k2] 35)
              have C0 : Hid (Cb wr.heap.size op x a1 a2 m1 m2 k1 k2 (wr.alloc (.cells #[.int .i64 op, .string (ofL x.maj), .string (ofL x.min), .string (ofL x.pat), .slice a1 m1 k1, .slice a2 m2 k2] 35))) := ⟨World.alloc_heap_new wr _, t1.below bb, t2.below bb⟩
              have HW2 := hide (HW.out.trans (bb.mono HW.out.size))
              have RFT := hide (fun W (c : Cb wr.heap.size op x a1 a2 m1 m2 k1 k2 W) => rFit_any _ x W c.sem sc)
              have RFM := hide (fun W (c : Cb wr.heap.size op x a1 a2 m1 m2 k1 k2 W) => rFormat_any _ x W c.sem sc)
              clear t1 t2 bb hcl
              obtain ⟨g0, g1, g2, g3, g4, g5⟩ := C0.out.seen
              by_cases ho1 : op < 1
              · have HB9 := hide (HBAD.out (okT_no (.inl ho1)))
                go_wp2_with fail
                go_ret
                exact ⟨by rw [HB9.out]; rfl, HW2.out⟩
              by_cases ho5 : 5 < op
              · have HB9 := hide (HBAD.out (okT_no (.inr (.inl ho5))))
                go_wp2_with fail
                go_ret
                exact ⟨by rw [HB9.out]; rfl, HW2.out⟩
              have RO := hide (fun W => rop_any op (by omega) (by omega) W)
              have HOK := hide (fun h1 h2 => okT_of (op := op) (x := x) (by omega) (by omega) h1 h2)
              generalize hfx : fitW x = fx at *
              have HFX := hide hfx
              clear hfx
              go_wp2_with fail
              generalize wr.alloc (.cells #[.int .i64 op, .string (ofL x.maj), .string (ofL x.min), .string (ofL x.pat), .slice a1 m1 k1, .slice a2 m2 k2] 35) = W2 at *
              generalize wr.heap.size = K at *
              refine (RFT.out _ C0.out).mono ?_
              rintro e9 W3 ⟨rfl, b3⟩
              have HW3 := hide (HW2.out.trans (b3.mono HW2.out.size))
              have C3 := hide (C0.out.next b3)
              clear b3 C0 HW2 g0 g1 g2 g3 g4 g5 RFT
              obtain ⟨g0, g1, g2, g3, g4, g5⟩ := C3.out.seen
              cases fx with
              | false =>
                have HB9 := hide (HBAD.out (okT_no (.inr (.inr (.inl HFX.out)))))
                go_wp2_with fail
                go_ret
                exact ⟨by rw [HB9.out]; rfl, HW3.out⟩
              | true =>
                by_cases hmz : m2 = 0
                · have hA9 := HA8.out
                  rw [HOK.out rfl (by rw [HM2.out]; exact hmz)] at hA9
                  have HA9 := hide hA9
                  have hm2' : ¬ (0 : Int) < (m2 : Int) := by omega
                  have hm2n : ¬ 0 < m2 := by omega
                  have BD := hide (drew_below W3.heap.size W3)
                  obtain ⟨SG, hSG⟩ : ∃ SG, SG = (signL op).1.data.toList := ⟨_, rfl⟩
                  obtain ⟨FM, hFM⟩ : ∃ FM, FM = textL x := ⟨_, rfl⟩
                  have hFX : fmtL x = FM := by unfold fmtL; rw [HFX.out, hFM]; rfl
                  have RF : Hid (∀ W, Below W3.heap.size W3 W → Calls Tryz.prog 24 #[.agg #[.string (ofL x.maj), .string (ofL x.min), .string (ofL x.pat), .slice a1 m1 k1, .slice a2 m2 k2]] W fun e w' => e = .returned (.string (ofL FM)) ∧ Below W.heap.size W w') := fun W hW => by rw [hFM]; exact RFM.out W (C3.out.next hW)
                  rw [← hSG] at RO hsg
                  rw [hFX] at hfm
                  have HJM : Hid (compT (op, x) = SG ++ FM) := by show _ = _; rw [hSG, ← hFX]; rfl
                  rw [HJM.out] at HJN
                  clear hA9 hmz hSG hFM hFX HA8 HBAD RFM
                  by_cases hq0 : q = 0
                  · have hq' : ¬ (0 : Int) < (q : Int) := by omega
                    obtain ⟨Y, hY⟩ : ∃ Y, Y = T := ⟨_, rfl⟩
                    have hYl : Y.length = T.length := by rw [hY]
                    obtain ⟨U, hU⟩ : ∃ U, U = Y ++ SG := ⟨_, rfl⟩
                    obtain ⟨Z, hZ⟩ : ∃ Z, Z = U ++ FM := ⟨_, rfl⟩
                    have hc1 : ofL Y ++ ofL SG = ofL U := by rw [hU]; exact cat_ofL _ _
                    have hc2 : ofL U ++ ofL FM = ofL Z := by rw [hZ]; exact cat_ofL _ _
                    have hUl : U.length = Y.length + SG.length := by rw [hU]; simp
                    have hZl : Z.length = U.length + FM.length := by rw [hZ]; simp
                    have sz0 := ofL_size T
                    have sz1 := ofL_size Y
                    have sz2 := ofL_size U
                    have sz3 := ofL_size SG
                    have sz4 := ofL_size FM
                    have zb1 : Y.length ≤ 1000000001 := by omega
                    have zb2 : U.length ≤ 1000000003 := by omega
                    have zb3 : FM.length ≤ 1048576 := by omega
                    have ad1 := add_run (ofL Y) (ofL SG) (ofL U) hc1 (by omega)
                    have ad2 := add_run (ofL U) (ofL FM) (ofL Z) hc2 (by omega)
                    have HT9 : Hid (Z = B ++ Lib.join ((cs.take (q + 1)).map compT) [32]) := by
                      show _ = _
                      rw [HJN.out, hZ, hU, hY, if_pos (by omega), HT.out, show q = 0 by omega]
                      simp [Lib.join_nil]
                    have HL9 : Hid (Z.length ≤ b0 + totC (cs.take (q + 1))) := by
                      have := HTL.out
                      have := HTC.out
                      show _ ≤ _
                      omega
                    clear hZ hU hYl hUl hZl
                    rw [hY] at hc1 sz1 zb1 ad1
                    clear hY
                    have HQH := hide hq0
                    clear hq0
                    go_wp2_with fail
                    go_region_held3 (fun W' => W'.cell? ⟨K, 0, none⟩ = some (.int .i64 op) ∧ W'.cell? ⟨K, 1, none⟩ = some (.string (ofL x.maj)) ∧ W'.cell? ⟨K, 2, none⟩ = some (.string (ofL x.min)) ∧ W'.cell? ⟨K, 3, none⟩ = some (.string (ofL x.pat)) ∧ W'.cell? ⟨K, 4, none⟩ = some (.slice a1 m1 k1) ∧ W'.cell? ⟨K, 5, none⟩ = some (.slice a2 m2 k2)) (go_keep) ((first
                      | (go_at_call 34; refine (RO.out _).mono ?_; rintro e5 w5 ⟨rfl, b5⟩; (first | have P5 := hide (BD.out.trans (b5.mono BD.out.size)) | have P5 := hide (P6.out.trans (b5.mono P6.out.size))); obtain ⟨y0, y1, y2, y3, y4, y5⟩ := (C3.out.next P5.out).seen; clear b5)
                      | (go_at_call 24; (first | refine (RF.out _ BD.out).mono ?_ | refine (RF.out _ P5.out).mono ?_); rintro e6 w6 ⟨rfl, b6⟩; (first | have P6 := hide (BD.out.trans (b6.mono BD.out.size)) | have P6 := hide (P5.out.trans (b6.mono P5.out.size))); obtain ⟨v0, v1, v2, v3, v4, v5⟩ := (C3.out.next P6.out).seen; clear b6)
                      | fail))
                    all_goals
                      go_wp2_with fail
                      go_roundw
                      case rel => exact ⟨q + 1, _, by omega, rfl, by go_num, (by first | exact HW3.out.trans (P6.out.mono HW3.out.size) | exact HW3.out.trans (P5.out.mono HW3.out.size)), HT9, HL9, HA9⟩
                      case measure => simp [intOf]; omega
                  · have hq' : (0 : Int) < (q : Int) := by omega
                    obtain ⟨Y, hY⟩ : ∃ Y, Y = T ++ [32] := ⟨_, rfl⟩
                    have hc0 : ofL T ++ ⟨#[32]⟩ = ofL Y := by rw [hY, ← cat_ofL]; rfl
                    have hYl : Y.length = T.length + 1 := by rw [hY]; simp
                    obtain ⟨U, hU⟩ : ∃ U, U = Y ++ SG := ⟨_, rfl⟩
                    obtain ⟨Z, hZ⟩ : ∃ Z, Z = U ++ FM := ⟨_, rfl⟩
                    have hc1 : ofL Y ++ ofL SG = ofL U := by rw [hU]; exact cat_ofL _ _
                    have hc2 : ofL U ++ ofL FM = ofL Z := by rw [hZ]; exact cat_ofL _ _
                    have hUl : U.length = Y.length + SG.length := by rw [hU]; simp
                    have hZl : Z.length = U.length + FM.length := by rw [hZ]; simp
                    have sz0 := ofL_size T
                    have sz1 := ofL_size Y
                    have sz2 := ofL_size U
                    have sz3 := ofL_size SG
                    have sz4 := ofL_size FM
                    have zb1 : Y.length ≤ 1000000001 := by omega
                    have zb2 : U.length ≤ 1000000003 := by omega
                    have zb3 : FM.length ≤ 1048576 := by omega
                    have ad1 := add_run (ofL Y) (ofL SG) (ofL U) hc1 (by omega)
                    have ad2 := add_run (ofL U) (ofL FM) (ofL Z) hc2 (by omega)
                    have HT9 : Hid (Z = B ++ Lib.join ((cs.take (q + 1)).map compT) [32]) := by
                      show _ = _
                      rw [HJN.out, hZ, hU, hY, if_neg (by omega), HT.out]
                      simp
                    have HL9 : Hid (Z.length ≤ b0 + totC (cs.take (q + 1))) := by
                      have := HTL.out
                      have := HTC.out
                      show _ ≤ _
                      omega
                    clear hZ hU hYl hUl hZl
                    clear hY
                    have HQH := hide hq0
                    clear hq0
                    go_wp2_with fail
                    go_region_held3 (fun W' => W'.cell? ⟨K, 0, none⟩ = some (.int .i64 op) ∧ W'.cell? ⟨K, 1, none⟩ = some (.string (ofL x.maj)) ∧ W'.cell? ⟨K, 2, none⟩ = some (.string (ofL x.min)) ∧ W'.cell? ⟨K, 3, none⟩ = some (.string (ofL x.pat)) ∧ W'.cell? ⟨K, 4, none⟩ = some (.slice a1 m1 k1) ∧ W'.cell? ⟨K, 5, none⟩ = some (.slice a2 m2 k2)) (go_keep) ((first
                      | (go_at_call 34; refine (RO.out _).mono ?_; rintro e5 w5 ⟨rfl, b5⟩; (first | have P5 := hide (BD.out.trans (b5.mono BD.out.size)) | have P5 := hide (P6.out.trans (b5.mono P6.out.size))); obtain ⟨y0, y1, y2, y3, y4, y5⟩ := (C3.out.next P5.out).seen; clear b5)
                      | (go_at_call 24; (first | refine (RF.out _ BD.out).mono ?_ | refine (RF.out _ P5.out).mono ?_); rintro e6 w6 ⟨rfl, b6⟩; (first | have P6 := hide (BD.out.trans (b6.mono BD.out.size)) | have P6 := hide (P5.out.trans (b6.mono P5.out.size))); obtain ⟨v0, v1, v2, v3, v4, v5⟩ := (C3.out.next P6.out).seen; clear b6)
                      | fail))
                    all_goals
                      go_wp2_with fail
                      go_roundw
                      case rel => exact ⟨q + 1, _, by omega, rfl, by go_num, (by first | exact HW3.out.trans (P6.out.mono HW3.out.size) | exact HW3.out.trans (P5.out.mono HW3.out.size)), HT9, HL9, HA9⟩
                      case measure => simp [intOf]; omega
                · have hm2' : (0 : Int) < (m2 : Int) := by omega
                  have hm2n : 0 < m2 := by omega
                  have HB9 := hide (HBAD.out (okT_no (.inr (.inr (.inr (by rw [HM2.out]; exact hmz))))))
                  clear hmz
                  go_wp2_with fail
                  go_ret
                  exact ⟨by rw [HB9.out]; rfl, HW3.out⟩
            · have hql' : ¬ (q : Int) < (m : Int) := by omega
              have hqe : q = m := by omega
              have HT9 := hide (HEND.out q T hqe HT.out HA.out)
              have HL9 := hide (HLEN.out q T hqe HTL.out)
              clear hqe
              go_wp2_with fail
              go_roundw
              case rel => exact ⟨i + 1, T, by omega, rfl, by go_num, HW, HT9.out.1, HL9, HT9.out.2⟩
              case measure => simp [intOf]; omega
    · have hlt' : ¬ (i : Int) < (n : Int) := by omega
      have hX : P = fmtSets l := by
        have h1 := HA0.out
        have h2 := HP.out
        rw [List.take_of_length_le (by rw [HN.out]; omega)] at h1 h2
        unfold fmtSets
        rw [if_pos h1, h2]
      have HX2 := hide hX
      clear hX
      go_wp2_with fail
      go_ret
      exact ⟨by rw [HX2.out]; rfl, HW.out⟩

end Go.Proofs.YtplbdciikkpjoaaGreat
