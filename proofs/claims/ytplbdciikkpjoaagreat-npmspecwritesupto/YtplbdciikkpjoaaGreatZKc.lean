/-
  Walks: the document's word on a version and a comparator. · Walks: the document's word on a version and a set. · Walks: the document's text of a range.
-/
import Derived.Test.YtplbdciikkpjoaaGreatZEzo
import Derived.Test.YtplbdciikkpjoaaGreatZUa
import Derived.Deep.RegionHeld3
namespace Go.Proofs.YtplbdciikkpjoaaGreat
open Go.RowKit Go.Shelf
set_option linter.unusedVariables false

set_option maxRecDepth 100000 in
set_option maxHeartbeats 4000000 in
theorem RHolds_any (op : Int) (x y : SemL) (vp vb : Value) (u : Value) (w : World) (t1 : Txt w vp x.pre) (t2 : Txt w vb x.bld) (hu : SemAt w u y) (sx : lenS x ≤ 1048576) (sy : lenS y ≤ 1048576) :
    Calls Tryz.prog 16 #[.agg #[.int .i64 op, .string (ofL x.maj), .string (ofL x.min), .string (ofL x.pat), vp, vb], u] w fun e w' => e = .returned (.bool (holdsL (op, x) y)) ∧ Below w.heap.size w w' := by
  obtain ⟨a1, k1, rfl, _⟩ := id t1
  obtain ⟨a2, k2, rfl, _⟩ := id t2
  obtain ⟨vq, vc, rfl, t3, t4⟩ := hu
  obtain ⟨a3, k3, rfl, _⟩ := id t3
  obtain ⟨a4, k4, rfl, _⟩ := id t4
  have FX := hide (fun W (hW : Below w.heap.size w W) => rFit_any (.agg #[.string (ofL x.maj), .string (ofL x.min), .string (ofL x.pat), .slice a1 x.pre.length k1, .slice a2 x.bld.length k2]) x W ⟨_, _, rfl, t1.below hW, t2.below hW⟩ sx)
  have FY := hide (fun W (hW : Below w.heap.size w W) => rFit_any (.agg #[.string (ofL y.maj), .string (ofL y.min), .string (ofL y.pat), .slice a3 y.pre.length k3, .slice a4 y.bld.length k4]) y W ⟨_, _, rfl, t3.below hW, t4.below hW⟩ sy)
  have OO := hide (fun W (hW : Below w.heap.size w W) => ROrder_any (.agg #[.string (ofL y.maj), .string (ofL y.min), .string (ofL y.pat), .slice a3 y.pre.length k3, .slice a4 y.bld.length k4]) (.agg #[.string (ofL x.maj), .string (ofL x.min), .string (ofL x.pat), .slice a1 x.pre.length k1, .slice a2 x.bld.length k2]) y x W ⟨_, _, rfl, t3.below hW, t4.below hW⟩ ⟨_, _, rfl, t1.below hW, t2.below hW⟩ sy sx)
  have hH : holdsL (op, x) y = (fitW x && fitW y && cmpO op (ordW y x)) := rfl
  generalize holdsL (op, x) y = R at *
  generalize fitW x = fx at *
  generalize fitW y = fy at *
  generalize ordW y x = n at *
  generalize hc : cmpO op n = cc at *
  have HC := hide hc
  clear hc
  have B0 : HB w ((w.alloc (.cells #[.int .i64 op, .string (ofL x.maj), .string (ofL x.min), .string (ofL x.pat), .slice a1 x.pre.length k1, .slice a2 x.bld.length k2] 35)).alloc (.cells #[.string (ofL y.maj), .string (ofL y.min), .string (ofL y.pat), .slice a3 y.pre.length k3, .slice a4 y.bld.length k4] 33)) op x y a1 a2 a3 a4 k1 k2 k3 k4 := ⟨heap_b0 w _ _, heap_b1 w _ _⟩
  have b0 := below_a2 w (.cells #[.int .i64 op, .string (ofL x.maj), .string (ofL x.min), .string (ofL x.pat), .slice a1 x.pre.length k1, .slice a2 x.bld.length k2] 35) (.cells #[.string (ofL y.maj), .string (ofL y.min), .string (ofL y.pat), .slice a3 y.pre.length k3, .slice a4 y.bld.length k4] 33)
  clear t1 t2 t3 t4 sx sy
  subst hH
  go_enter Tryz.func16, Tryz.ntmps16
  go_wp2_with fail
  generalize (w.alloc _).alloc _ = W0 at *
  refine (FX.out _ b0).mono ?_
  rintro e w1 ⟨rfl, h1⟩
  have B1 := B0.below h1
  have hb1 := b0.trans (h1.mono b0.size)
  clear B0 b0 h1
  cases fx
  · go_wp2_with fail
    go_ret
    exact ⟨rfl, hb1⟩
  obtain ⟨g0, g1, g2, g3, g4, g5, g6, g7, g8, g9, g10⟩ := B1.seen
  try dsimp only
  go_wp2_with fail
  refine (FY.out _ hb1).mono ?_
  rintro e w2 ⟨rfl, h2⟩
  have B2 := B1.below h2
  have hb2 := hb1.trans (h2.mono hb1.size)
  clear B1 hb1 h2 g0 g1 g2 g3 g4 g5 g6 g7 g8 g9 g10
  cases fy
  · go_wp2_with fail
    go_ret
    exact ⟨rfl, hb2⟩
  obtain ⟨g0, g1, g2, g3, g4, g5, g6, g7, g8, g9, g10⟩ := B2.seen
  try dsimp only
  go_wp2_with fail
  refine (OO.out _ hb2).mono ?_
  rintro e w3 ⟨rfl, h3⟩
  have B3 := B2.below h3
  have hb3 := hb2.trans (h3.mono hb2.size)
  clear B2 hb2 h3 g0 g1 g2 g3 g4 g5 g6 g7 g8 g9 g10
  obtain ⟨g0, g1, g2, g3, g4, g5, g6, g7, g8, g9, g10⟩ := B3.seen
  clear B3
  try dsimp only
  by_cases o1 : op = 1
  · have HO : cmpO op n = decide (n < 0) := if_pos o1
    have HP := HC.out.symm.trans HO
    clear HC HO
    subst HP
    subst o1
    go_wp2_with fail
    go_ret
    refine ⟨?_, hb3⟩
    generalize decide (n < 0) = q
    simp only [Bool.true_and]
    exact rfl
  have p1 : (op == 1) = false := by simpa using o1
  by_cases o2 : op = 2
  · have HO : cmpO op n = decide (n ≤ 0) := (if_neg o1).trans (if_pos o2)
    have HP := HC.out.symm.trans HO
    clear HC HO
    subst HP
    subst o2
    go_wp2_with fail
    go_ret
    refine ⟨?_, hb3⟩
    generalize decide (n ≤ 0) = q
    simp only [Bool.true_and]
    exact rfl
  have p2 : (op == 2) = false := by simpa using o2
  by_cases o3 : op = 3
  · have HO : cmpO op n = decide (0 < n) := (if_neg o1).trans ((if_neg o2).trans (if_pos o3))
    have HP := HC.out.symm.trans HO
    clear HC HO
    subst HP
    subst o3
    go_wp2_with fail
    go_ret
    refine ⟨?_, hb3⟩
    generalize decide (0 < n) = q
    simp only [Bool.true_and]
    exact rfl
  have p3 : (op == 3) = false := by simpa using o3
  by_cases o4 : op = 4
  · have HO : cmpO op n = decide (0 ≤ n) := (if_neg o1).trans ((if_neg o2).trans ((if_neg o3).trans (if_pos o4)))
    have HP := HC.out.symm.trans HO
    clear HC HO
    subst HP
    subst o4
    go_wp2_with fail
    go_ret
    refine ⟨?_, hb3⟩
    generalize decide (0 ≤ n) = q
    simp only [Bool.true_and]
    exact rfl
  have p4 : (op == 4) = false := by simpa using o4
  by_cases o5 : op = 5
  · have HO : cmpO op n = (n == 0) := (if_neg o1).trans ((if_neg o2).trans ((if_neg o3).trans ((if_neg o4).trans (if_pos o5))))
    have HP := HC.out.symm.trans HO
    clear HC HO
    subst HP
    subst o5
    go_wp2_with fail
    go_ret
    refine ⟨?_, hb3⟩
    generalize (n == 0) = q
    simp only [Bool.true_and]
    exact rfl
  have p5 : (op == 5) = false := by simpa using o5
  have HO : cmpO op n = false := (if_neg o1).trans ((if_neg o2).trans ((if_neg o3).trans ((if_neg o4).trans (if_neg o5))))
  have HP := HC.out.symm.trans HO
  clear HC HO
  subst HP
  clear o1 o2 o3 o4 o5
  go_wp2_with fail
  go_ret
  exact ⟨rfl, hb3⟩

end Go.Proofs.YtplbdciikkpjoaaGreat

namespace Go.Proofs.YtplbdciikkpjoaaGreat
open Go.RowKit Go.Shelf
set_option linter.unusedVariables false

theorem same_bools {x y : SemL} {q1 q2 q3 : Bool} (h1 : ((ofL x.maj).toList == (ofL y.maj).toList) = q1) (h2 : ((ofL x.min).toList == (ofL y.min).toList) = q2) (h3 : ((ofL x.pat).toList == (ofL y.pat).toList) = q3) : sameL x y = (q1 && q2 && q3) := by
  rw [ofL_toL, ofL_toL] at h1 h2 h3
  unfold sameL
  rw [h1, h2, h3]

set_option maxRecDepth 100000 in
set_option maxHeartbeats 8000000 in
theorem RSet_any (cs : List Comp) (y : SemL) (v u : Value) (w : World) (hv : CompsAt w v cs) (hu : SemAt w u y) (hs : ∀ c ∈ cs, lenS c.2 ≤ 1048576) (sy : lenS y ≤ 1048576) (hcn : cs.length ≤ 2000000) :
    Calls Tryz.prog 18 #[v, u] w fun e w' => e = .returned (.bool (setL cs y)) ∧ Below w.heap.size w w' := by
  obtain ⟨a, k, rfl, hc0⟩ := id hv
  obtain ⟨vq, vc, rfl, t3, t4⟩ := hu
  obtain ⟨a3, k3, rfl, _⟩ := id t3
  obtain ⟨a4, k4, rfl, _⟩ := id t4
  obtain ⟨n, hn⟩ : ∃ n, cs.length = n := ⟨_, rfl⟩
  obtain ⟨n3, hn3⟩ : ∃ n3, y.pre.length = n3 := ⟨_, rfl⟩
  obtain ⟨n4, hn4⟩ : ∃ n4, y.bld.length = n4 := ⟨_, rfl⟩
  rw [hn3] at t3 ⊢
  rw [hn4] at t4 ⊢
  rw [hn] at hv hcn ⊢
  have HN := hide hn
  have HN3 := hide hn3
  have HV := hide hv
  have HSC := hide hs
  have Q0 := hide (Vb.start t3 t4)
  have hX := set_eq cs y
  rw [len_empty hn3] at hX
  have FY := hide (fun W (q : Vb w y a3 a4 n3 n4 k3 k4 W) => rFit_any _ y W q.sem sy)
  clear hn hn3 hn4 t3 t4 hv hc0 hs
  generalize setL cs y = X at *
  generalize hfy : fitW y = fy at *
  clear hfy
  have HX := hide hX
  clear hX
  obtain ⟨s0, s1, s2, s3, s4⟩ := Q0.out.seen
  go_enter Tryz.func18, Tryz.ntmps18
  go_wp2_with fail
  generalize w.alloc (.cells #[.string (ofL y.maj), .string (ofL y.min), .string (ofL y.pat), .slice a3 n3 k3, .slice a4 n4 k4] 33) = W0 at *
  refine (FY.out _ Q0.out).mono ?_
  rintro e W1 ⟨rfl, b1⟩
  have Q1 := hide (Q0.out.next b1)
  clear b1 Q0 s0 s1 s2 s3 s4 FY
  obtain ⟨s0, s1, s2, s3, s4⟩ := Q1.out.seen
  cases fy with
  | false =>
    go_wp2_with fail
    go_ret
    exact ⟨by rw [HX.out]; rfl, Q1.out.bel⟩
  | true =>
    obtain ⟨E, hE⟩ : ∃ E, decide (n3 = 0) = E := ⟨_, rfl⟩
    have hEb : ((n3 : Int) == 0) = E := by rw [← hE, Bool.eq_iff_iff]; simp
    rw [hE] at HX
    clear hE
    go_wp2_with fail
    go_loopw [5, 6] (fun z j wr => ∃ (i : Nat) (R : Bool), i ≤ n ∧ z = .bool R ∧ j = .int .i64 i ∧ Hid (Vb w y a3 a4 n3 n4 k3 k4 wr) ∧ Hid (R = (E || (cs.take i).any (readyL y))) ∧ Hid ((cs.take i).all (fun c => holdsL c y) = true)) (fun _ j _ => n - (intOf j).toNat)
    case atStart => exact ⟨0, E, by omega, by first | rfl | (rw [hEb]), rfl, Q1, by show E = (E || false); simp, rfl⟩
    case round =>
      clear Q1 s0 s1 s2 s3 s4
      obtain ⟨i, R, hin, rfl, rfl, Q, HR, HA⟩ := hrel
      obtain ⟨s0, s1, s2, s3, s4⟩ := Q.out.seen
      by_cases hlt : i < n
      · have hlt' : (i : Int) < (n : Int) := by omega
        have i1 : i < cs.length := by rw [HN.out]; exact hlt
        obtain ⟨a', k', hv', h0 | ⟨b, o, rfl, hbl, hrow⟩⟩ := HV.out.below Q.out.bel
        · exfalso
          rw [h0] at i1
          simp at i1
        · cases hv'
          have HROW := hide (hrow i i1)
          obtain ⟨vp, vb, d0, d1, d2, d3, d4, d5, t1, t2, _⟩ := hrow i i1
          have sc := HSC.out cs[i] (List.getElem_mem i1)
          have h1 := all_takeE cs i i1 HA.out
          have h2 := any_take (f := readyL y) cs i i1
          have h3 : cs.all (fun c => holdsL c y) = true → (fun c => holdsL c y) cs[i] = true := fun h => List.all_eq_true.1 h _ (List.getElem_mem i1)
          obtain ⟨a1, k1, rfl, _⟩ := id t1
          obtain ⟨a2, k2, rfl, _⟩ := id t2
          obtain ⟨m1, hm1⟩ : ∃ m1, cs[i].2.pre.length = m1 := ⟨_, rfl⟩
          obtain ⟨m2, hm2⟩ : ∃ m2, cs[i].2.bld.length = m2 := ⟨_, rfl⟩
          have hrd : readyL y cs[i] = (!decide (m1 = 0) && sameL cs[i].2 y) := by unfold readyL; rw [len_empty hm1]
          rw [hm1] at t1 d4
          rw [hm2] at t2 d5
          rw [hrd] at h2
          have H1 := hide h1
          have H2 := hide h2
          have H3 := hide h3
          have hblt := hbl
          clear hrd h1 h2 h3 hrow hm1 hm2 HROW
          generalize cs[i] = c at *
          clear i1
          obtain ⟨op, x⟩ := c
          dsimp only at *
          have bb := (Below.refl _ wr).alloc (Nat.le_refl _) (.cells #[.string (ofL x.maj), .string (ofL x.min), .string (ofL x.pat), .slice a1 m1 k1, .slice a2 m2 k2] 33)
          have V0 := hide (Q.out.next bb)
          have X0 := World.alloc_heap_new wr (.cells #[.string (ofL x.maj), .string (ofL x.min), .string (ofL x.pat), .slice a1 m1 k1, .slice a2 m2 k2] 33)
          have e0 := (bb.cell hbl).trans d0
          have e1 := (bb.cell hbl).trans d1
          have e2 := (bb.cell hbl).trans d2
          have e3 := (bb.cell hbl).trans d3
          have e4 := (bb.cell hbl).trans d4
          have e5 := (bb.cell hbl).trans d5
          have T1 := hide ((t1.below bb).below (drew_below _ _))
          have T2 := hide ((t2.below bb).below (drew_below _ _))
          have VD := hide (V0.out.next (drew_below _ _))
          have HO := hide (RHolds_any op x y _ _ _ _ T1.out T2.out VD.out.sem sc sy)
          have NX := hide X0
          have HBL := hide (Nat.lt_of_lt_of_le hbl bb.size)
          have s0' := s0
          clear t1 t2 bb Q
          obtain ⟨r0, r1, r2, r3, r4⟩ := V0.out.seen
          generalize hH : holdsL (op, x) y = Hv at *
          generalize hq1 : ((ofL x.maj).toList == (ofL y.maj).toList) = q1 at *
          generalize hq2 : ((ofL x.min).toList == (ofL y.min).toList) = q2 at *
          generalize hq3 : ((ofL x.pat).toList == (ofL y.pat).toList) = q3 at *
          have hsm := same_bools hq1 hq2 hq3
          rw [hsm] at H2
          clear hH hsm X0
          go_wp2_with fail
          generalize wr.alloc (.cells #[.string (ofL x.maj), .string (ofL x.min), .string (ofL x.pat), .slice a1 m1 k1, .slice a2 m2 k2] 33) = W2 at *
          have HK : Hid (wr.heap.size < W2.heap.size) := (Array.getElem?_eq_some_iff.1 NX.out).1
          generalize wr.heap.size = K at *
          clear s0 s1 s2 s3 s4 s0' d0 d1 d2 d3 d4 d5
          go_region_held3 (fun W' => W'.cell? ⟨b, o + i * 6, none⟩ = some (.int .i64 op) ∧ W'.cell? ⟨b, o + i * 6 + 1, none⟩ = some (.string (ofL x.maj)) ∧ W'.cell? ⟨b, o + i * 6 + 2, none⟩ = some (.string (ofL x.min)) ∧ W'.cell? ⟨b, o + i * 6 + 3, none⟩ = some (.string (ofL x.pat)) ∧ W'.cell? ⟨b, o + i * 6 + 4, none⟩ = some (.slice a1 m1 k1) ∧ W'.cell? ⟨b, o + i * 6 + 5, none⟩ = some (.slice a2 m2 k2) ∧ W'.cell? ⟨w.heap.size, 0, none⟩ = some (.string (ofL y.maj)) ∧ W'.cell? ⟨w.heap.size, 1, none⟩ = some (.string (ofL y.min)) ∧ W'.cell? ⟨w.heap.size, 2, none⟩ = some (.string (ofL y.pat)) ∧ W'.cell? ⟨w.heap.size, 3, none⟩ = some (.slice a3 n3 k3) ∧ W'.cell? ⟨w.heap.size, 4, none⟩ = some (.slice a4 n4 k4)) (go_keep) ((first
            | (go_at_call 16; refine HO.out.mono ?_; rintro e9 W3 ⟨rfl, b3⟩; have V3 := hide (VD.out.next b3); have X3 := hide ((b3.block _ HK.out).trans NX.out); have z0 := (b3.cell HBL.out).trans e0; have z1 := (b3.cell HBL.out).trans e1; have z2 := (b3.cell HBL.out).trans e2; have z3 := (b3.cell HBL.out).trans e3; have z4 := (b3.cell HBL.out).trans e4; have z5 := (b3.cell HBL.out).trans e5; obtain ⟨y0, y1, y2, y3, y4⟩ := V3.out.seen; clear b3)
            | fail))
          clear e0 e1 e2 e3 e4 e5 r0 r1 r2 r3 r4 z0 z1 z2 z3 z4 z5 T1 T2 VD V0 HO HBL
          have g0 : W3.cell? ⟨K, 0, none⟩ = some (.string (ofL x.maj)) := cell_at 0 X3.out rfl
          have g1 : W3.cell? ⟨K, 1, none⟩ = some (.string (ofL x.min)) := cell_at 1 X3.out rfl
          have g2 : W3.cell? ⟨K, 2, none⟩ = some (.string (ofL x.pat)) := cell_at 2 X3.out rfl
          have g3 : W3.cell? ⟨K, 3, none⟩ = some (.slice a1 m1 k1) := cell_at 3 X3.out rfl
          cases Hv with
          | false =>
            have hX : X = false := by
              rw [HX.out]
              cases ha : cs.all (fun c => holdsL c y) with
              | false => rfl
              | true => exact absurd (H3.out ha) (by simp)
            have HX2 := hide hX
            clear hX
            go_wp2_with fail
            go_ret
            exact ⟨by rw [HX2.out]; rfl, V3.out.bel⟩
          | true =>
            have HR2 : Hid ((R || (!decide (m1 = 0) && (q1 && q2 && q3))) = (E || (cs.take (i + 1)).any (readyL y))) := by
              show _ = _
              rw [H2.out, ← Bool.or_assoc, ← HR.out]
            clear H2 HR
            by_cases hm : m1 = 0
            · have hm' : ¬ (0 : Int) < (m1 : Int) := by omega
              have hmn : ¬ 0 < m1 := by omega
              have HR3 : Hid (R = (E || (cs.take (i + 1)).any (readyL y))) := by
                have := HR2.out
                rw [decide_eq_true hm, Bool.not_true, Bool.false_and, Bool.or_false] at this
                exact this
              clear hm HR2
              go_wp2_with fail
              go_roundw
              case rel => exact ⟨i + 1, R, by omega, rfl, by go_num, V3, HR3, H1⟩
              case measure => simp [intOf]; omega
            · have hm' : (0 : Int) < (m1 : Int) := by omega
              have hmn : 0 < m1 := by omega
              have HR3 : Hid ((R || (q1 && q2 && q3)) = (E || (cs.take (i + 1)).any (readyL y))) := by
                have := HR2.out
                rw [decide_eq_false hm, Bool.not_false, Bool.true_and] at this
                exact this
              clear hm HR2
              cases q1
              · have HR4 : Hid (R = (E || (cs.take (i + 1)).any (readyL y))) := by
                  have := HR3.out
                  rw [Bool.false_and, Bool.false_and, Bool.or_false] at this
                  exact this
                clear HR3
                go_wp2_with fail
                go_roundw
                case rel => exact ⟨i + 1, R, by omega, rfl, by go_num, V3, HR4, H1⟩
                case measure => simp [intOf]; omega
              cases q2
              · have HR4 : Hid (R = (E || (cs.take (i + 1)).any (readyL y))) := by
                  have := HR3.out
                  rw [Bool.true_and, Bool.false_and, Bool.or_false] at this
                  exact this
                clear HR3
                go_wp2_with fail
                go_roundw
                case rel => exact ⟨i + 1, R, by omega, rfl, by go_num, V3, HR4, H1⟩
                case measure => simp [intOf]; omega
              cases q3
              · have HR4 : Hid (R = (E || (cs.take (i + 1)).any (readyL y))) := by
                  have := HR3.out
                  rw [Bool.true_and, Bool.and_false, Bool.or_false] at this
                  exact this
                clear HR3
                go_wp2_with fail
                go_roundw
                case rel => exact ⟨i + 1, R, by omega, rfl, by go_num, V3, HR4, H1⟩
                case measure => simp [intOf]; omega
              · have HR4 : Hid (true = (E || (cs.take (i + 1)).any (readyL y))) := by
                  have := HR3.out
                  rw [Bool.true_and, Bool.true_and, Bool.or_true] at this
                  exact this
                clear HR3
                go_wp2_with fail
                go_roundw
                case rel => exact ⟨i + 1, true, by omega, rfl, by go_num, V3, HR4, H1⟩
                case measure => simp [intOf]; omega
      · have hlt' : ¬ (i : Int) < (n : Int) := by omega
        have hX : X = R := by
          have h1 := HA.out
          have h2 := HR.out
          rw [List.take_of_length_le (by rw [HN.out]; omega)] at h1 h2
          rw [HX.out, h1, h2]
          rfl
        have HX2 := hide hX
        clear hX
        go_wp2_with fail
        go_ret
        exact ⟨by rw [HX2.out]; rfl, Q.out.bel⟩

end Go.Proofs.YtplbdciikkpjoaaGreat

namespace Go.Proofs.YtplbdciikkpjoaaGreat
open Go.RowKit Go.Shelf
set_option linter.unusedVariables false

set_option maxRecDepth 100000 in
theorem rop_any (op : Int) (h1 : 1 ≤ op) (h5 : op ≤ 5) (w : World) : Calls Tryz.prog 34 #[.int .i64 op] w fun e w' => e = .returned (.string (ofL (signL op).1.data.toList)) ∧ Below w.heap.size w w' := by
  have : op = 1 ∨ op = 2 ∨ op = 3 ∨ op = 4 ∨ op = 5 := by omega
  rcases this with rfl | rfl | rfl | rfl | rfl
  · go_enter Tryz.func34, Tryz.ntmps34
    go_wp2_with fail
    go_ret
    exact ⟨rfl, (Below.refl _ w).alloc (Nat.le_refl _) _⟩
  · go_enter Tryz.func34, Tryz.ntmps34
    go_wp2_with fail
    go_ret
    exact ⟨rfl, (Below.refl _ w).alloc (Nat.le_refl _) _⟩
  · go_enter Tryz.func34, Tryz.ntmps34
    go_wp2_with fail
    go_ret
    exact ⟨rfl, (Below.refl _ w).alloc (Nat.le_refl _) _⟩
  · go_enter Tryz.func34, Tryz.ntmps34
    go_wp2_with fail
    go_ret
    exact ⟨rfl, (Below.refl _ w).alloc (Nat.le_refl _) _⟩
  · go_enter Tryz.func34, Tryz.ntmps34
    go_wp2_with fail
    go_ret
    exact ⟨rfl, (Below.refl _ w).alloc (Nat.le_refl _) _⟩

theorem join_snoc (sep : List UInt8) : ∀ (xs : List (List UInt8)) (x : List UInt8), Lib.join (xs ++ [x]) sep = if xs = [] then x else Lib.join xs sep ++ sep ++ x
  | [], x => by simp [Lib.join, List.intercalate]
  | y :: ys, x => by
    rw [if_neg (by simp), List.cons_append, Lib.join_cons, Lib.join_cons]
    unfold Lib.joinTail
    simp
/-- What bounds a set's text, a range's. -/
def totC (cs : List Comp) : Nat := (cs.map (fun c => lenS c.2 + 4)).sum
def totS (l : List (List Comp)) : Nat := (l.map (fun cs => totC cs + 6)).sum
theorem totC_take (cs : List Comp) (k : Nat) (h : k < cs.length) : totC (cs.take (k + 1)) = totC (cs.take k) + lenS cs[k].2 + 4 := by
  unfold totC
  rw [List.take_succ_eq_append_getElem h, List.map_append, List.sum_append]
  simp
  omega
theorem totC_le (cs : List Comp) (k : Nat) : totC (cs.take k) ≤ totC cs := by
  conv => rhs; rw [← List.take_append_drop k cs]
  unfold totC
  rw [List.map_append, List.sum_append]
  omega
theorem totS_take (l : List (List Comp)) (k : Nat) (h : k < l.length) : totS (l.take (k + 1)) = totS (l.take k) + totC l[k] + 6 := by
  unfold totS
  rw [List.take_succ_eq_append_getElem h, List.map_append, List.sum_append]
  simp
  omega
theorem totS_le (l : List (List Comp)) (k : Nat) : totS (l.take k) ≤ totS l := by
  conv => rhs; rw [← List.take_append_drop k l]
  unfold totS
  rw [List.map_append, List.sum_append]
  omega
theorem comp_len (c : Comp) : (compT c).length ≤ lenS c.2 + 2 ∧ (fmtL c.2).length ≤ lenS c.2 ∧ ((signL c.1).1.data.toList).length ≤ 2 := by
  have h1 := textL_len c.2
  have h2 := sign_len c.1
  have h3 : (fmtL c.2).length ≤ lenS c.2 := by
    unfold fmtL
    split
    · exact h1
    · simp
  have h4 : ((signL c.1).1.data.toList).length ≤ 2 := by rw [len_data]; exact h2
  refine ⟨?_, h3, h4⟩
  unfold compT
  rw [List.length_append]
  omega
theorem join_takeC (cs : List Comp) (k : Nat) (h : k < cs.length) : Lib.join ((cs.take (k + 1)).map compT) [32] = if k = 0 then compT cs[k] else Lib.join ((cs.take k).map compT) [32] ++ [32] ++ compT cs[k] := by
  rw [List.take_succ_eq_append_getElem h, List.map_append, List.map_singleton, join_snoc]
  by_cases hk : k = 0
  · subst hk; simp
  · rw [if_neg hk, if_neg]
    intro e
    have := congrArg List.length e
    rw [List.length_map, List.length_take, List.length_nil] at this
    omega
theorem join_takeS (l : List (List Comp)) (k : Nat) (h : k < l.length) : Lib.join ((l.take (k + 1)).map (fun cs => (setT cs).1)) [32, 124, 124, 32] = if k = 0 then (setT l[k]).1 else Lib.join ((l.take k).map (fun cs => (setT cs).1)) [32, 124, 124, 32] ++ [32, 124, 124, 32] ++ (setT l[k]).1 := by
  rw [List.take_succ_eq_append_getElem h, List.map_append, List.map_singleton, join_snoc]
  by_cases hk : k = 0
  · subst hk; simp
  · rw [if_neg hk, if_neg]
    intro e
    have := congrArg List.length e
    rw [List.length_map, List.length_take, List.length_nil] at this
    omega
theorem okT_of {op : Int} {x : SemL} (h1 : 1 ≤ op) (h5 : op ≤ 5) (hf : fitW x = true) (hb : x.bld.length = 0) : okT1 (op, x) = true := by
  have : op = 1 ∨ op = 2 ∨ op = 3 ∨ op = 4 ∨ op = 5 := by omega
  unfold okT1
  dsimp only
  rw [hf, hb]
  rcases this with rfl | rfl | rfl | rfl | rfl <;> rfl
theorem okT_no {op : Int} {x : SemL} (h : op < 1 ∨ 5 < op ∨ fitW x = false ∨ x.bld.length ≠ 0) : okT1 (op, x) = false := by
  unfold okT1
  dsimp only
  rcases h with h | h | h | h
  · have : signL op = (ofL [], false) := by
      unfold signL
      rw [if_neg (by omega), if_neg (by omega), if_neg (by omega), if_neg (by omega), if_neg (by omega)]
    rw [this]; rfl
  · have : signL op = (ofL [], false) := by
      unfold signL
      rw [if_neg (by omega), if_neg (by omega), if_neg (by omega), if_neg (by omega), if_neg (by omega)]
    rw [this]; rfl
  · rw [h]; simp
  · simp [h]

end Go.Proofs.YtplbdciikkpjoaaGreat
