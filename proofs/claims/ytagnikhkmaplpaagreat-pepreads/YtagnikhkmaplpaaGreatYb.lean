/-
  Walks: the document's Order.
-/
import Derived.Test.YtagnikhkmaplpaaGreatYa
import Derived.Test.YtagnikhkmaplpaaGreatQv
namespace Go.Proofs.YtagnikhkmaplpaaGreat
open Go.RowKit Go.Shelf
set_option linter.unusedVariables false

theorem rc_list (s t : List UInt8) (hs : s.length ≤ 1048576) (ht : t.length ≤ 1048576) (w : World) : Calls Tryz.prog 48 #[.string (ofL s), .string (ofL t)] w fun e w' => e = .returned (.int .i64 (cmpD s t)) ∧ w' = w := by
  have := RCmp_any (ofL s) (ofL t) w (by rw [ofL_size]; omega) (by rw [ofL_size]; omega)
  rw [ofL_data, ofL_data] at this
  exact this

set_option maxRecDepth 1000000 in
set_option maxHeartbeats 8000000 in
theorem ROrder_any (x y : PepL) (r1 r2 q1 q2 : Option Addr) (c1 c2 d1 d2 : Nat) (w : World) (ra : Txt w (.slice r1 x.rel.length c1) x.rel) (rb : Txt w (.slice r2 y.rel.length c2) y.rel) (la : Txt w (.slice q1 x.loc.length d1) x.loc) (lb : Txt w (.slice q2 y.loc.length d2) y.loc) (hx : MidP x) (hy : MidP y) (fx : fitR x = true) (fy : fitR y = true) :
    Calls Tryz.prog 19 #[.agg #[.string (ofL x.ep), .slice r1 x.rel.length c1, .int .u8 x.c, .string (ofL x.n), .bool x.b, .string (ofL x.m), .bool x.d, .string (ofL x.k), .slice q1 x.loc.length d1], .agg #[.string (ofL y.ep), .slice r2 y.rel.length c2, .int .u8 y.c, .string (ofL y.n), .bool y.b, .string (ofL y.m), .bool y.d, .string (ofL y.k), .slice q2 y.loc.length d2]] w fun e w' => e = .returned (.int .i64 (ordR x y)) ∧ Below w.heap.size w w' := by
  have nx : ∀ t ∈ x.loc, t ≠ [] := fun t h => (loc_of (List.all_eq_true.1 (fit_of fx).f8 t h)).1
  have ny : ∀ t ∈ y.loc, t ≠ [] := fun t h => (loc_of (List.all_eq_true.1 (fit_of fy).f8 t h)).1
  have FX := fun w h1 h2 => RFit_any x r1 q1 c1 d1 w h1 h2 hx
  have FY := fun w h1 h2 => RFit_any y r2 q2 c2 d2 w h1 h2 hy
  rw [fx] at FX
  rw [fy] at FY
  have C1 := rc_list x.ep y.ep hx.e hy.e
  have C2 := fun w h1 h2 => Rrelease_any r1 r2 c1 c2 _ _ x.rel y.rel rfl rfl w h1 h2 hx.r hy.r
  have C3 := Rclass_any x r1 q1 c1 d1
  have C4 := Rclass_any y r2 q2 c2 d2
  have C5 := Rints_any (clsR x) (clsR y)
  have C6 := rc_list x.n y.n hx.n hy.n
  have C7 := Rrank_any x.b
  have C8 := Rrank_any y.b
  have C9 := Rints_any (rankR x.b) (rankR y.b)
  have C10 := rc_list x.m y.m hx.m hy.m
  have C11 := Rrank_any (!x.d)
  have C12 := Rrank_any (!y.d)
  have C13 := Rints_any (rankR !x.d) (rankR !y.d)
  have C14 := rc_list x.k y.k hx.k hy.k
  have C15 := fun w h1 h2 => Rlocals_any q1 q2 d1 d2 _ _ x.loc y.loc rfl rfl w h1 h2 hx.l hy.l nx ny
  have S0 := OB.start ra rb la lb
  obtain ⟨L, HL, HO⟩ : ∃ L, L = [cmpD x.ep y.ep, padO cmpD [] x.rel y.rel 0, cmpI (clsR x) (clsR y), cmpD x.n y.n, cmpI (rankR x.b) (rankR y.b), cmpD x.m y.m, cmpI (rankR !x.d) (rankR !y.d), cmpD x.k y.k, locR x.loc y.loc] ∧ Hid (ordR x y = orI (L.drop 0)) := ⟨_, rfl, rfl⟩
  have FX := hide FX
  have FY := hide FY
  have C1 := hide C1
  have C2 := hide C2
  have C3 := hide C3
  have C4 := hide C4
  have C5 := hide C5
  have C6 := hide C6
  have C7 := hide C7
  have C8 := hide C8
  have C9 := hide C9
  have C10 := hide C10
  have C11 := hide C11
  have C12 := hide C12
  have C13 := hide C13
  have C14 := hide C14
  have C15 := hide C15
  generalize ordR x y = O at *
  generalize cmpD x.ep y.ep = o1 at *
  generalize padO cmpD [] x.rel y.rel 0 = o2 at *
  generalize cmpI (clsR x) (clsR y) = o3 at *
  generalize cmpD x.n y.n = o4 at *
  generalize cmpI (rankR x.b) (rankR y.b) = o5 at *
  generalize cmpD x.m y.m = o6 at *
  generalize cmpI (rankR !x.d) (rankR !y.d) = o7 at *
  generalize cmpD x.k y.k = o8 at *
  generalize locR x.loc y.loc = o9 at *
  generalize clsR x = k1 at *
  generalize clsR y = k2 at *
  have HL := hide HL
  clear ra rb la lb hx hy fx fy nx ny
  go_enter Tryz.func19, Tryz.ntmps19
  go_wp2_with fail
  generalize (w.alloc (.cells #[.string (ofL x.ep), .slice r1 x.rel.length c1, .int .u8 x.c, .string (ofL x.n), .bool x.b, .string (ofL x.m), .bool x.d, .string (ofL x.k), .slice q1 x.loc.length d1] 24)).alloc (.cells #[.string (ofL y.ep), .slice r2 y.rel.length c2, .int .u8 y.c, .string (ofL y.n), .bool y.b, .string (ofL y.m), .bool y.d, .string (ofL y.k), .slice q2 y.loc.length d2] 24) = W0 at *
  obtain ⟨s0, s1, s2, s3, s4, s5, s6, s7, s8, s9, s10, s11, s12, s13, s14, s15, s16, s17⟩ := S0.seen
  go_wp2_with fail
  refine (FX.out _ S0.ra S0.la).mono ?_
  rintro e W1 ⟨rfl, b1⟩
  have S1 := S0.next b1
  clear S0 s0 s1 s2 s3 s4 s5 s6 s7 s8 s9 s10 s11 s12 s13 s14 s15 s16 s17 b1
  obtain ⟨s0, s1, s2, s3, s4, s5, s6, s7, s8, s9, s10, s11, s12, s13, s14, s15, s16, s17⟩ := S1.seen
  try dsimp only
  go_wp2_with fail
  refine (FY.out _ S1.rb S1.lb).mono ?_
  rintro e W2 ⟨rfl, b2⟩
  have S2 := S1.next b2
  clear S1 s0 s1 s2 s3 s4 s5 s6 s7 s8 s9 s10 s11 s12 s13 s14 s15 s16 s17 b2
  obtain ⟨s0, s1, s2, s3, s4, s5, s6, s7, s8, s9, s10, s11, s12, s13, s14, s15, s16, s17⟩ := S2.seen
  try dsimp only
  go_wp2_with fail
  have D0 := S2.drew
  try dsimp only
  go_region_held3 (fun w' => w'.cell? ⟨w.heap.size, 0, none⟩ = some (.string (ofL x.ep)) ∧ w'.cell? ⟨w.heap.size, 1, none⟩ = some (.slice r1 x.rel.length c1) ∧ w'.cell? ⟨w.heap.size, 2, none⟩ = some (.int .u8 x.c) ∧ w'.cell? ⟨w.heap.size, 3, none⟩ = some (.string (ofL x.n)) ∧ w'.cell? ⟨w.heap.size, 4, none⟩ = some (.bool x.b) ∧ w'.cell? ⟨w.heap.size, 5, none⟩ = some (.string (ofL x.m)) ∧ w'.cell? ⟨w.heap.size, 6, none⟩ = some (.bool x.d) ∧ w'.cell? ⟨w.heap.size, 7, none⟩ = some (.string (ofL x.k)) ∧ w'.cell? ⟨w.heap.size, 8, none⟩ = some (.slice q1 x.loc.length d1) ∧ w'.cell? ⟨w.heap.size + 1, 0, none⟩ = some (.string (ofL y.ep)) ∧ w'.cell? ⟨w.heap.size + 1, 1, none⟩ = some (.slice r2 y.rel.length c2) ∧ w'.cell? ⟨w.heap.size + 1, 2, none⟩ = some (.int .u8 y.c) ∧ w'.cell? ⟨w.heap.size + 1, 3, none⟩ = some (.string (ofL y.n)) ∧ w'.cell? ⟨w.heap.size + 1, 4, none⟩ = some (.bool y.b) ∧ w'.cell? ⟨w.heap.size + 1, 5, none⟩ = some (.string (ofL y.m)) ∧ w'.cell? ⟨w.heap.size + 1, 6, none⟩ = some (.bool y.d) ∧ w'.cell? ⟨w.heap.size + 1, 7, none⟩ = some (.string (ofL y.k)) ∧ w'.cell? ⟨w.heap.size + 1, 8, none⟩ = some (.slice q2 y.loc.length d2))
    (go_keep)
    ((first
      | (have hq := Q14; go_at_call 51; refine (C15.out _ Q14.la Q14.lb).mono ?_; rintro e w15 ⟨rfl, b15⟩; have Q15 := Q14.next b15; obtain ⟨f15_0, f15_1, f15_2, f15_3, f15_4, f15_5, f15_6, f15_7, f15_8, f15_9, f15_10, f15_11, f15_12, f15_13, f15_14, f15_15, f15_16, f15_17⟩ := Q15.seen)
      | (have hq := Q13; go_at_call 48; refine (C14.out _).mono ?_; rintro e w14 ⟨rfl, hw14⟩; rw [hw14]; clear hw14 w14; have Q14 := Q13)
      | (have hq := Q12; go_at_call 37; refine (C13.out _).mono ?_; rintro e w13 ⟨rfl, hw13⟩; rw [hw13]; clear hw13 w13; have Q13 := Q12)
      | (have hq := Q11; go_at_call 38; refine (C12.out _).mono ?_; rintro e w12 ⟨rfl, hw12⟩; rw [hw12]; clear hw12 w12; have Q12 := Q11)
      | (have hq := Q10; go_at_call 38; refine (C11.out _).mono ?_; rintro e w11 ⟨rfl, hw11⟩; rw [hw11]; clear hw11 w11; have Q11 := Q10)
      | (have hq := Q9; go_at_call 48; refine (C10.out _).mono ?_; rintro e w10 ⟨rfl, hw10⟩; rw [hw10]; clear hw10 w10; have Q10 := Q9)
      | (have hq := Q8; go_at_call 37; refine (C9.out _).mono ?_; rintro e w9 ⟨rfl, hw9⟩; rw [hw9]; clear hw9 w9; have Q9 := Q8)
      | (have hq := Q7; go_at_call 38; refine (C8.out _).mono ?_; rintro e w8 ⟨rfl, hw8⟩; rw [hw8]; clear hw8 w8; have Q8 := Q7)
      | (have hq := Q6; go_at_call 38; refine (C7.out _).mono ?_; rintro e w7 ⟨rfl, hw7⟩; rw [hw7]; clear hw7 w7; have Q7 := Q6)
      | (have hq := Q5; go_at_call 48; refine (C6.out _).mono ?_; rintro e w6 ⟨rfl, hw6⟩; rw [hw6]; clear hw6 w6; have Q6 := Q5)
      | (have hq := Q4; go_at_call 37; refine (C5.out _).mono ?_; rintro e w5 ⟨rfl, hw5⟩; rw [hw5]; clear hw5 w5; have Q5 := Q4)
      | (have hq := Q3; go_at_call 50; refine (C4.out _).mono ?_; rintro e w4 ⟨rfl, b4⟩; have Q4 := Q3.next b4; obtain ⟨f4_0, f4_1, f4_2, f4_3, f4_4, f4_5, f4_6, f4_7, f4_8, f4_9, f4_10, f4_11, f4_12, f4_13, f4_14, f4_15, f4_16, f4_17⟩ := Q4.seen)
      | (have hq := Q2; go_at_call 50; refine (C3.out _).mono ?_; rintro e w3 ⟨rfl, b3⟩; have Q3 := Q2.next b3; obtain ⟨f3_0, f3_1, f3_2, f3_3, f3_4, f3_5, f3_6, f3_7, f3_8, f3_9, f3_10, f3_11, f3_12, f3_13, f3_14, f3_15, f3_16, f3_17⟩ := Q3.seen)
      | (have hq := Q1; go_at_call 49; refine (C2.out _ Q1.ra Q1.rb).mono ?_; rintro e w2 ⟨rfl, hw2⟩; rw [hw2]; clear hw2 w2; have Q2 := Q1)
      | (go_at_call 48; refine (C1.out _).mono ?_; rintro e w1 ⟨rfl, hw1⟩; rw [hw1]; clear hw1 w1; have Q1 := D0; obtain ⟨f1_0, f1_1, f1_2, f1_3, f1_4, f1_5, f1_6, f1_7, f1_8, f1_9, f1_10, f1_11, f1_12, f1_13, f1_14, f1_15, f1_16, f1_17⟩ := Q1.seen)
      | fail))
  have A9 := World.alloc_heap_new w15 (.cells #[.int .i64 o1, .int .i64 o2, .int .i64 o3, .int .i64 o4, .int .i64 o5, .int .i64 o6, .int .i64 o7, .int .i64 o8, .int .i64 o9] 3)
  have B15 := Q15.bel.alloc Q15.bel.size (.cells #[.int .i64 o1, .int .i64 o2, .int .i64 o3, .int .i64 o4, .int .i64 o5, .int .i64 o6, .int .i64 o7, .int .i64 o8, .int .i64 o9] 3)
  generalize w15.alloc (.cells #[.int .i64 o1, .int .i64 o2, .int .i64 o3, .int .i64 o4, .int .i64 o5, .int .i64 o6, .int .i64 o7, .int .i64 o8, .int .i64 o9] 3) = WA at *
  have LN : Hid (L.length = 9) := by
    have hl := HL.out
    show _ = _
    rw [hl]; rfl
  have E9 : Hid (∀ k (h : k < L.length), WA.cell? ⟨w15.heap.size, k, none⟩ = some (.int .i64 L[k])) := by
    have hl := HL.out
    clear HL
    subst hl
    intro k h
    have hk : k < 9 := h
    match k, hk with
    | 0, _ => exact cell_at 0 A9 rfl
    | 1, _ => exact cell_at 1 A9 rfl
    | 2, _ => exact cell_at 2 A9 rfl
    | 3, _ => exact cell_at 3 A9 rfl
    | 4, _ => exact cell_at 4 A9 rfl
    | 5, _ => exact cell_at 5 A9 rfl
    | 6, _ => exact cell_at 6 A9 rfl
    | 7, _ => exact cell_at 7 A9 rfl
    | 8, _ => exact cell_at 8 A9 rfl
  clear A9
  clear HL FX FY C1 C2 C3 C4 C5 C6 C7 C8 C9 C10 C11 C12 C13 C14 C15 Q1 Q2 Q3 Q4 Q5 Q6 Q7 Q8 Q9 Q10 Q11 Q12 Q13 Q14 Q15 D0 S2 s0 s1 s2 s3 s4 s5 s6 s7 s8 s9 s10 s11 s12 s13 s14 s15 s16 s17 f1_0 f1_1 f1_2 f1_3 f1_4 f1_5 f1_6 f1_7 f1_8 f1_9 f1_10 f1_11 f1_12 f1_13 f1_14 f1_15 f1_16 f1_17 f3_0 f3_1 f3_2 f3_3 f3_4 f3_5 f3_6 f3_7 f3_8 f3_9 f3_10 f3_11 f3_12 f3_13 f3_14 f3_15 f3_16 f3_17 f4_0 f4_1 f4_2 f4_3 f4_4 f4_5 f4_6 f4_7 f4_8 f4_9 f4_10 f4_11 f4_12 f4_13 f4_14 f4_15 f4_16 f4_17 f15_0 f15_1 f15_2 f15_3 f15_4 f15_5 f15_6 f15_7 f15_8 f15_9 f15_10 f15_11 f15_12 f15_13 f15_14 f15_15 f15_16 f15_17
  try dsimp only
  go_wp2_with fail
  try dsimp only
  go_loop [6] (fun i => ∃ k : Nat, k ≤ 9 ∧ i = .int .i64 k ∧ Hid (O = orI (L.drop k))) (fun i => 9 - (intOf i).toNat)
  case atStart => exact ⟨0, by omega, rfl, HO⟩
  case round =>
    obtain ⟨k, hk, rfl, HI⟩ := hrel
    by_cases hm : k < 9
    · have hm' : (k : Int) < 9 := by omega
      have hj : k < L.length := by rw [LN.out]; exact hm
      have e1 := E9.out k hj
      have HS := hide (orI_drop L k hj)
      generalize L[k] = o at *
      clear hj
      by_cases h0 : o = 0
      · subst h0
        have HN : Hid (O = orI (L.drop (k + 1))) := by show _ = _; rw [HI.out, HS.out, if_pos rfl]
        clear HS HI
        go_wp2_with fail
        go_round
        case rel => exact ⟨k + 1, by omega, by go_num, HN⟩
        case measure => simp [intOf]; omega
      · have hb0 : (o != 0) = true := by simpa using h0
        have HN : Hid (O = o) := by show _ = _; rw [HI.out, HS.out, if_neg h0]
        clear HS HI h0
        go_wp2_with fail
        go_ret
        exact ⟨ret_i HN.out.symm, B15⟩
    · have hm' : ¬ (k : Int) < 9 := by omega
      have HZ : Hid (O = 0) := by show _ = _; rw [HI.out, orI_end L k (by rw [LN.out]; omega)]
      go_wp2_with fail
      go_ret
      exact ⟨by rw [HZ.out]; rfl, B15⟩

end Go.Proofs.YtagnikhkmaplpaaGreat
