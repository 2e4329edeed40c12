/-
  Walks: the order of versions.
-/
import Derived.Test.YtabmfdedbpmfmaaGreatBPp
namespace Go.Proofs.YtabmfdedbpmfmaaGreat
open Go.RowKit Go.Shelf
set_option linter.unusedVariables false

def PepAt (W : World) (v : Value) (x : PepL) : Prop := ∃ vr vl, v = pepV (ofL x.ep) vr x.c (ofL x.n) x.b (ofL x.m) x.d (ofL x.k) vl ∧ Txt W vr x.rel ∧ Txt W vl x.loc
def ShortP (x : PepL) : Prop := x.ep.length ≤ 9223372036854775806 ∧ x.n.length ≤ 9223372036854775806 ∧ x.m.length ≤ 9223372036854775806 ∧ x.k.length ≤ 9223372036854775806 ∧ Short x.rel ∧ Short x.loc
theorem PepAt.below {W W' : World} {v : Value} {x : PepL} (h : PepAt W v x) (hb : Below W.heap.size W W') : PepAt W' v x := by
  obtain ⟨vr, vl, e, h1, h2⟩ := h
  exact ⟨vr, vl, e, h1.below hb, h2.below hb⟩

structure OB (w : World) (x y : PepL) (r1 r2 q1 q2 : Option Addr) (c1 c2 d1 d2 : Nat) (W : World) : Prop where
  bel : Below w.heap.size w W
  ea : W.heap[w.heap.size]? = some (.cells #[.string (ofL x.ep), .slice r1 x.rel.length c1, .int .u8 x.c, .string (ofL x.n), .bool x.b, .string (ofL x.m), .bool x.d, .string (ofL x.k), .slice q1 x.loc.length d1] 44 (0, 0))
  eb : W.heap[w.heap.size + 1]? = some (.cells #[.string (ofL y.ep), .slice r2 y.rel.length c2, .int .u8 y.c, .string (ofL y.n), .bool y.b, .string (ofL y.m), .bool y.d, .string (ofL y.k), .slice q2 y.loc.length d2] 44 (0, 0))
  ra : Txt W (.slice r1 x.rel.length c1) x.rel
  rb : Txt W (.slice r2 y.rel.length c2) y.rel
  la : Txt W (.slice q1 x.loc.length d1) x.loc
  lb : Txt W (.slice q2 y.loc.length d2) y.loc
theorem OB.next {w W W' : World} {x y : PepL} {r1 r2 q1 q2 : Option Addr} {c1 c2 d1 d2 : Nat} (h : OB w x y r1 r2 q1 q2 c1 c2 d1 d2 W) (hb : Below W.heap.size W W') : OB w x y r1 r2 q1 q2 c1 c2 d1 d2 W' := by
  have l1 := (Array.getElem?_eq_some_iff.1 h.ea).1
  have l2 := (Array.getElem?_eq_some_iff.1 h.eb).1
  exact ⟨h.bel.trans (hb.mono h.bel.size), (hb.block _ l1).trans h.ea, (hb.block _ l2).trans h.eb, h.ra.below hb, h.rb.below hb, h.la.below hb, h.lb.below hb⟩
theorem OB.drew {w W : World} {x y : PepL} {r1 r2 q1 q2 : Option Addr} {c1 c2 d1 d2 : Nat} (h : OB w x y r1 r2 q1 q2 c1 c2 d1 d2 W) : OB w x y r1 r2 q1 q2 c1 c2 d1 d2 W.drew := h.next (Below.refl _ _).drew
theorem OB.seen {w W : World} {x y : PepL} {r1 r2 q1 q2 : Option Addr} {c1 c2 d1 d2 : Nat} (h : OB w x y r1 r2 q1 q2 c1 c2 d1 d2 W) : W.cell? ⟨w.heap.size, 0, none⟩ = some (.string (ofL x.ep)) ∧ W.cell? ⟨w.heap.size, 1, none⟩ = some (.slice r1 x.rel.length c1) ∧ W.cell? ⟨w.heap.size, 2, none⟩ = some (.int .u8 x.c) ∧ W.cell? ⟨w.heap.size, 3, none⟩ = some (.string (ofL x.n)) ∧ W.cell? ⟨w.heap.size, 4, none⟩ = some (.bool x.b) ∧ W.cell? ⟨w.heap.size, 5, none⟩ = some (.string (ofL x.m)) ∧ W.cell? ⟨w.heap.size, 6, none⟩ = some (.bool x.d) ∧ W.cell? ⟨w.heap.size, 7, none⟩ = some (.string (ofL x.k)) ∧ W.cell? ⟨w.heap.size, 8, none⟩ = some (.slice q1 x.loc.length d1) ∧ W.cell? ⟨w.heap.size + 1, 0, none⟩ = some (.string (ofL y.ep)) ∧ W.cell? ⟨w.heap.size + 1, 1, none⟩ = some (.slice r2 y.rel.length c2) ∧ W.cell? ⟨w.heap.size + 1, 2, none⟩ = some (.int .u8 y.c) ∧ W.cell? ⟨w.heap.size + 1, 3, none⟩ = some (.string (ofL y.n)) ∧ W.cell? ⟨w.heap.size + 1, 4, none⟩ = some (.bool y.b) ∧ W.cell? ⟨w.heap.size + 1, 5, none⟩ = some (.string (ofL y.m)) ∧ W.cell? ⟨w.heap.size + 1, 6, none⟩ = some (.bool y.d) ∧ W.cell? ⟨w.heap.size + 1, 7, none⟩ = some (.string (ofL y.k)) ∧ W.cell? ⟨w.heap.size + 1, 8, none⟩ = some (.slice q2 y.loc.length d2) :=
  ⟨cell_at 0 h.ea rfl, cell_at 1 h.ea rfl, cell_at 2 h.ea rfl, cell_at 3 h.ea rfl, cell_at 4 h.ea rfl, cell_at 5 h.ea rfl, cell_at 6 h.ea rfl, cell_at 7 h.ea rfl, cell_at 8 h.ea rfl, cell_at 0 h.eb rfl, cell_at 1 h.eb rfl, cell_at 2 h.eb rfl, cell_at 3 h.eb rfl, cell_at 4 h.eb rfl, cell_at 5 h.eb rfl, cell_at 6 h.eb rfl, cell_at 7 h.eb rfl, cell_at 8 h.eb rfl⟩
theorem OB.start {w : World} {x y : PepL} {r1 r2 q1 q2 : Option Addr} {c1 c2 d1 d2 : Nat} (ra : Txt w (.slice r1 x.rel.length c1) x.rel) (rb : Txt w (.slice r2 y.rel.length c2) y.rel) (la : Txt w (.slice q1 x.loc.length d1) x.loc) (lb : Txt w (.slice q2 y.loc.length d2) y.loc) :
    OB w x y r1 r2 q1 q2 c1 c2 d1 d2 ((w.alloc (.cells #[.string (ofL x.ep), .slice r1 x.rel.length c1, .int .u8 x.c, .string (ofL x.n), .bool x.b, .string (ofL x.m), .bool x.d, .string (ofL x.k), .slice q1 x.loc.length d1] 44)).alloc (.cells #[.string (ofL y.ep), .slice r2 y.rel.length c2, .int .u8 y.c, .string (ofL y.n), .bool y.b, .string (ofL y.m), .bool y.d, .string (ofL y.k), .slice q2 y.loc.length d2] 44)) := by
  have bb : Below w.heap.size w ((w.alloc (.cells #[.string (ofL x.ep), .slice r1 x.rel.length c1, .int .u8 x.c, .string (ofL x.n), .bool x.b, .string (ofL x.m), .bool x.d, .string (ofL x.k), .slice q1 x.loc.length d1] 44)).alloc (.cells #[.string (ofL y.ep), .slice r2 y.rel.length c2, .int .u8 y.c, .string (ofL y.n), .bool y.b, .string (ofL y.m), .bool y.d, .string (ofL y.k), .slice q2 y.loc.length d2] 44)) := ((Below.refl _ w).alloc (Nat.le_refl _) _).alloc (by simp) _
  refine ⟨bb, ?_, ?_, ra.below bb, rb.below bb, la.below bb, lb.below bb⟩
  · rw [Below.heap_alloc _ _ _ (by simp)]
    exact World.alloc_heap_new w _
  · have := World.alloc_heap_new (w.alloc (.cells #[.string (ofL x.ep), .slice r1 x.rel.length c1, .int .u8 x.c, .string (ofL x.n), .bool x.b, .string (ofL x.m), .bool x.d, .string (ofL x.k), .slice q1 x.loc.length d1] 44)) (.cells #[.string (ofL y.ep), .slice r2 y.rel.length c2, .int .u8 y.c, .string (ofL y.n), .bool y.b, .string (ofL y.m), .bool y.d, .string (ofL y.k), .slice q2 y.loc.length d2] 44)
    rwa [World.size_alloc] at this

theorem stg1_st (x : PepL) : ((stg1 x.c (ofL x.n) x.b x.d).1, (stg1 x.c (ofL x.n) x.b x.d).2.data.toList) = st1 x := by
  unfold stg1 st1
  split
  · split <;> rfl
  · rw [ofL_data]
theorem stg2_st (x : PepL) : ((stg2 x.b (ofL x.m)).1, (stg2 x.b (ofL x.m)).2.data.toList) = st2 x := by
  unfold stg2 st2
  split
  · rw [ofL_data]
  · rfl
theorem stg3_st (x : PepL) : ((stg3 x.d (ofL x.k)).1, (stg3 x.d (ofL x.k)).2.data.toList) = st3 x := by
  unfold stg3 st3
  split
  · rw [ofL_data]
  · rfl
theorem stg1_sz (x : PepL) (h : ShortP x) : (stg1 x.c (ofL x.n) x.b x.d).2.size ≤ 9223372036854775806 := by
  unfold stg1
  (repeat' split) <;> first | (show (ByteArray.mk #[]).size ≤ _; decide) | (rw [ofL_size]; exact h.2.1)
theorem stg2_sz (x : PepL) (h : ShortP x) : (stg2 x.b (ofL x.m)).2.size ≤ 9223372036854775806 := by
  unfold stg2
  split
  · rw [ofL_size]; exact h.2.2.1
  · show (ByteArray.mk #[]).size ≤ _; decide
theorem stg3_sz (x : PepL) (h : ShortP x) : (stg3 x.d (ofL x.k)).2.size ≤ 9223372036854775806 := by
  unfold stg3
  split
  · rw [ofL_size]; exact h.2.2.2.1
  · show (ByteArray.mk #[]).size ≤ _; decide

set_option maxRecDepth 100000 in
set_option maxHeartbeats 4000000 in
theorem order_any (va vb : Value) (x y : PepL) (w : World) (ha : PepAt w va x) (hb : PepAt w vb y) (hx : ShortP x) (hy : ShortP y) :
    Calls Tryz.prog 81 #[va, vb] w fun e w' => e = .returned (.int .i64 (ordP x y)) ∧ Below w.heap.size w w' := by
  obtain ⟨vr, vl, rfl, tr, tl⟩ := ha
  obtain ⟨vr', vl', rfl, tr', tl'⟩ := hb
  obtain ⟨r1, c1, rfl, _⟩ := id tr
  obtain ⟨r2, c2, rfl, _⟩ := id tr'
  obtain ⟨q1, d1, rfl, _⟩ := id tl
  obtain ⟨q2, d2, rfl, _⟩ := id tl'
  have C1 := fun w => Cmp_any (ofL x.ep) (ofL y.ep) w (by rw [ofL_size]; exact hx.1) (by rw [ofL_size]; exact hy.1)
  rw [ofL_data, ofL_data] at C1
  have C2 := fun w (h1 : Txt w (.slice r1 x.rel.length c1) x.rel) (h2 : Txt w (.slice r2 y.rel.length c2) y.rel) => orderParts_cmp _ _ x.rel y.rel ⟨#[48]⟩ w h1 h2 hx.2.2.2.2.1 hy.2.2.2.2.1 (by decide)
  have C3 := fun w => stages_any (ofL x.ep) (.slice r1 x.rel.length c1) x.c (ofL x.n) x.b (ofL x.m) x.d (ofL x.k) (.slice q1 x.loc.length d1) ⟨_, _, _, rfl⟩ ⟨_, _, _, rfl⟩ w
  have C4 := fun w => stages_any (ofL y.ep) (.slice r2 y.rel.length c2) y.c (ofL y.n) y.b (ofL y.m) y.d (ofL y.k) (.slice q2 y.loc.length d2) ⟨_, _, _, rfl⟩ ⟨_, _, _, rfl⟩ w
  have C5 := fun w B C (h1 : StgAt w B _ _ _) (h2 : StgAt w C _ _ _) => orderParts_stg B C (stg1 x.c (ofL x.n) x.b x.d) (stg2 x.b (ofL x.m)) (stg3 x.d (ofL x.k)) (stg1 y.c (ofL y.n) y.b y.d) (stg2 y.b (ofL y.m)) (stg3 y.d (ofL y.k)) 0 ⟨#[]⟩ w h1 h2 (stg1_sz x hx) (stg2_sz x hx) (stg3_sz x hx) (stg1_sz y hy) (stg2_sz y hy) (stg3_sz y hy)
  have C6 := fun w (h1 : Txt w (.slice q1 x.loc.length d1) x.loc) (h2 : Txt w (.slice q2 y.loc.length d2) y.loc) => orderParts_loc _ _ x.loc y.loc ⟨#[]⟩ w h1 h2 hx.2.2.2.2.2 hy.2.2.2.2.2 (by decide)
  have hst : stsO (stg1 x.c (ofL x.n) x.b x.d) (stg2 x.b (ofL x.m)) (stg3 x.d (ofL x.k)) (stg1 y.c (ofL y.n) y.b y.d) (stg2 y.b (ofL y.m)) (stg3 y.d (ofL y.k)) = stL x y := by
    unfold stsO stL
    rw [stg1_st, stg2_st, stg3_st, stg1_st, stg2_st, stg3_st]
  rw [hst] at C5
  change ∀ w, Txt w _ _ → Txt w _ _ → Calls Tryz.prog 107 _ w fun e w' => e = .returned (.int .i64 (padO cmpD [48] x.rel y.rel 0)) ∧ w' = w at C2
  change ∀ w, Txt w _ _ → Txt w _ _ → Calls Tryz.prog 107 _ w fun e w' => e = .returned (.int .i64 (padO locO [] x.loc y.loc 0)) ∧ w' = w at C6
  have HO : Hid (ordP x y = orI [cmpD x.ep y.ep, padO cmpD [48] x.rel y.rel 0, stL x y, padO locO [] x.loc y.loc 0]) := rfl
  have S0 := OB.start tr tr' tl tl'
  unfold pepV at C3 C4 ⊢
  have C1 := hide C1
  have C2 := hide C2
  have C3 := hide C3
  have C4 := hide C4
  have C5 := hide C5
  have C6 := hide C6
  generalize ordP x y = O at *
  generalize cmpD x.ep y.ep = o1 at *
  generalize padO cmpD [48] x.rel y.rel 0 = o2 at *
  generalize stL x y = o3 at *
  generalize padO locO [] x.loc y.loc 0 = o4 at *
  clear tr tr' tl tl' hst
  go_enter Tryz.func81, Tryz.ntmps81
  go_wp2_with fail
  generalize (w.alloc (.cells #[.string (ofL x.ep), .slice r1 x.rel.length c1, .int .u8 x.c, .string (ofL x.n), .bool x.b, .string (ofL x.m), .bool x.d, .string (ofL x.k), .slice q1 x.loc.length d1] 44)).alloc (.cells #[.string (ofL y.ep), .slice r2 y.rel.length c2, .int .u8 y.c, .string (ofL y.n), .bool y.b, .string (ofL y.m), .bool y.d, .string (ofL y.k), .slice q2 y.loc.length d2] 44) = W0 at *
  have D0 := S0.drew
  obtain ⟨s0, s1, s2, s3, s4, s5, s6, s7, s8, s9, s10, s11, s12, s13, s14, s15, s16, s17⟩ := S0.seen
  go_region_held3 (fun w' => w'.cell? ⟨w.heap.size, 0, none⟩ = some (.string (ofL x.ep)) ∧ w'.cell? ⟨w.heap.size, 1, none⟩ = some (.slice r1 x.rel.length c1) ∧ w'.cell? ⟨w.heap.size, 2, none⟩ = some (.int .u8 x.c) ∧ w'.cell? ⟨w.heap.size, 3, none⟩ = some (.string (ofL x.n)) ∧ w'.cell? ⟨w.heap.size, 4, none⟩ = some (.bool x.b) ∧ w'.cell? ⟨w.heap.size, 5, none⟩ = some (.string (ofL x.m)) ∧ w'.cell? ⟨w.heap.size, 6, none⟩ = some (.bool x.d) ∧ w'.cell? ⟨w.heap.size, 7, none⟩ = some (.string (ofL x.k)) ∧ w'.cell? ⟨w.heap.size, 8, none⟩ = some (.slice q1 x.loc.length d1) ∧ w'.cell? ⟨w.heap.size + 1, 0, none⟩ = some (.string (ofL y.ep)) ∧ w'.cell? ⟨w.heap.size + 1, 1, none⟩ = some (.slice r2 y.rel.length c2) ∧ w'.cell? ⟨w.heap.size + 1, 2, none⟩ = some (.int .u8 y.c) ∧ w'.cell? ⟨w.heap.size + 1, 3, none⟩ = some (.string (ofL y.n)) ∧ w'.cell? ⟨w.heap.size + 1, 4, none⟩ = some (.bool y.b) ∧ w'.cell? ⟨w.heap.size + 1, 5, none⟩ = some (.string (ofL y.m)) ∧ w'.cell? ⟨w.heap.size + 1, 6, none⟩ = some (.bool y.d) ∧ w'.cell? ⟨w.heap.size + 1, 7, none⟩ = some (.string (ofL y.k)) ∧ w'.cell? ⟨w.heap.size + 1, 8, none⟩ = some (.slice q2 y.loc.length d2))
    (go_keep)
    ((first
      | (have hq := Q6; go_at_call 105; refine (Or_any _ [o1, o2, o3, o4] 4 rfl _ (by
          intro i hi
          match i, hi with
          | 0, _ => go_simp
          | 1, _ => go_simp
          | 2, _ => go_simp
          | 3, _ => go_simp) (by omega)).mono ?_; rintro e w9 ⟨rfl, hw9⟩; rw [hw9]; clear hw9 w9)
      | (have hq := Q5; go_at_call 107; refine (C6.out _ Q5.la Q5.lb).mono ?_; rintro e w6 ⟨rfl, hw6⟩; rw [hw6]; clear hw6 w6; have Q6 := Q5)
      | (have hq := Q4; go_at_call 108; refine (C5.out _ _ _ (u1.below b4) u2).mono ?_; rintro e w5 ⟨rfl, b5⟩; have Q5 := Q4.next b5; obtain ⟨j0, j1, j2, j3, j4, j5, j6, j7, j8, j9, j10, j11, j12, j13, j14, j15, j16, j17⟩ := Q5.seen)
      | (have hq := Q3; go_at_call 109; refine (C4.out _).mono ?_; rintro e w4 ⟨B2, rfl, g2, u2, b4⟩; have Q4 := Q3.next b4; obtain ⟨i0, i1, i2, i3, i4, i5, i6, i7, i8, i9, i10, i11, i12, i13, i14, i15, i16, i17⟩ := Q4.seen)
      | (have hq := Q2; go_at_call 109; refine (C3.out _).mono ?_; rintro e w3 ⟨B1, rfl, g1, u1, b3⟩; have Q3 := Q2.next b3; obtain ⟨h0, h1, h2, h3, h4, h5, h6, h7, h8, h9, h10, h11, h12, h13, h14, h15, h16, h17⟩ := Q3.seen)
      | (have hq := Q1; go_at_call 107; refine (C2.out _ Q1.ra Q1.rb).mono ?_; rintro e w2 ⟨rfl, hw2⟩; rw [hw2]; clear hw2 w2; have Q2 := Q1)
      | (go_at_call 106; refine (C1.out _).mono ?_; rintro e w1 ⟨rfl, hw1⟩; rw [hw1]; clear hw1 w1; have Q1 := D0; obtain ⟨f0, f1, f2, f3, f4, f5, f6, f7, f8, f9, f10, f11, f12, f13, f14, f15, f16, f17⟩ := Q1.seen)
      | fail))
  go_wp2_with fail
  go_ret
  exact ⟨ret_i HO.out.symm, Q6.bel.alloc Q6.bel.size _⟩

end Go.Proofs.YtabmfdedbpmfmaaGreat
