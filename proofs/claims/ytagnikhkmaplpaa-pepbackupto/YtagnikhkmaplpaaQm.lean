/-
  Walks: the texts of fit versions (an epoch, no pre-release).
-/
import Derived.Test.YtagnikhkmaplpaaQj
namespace Go.Proofs.Ytagnikhkmaplpaa
open Go.RowKit Go.Shelf
set_option linter.unusedVariables false

set_option maxRecDepth 100000 in
set_option maxHeartbeats 4000000 in
theorem Text_e0000 (x : PepL) (r1 q1 : Option Addr) (c1 d1 : Nat) (w : World) (rr : Txt w (.slice r1 x.rel.length c1) x.rel) (ll : Txt w (.slice q1 x.loc.length d1) x.loc) (k1 : x.rel.length ≤ c1) (k2 : x.loc.length ≤ d1) (hx : SmallP x) (hf : FitT x) (he : x.ep ≠ [48]) (hc : x.c = 0) (hb : x.b = false) (hd : x.d = false) (hl : x.loc = []) :
    Calls Try.prog 11 #[.agg #[.string (ofL x.ep), .slice r1 x.rel.length c1, .int .u8 x.c, .string (ofL x.n), .bool x.b, .string (ofL x.m), .bool x.d, .string (ofL x.k), .slice q1 x.loc.length d1]] w fun e w' => e = .returned (.string (ofL (textP x))) ∧ Below w.heap.size w w' := by
  have F := fun w rr ll => Fit_true x r1 q1 c1 d1 w rr ll hx hf
  have J1 := fun w h => Join_any (.slice r1 x.rel.length c1) x.rel w h (by rintro a n c h; cases h; exact k1) (by have := lenI_small hx.r; omega)
  have hlb : ¬ (0 : Int) < (x.loc.length : Int) := by rw [hl]; simp
  have heb := eq48' x.ep false (by simpa using he)
  have S0 := TB.start rr ll
  have z1 := hx.e
  have z2 := hx.n
  have z3 := hx.m
  have z3' := hx.k
  have z4 := Nat.le_trans (joinL_len x.rel) (lenI_small hx.r)
  have z5 := Nat.le_trans (joinL_len x.loc) (lenI_small hx.l)
  have o1 := ofL_size x.ep
  have o2 := ofL_size x.n
  have o3 := ofL_size x.m
  have o6 := ofL_size x.k
  have o4 := ofL_size (joinL x.rel)
  have o5 := ofL_size (joinL x.loc)
  have jd := ofL_data (joinL x.rel)
  obtain ⟨u1, T0, a0, g0, s0, s0', d0'⟩ : ∃ u1 T0 : ByteArray, ofL x.ep ++ ⟨#[33]⟩ = u1 ∧ u1 ++ ofL (joinL x.rel) = T0 ∧ u1.size = x.ep.length + 1 ∧ T0.size = x.ep.length + 1 + (joinL x.rel).length ∧ T0.data.toList = x.ep ++ [33] ++ joinL x.rel := by
    obtain ⟨u1, e1, s1, d1⟩ := cat_step (ofL x.ep) ⟨#[33]⟩
    obtain ⟨u2, e2, s2, d2⟩ := cat_step u1 (ofL (joinL x.rel))
    exact ⟨u1, u2, e1, e2, by rw [s1, ofL_size]; rfl, by rw [s2, s1, ofL_size, ofL_size]; rfl, by rw [d2, d1, ofL_data, ofL_data]⟩
  have D0 : T0.data.toList = baseL x.ep x.rel := by rw [d0']; unfold baseL; rw [if_neg he]
  generalize ofL (joinL x.rel) = JB at *
  have y0 : T0.size ≤ 5100 := by omega
  have y0' : u1.size ≤ 5100 := by omega
  clear d0' s0 s0'
  have D1 : preT x = [] := by unfold preT; rw [if_pos hc]
  have D2 : postT x = [] := by unfold postT; rw [hb]; rfl
  have D3 : devT x = [] := by unfold devT; rw [hd]; rfl
  have D4 : locT x = [] := by unfold locT; rw [if_pos hl]
  have HL : Hid (T0 = ofL (textP x)) := by
    show _ = _
    apply ba_ext
    rw [ofL_data, D0]
    unfold textP tailT
    rw [D1, D2, D3, D4]
    simp
  have F := hide F
  have J1 := hide J1
  have HC := hide hc
  have HB := hide hb
  have HD := hide hd
  clear he hl hc hb hd D0 D1 D2 D3 D4 jd hf hx
  go_enter Try.func11, Try.ntmps11
  go_wp2_with fail
  generalize w.alloc (.cells #[.string (ofL x.ep), .slice r1 x.rel.length c1, .int .u8 x.c, .string (ofL x.n), .bool x.b, .string (ofL x.m), .bool x.d, .string (ofL x.k), .slice q1 x.loc.length d1] 25) = W0 at *
  obtain ⟨s0, s1, s2, s3, s4, s5, s6, s7, s8⟩ := S0.seen
  refine (F.out _ S0.rr S0.ll).mono ?_
  rintro e' v1 ⟨rfl, b1⟩
  have S1 := S0.next b1
  obtain ⟨t0, t1, t2, t3, t4, t5, t6, t7, t8⟩ := S1.seen
  rw [HC.out] at t2
  rw [HB.out] at t4
  rw [HD.out] at t6
  go_wp2_with fail
  refine (J1.out _ S1.rr).mono ?_
  rintro e' v2 ⟨rfl, b2⟩
  have S2 := S1.next b2
  obtain ⟨i0, i1, i2, i3, i4, i5, i6, i7, i8⟩ := S2.seen
  rw [HC.out] at i2
  rw [HB.out] at i4
  rw [HD.out] at i6
  go_wp2_with fail
  go_ret
  exact ⟨ret_s (by first | exact HL.out | rw [← HL.out]), S2.bel⟩

set_option maxRecDepth 100000 in
set_option maxHeartbeats 4000000 in
theorem Text_e0001 (x : PepL) (r1 q1 : Option Addr) (c1 d1 : Nat) (w : World) (rr : Txt w (.slice r1 x.rel.length c1) x.rel) (ll : Txt w (.slice q1 x.loc.length d1) x.loc) (k1 : x.rel.length ≤ c1) (k2 : x.loc.length ≤ d1) (hx : SmallP x) (hf : FitT x) (he : x.ep ≠ [48]) (hc : x.c = 0) (hb : x.b = false) (hd : x.d = false) (hl : x.loc ≠ []) :
    Calls Try.prog 11 #[.agg #[.string (ofL x.ep), .slice r1 x.rel.length c1, .int .u8 x.c, .string (ofL x.n), .bool x.b, .string (ofL x.m), .bool x.d, .string (ofL x.k), .slice q1 x.loc.length d1]] w fun e w' => e = .returned (.string (ofL (textP x))) ∧ Below w.heap.size w w' := by
  have F := fun w rr ll => Fit_true x r1 q1 c1 d1 w rr ll hx hf
  have J1 := fun w h => Join_any (.slice r1 x.rel.length c1) x.rel w h (by rintro a n c h; cases h; exact k1) (by have := lenI_small hx.r; omega)
  have J2 := fun w h => Join_any (.slice q1 x.loc.length d1) x.loc w h (by rintro a n c h; cases h; exact k2) (by have := lenI_small hx.l; omega)
  have hlb : (0 : Int) < (x.loc.length : Int) := by have := List.length_pos_iff.2 hl; omega
  have heb := eq48' x.ep false (by simpa using he)
  have S0 := TB.start rr ll
  have z1 := hx.e
  have z2 := hx.n
  have z3 := hx.m
  have z3' := hx.k
  have z4 := Nat.le_trans (joinL_len x.rel) (lenI_small hx.r)
  have z5 := Nat.le_trans (joinL_len x.loc) (lenI_small hx.l)
  have o1 := ofL_size x.ep
  have o2 := ofL_size x.n
  have o3 := ofL_size x.m
  have o6 := ofL_size x.k
  have o4 := ofL_size (joinL x.rel)
  have o5 := ofL_size (joinL x.loc)
  have jd := ofL_data (joinL x.rel)
  obtain ⟨u1, T0, a0, g0, s0, s0', d0'⟩ : ∃ u1 T0 : ByteArray, ofL x.ep ++ ⟨#[33]⟩ = u1 ∧ u1 ++ ofL (joinL x.rel) = T0 ∧ u1.size = x.ep.length + 1 ∧ T0.size = x.ep.length + 1 + (joinL x.rel).length ∧ T0.data.toList = x.ep ++ [33] ++ joinL x.rel := by
    obtain ⟨u1, e1, s1, d1⟩ := cat_step (ofL x.ep) ⟨#[33]⟩
    obtain ⟨u2, e2, s2, d2⟩ := cat_step u1 (ofL (joinL x.rel))
    exact ⟨u1, u2, e1, e2, by rw [s1, ofL_size]; rfl, by rw [s2, s1, ofL_size, ofL_size]; rfl, by rw [d2, d1, ofL_data, ofL_data]⟩
  have D0 : T0.data.toList = baseL x.ep x.rel := by rw [d0']; unfold baseL; rw [if_neg he]
  generalize ofL (joinL x.rel) = JB at *
  have y0 : T0.size ≤ 5100 := by omega
  have y0' : u1.size ≤ 5100 := by omega
  clear d0' s0 s0'
  have D1 : preT x = [] := by unfold preT; rw [if_pos hc]
  have D2 : postT x = [] := by unfold postT; rw [hb]; rfl
  have D3 : devT x = [] := by unfold devT; rw [hd]; rfl
  obtain ⟨a4, T4, e4, f4, s4, g4, d4⟩ := catB T0 ⟨#[43]⟩ (joinL x.loc)
  have q4 : (⟨#[43]⟩ : ByteArray).size = 1 := rfl
  have D4 : T4.data.toList = T0.data.toList ++ locT x := by rw [d4]; unfold locT; rw [if_neg hl]; rfl
  have y4 : T4.size ≤ 29100 := by omega
  have y4' : a4.size ≤ 6000 := by omega
  clear s4 g4 d4 q4
  have HL : Hid (T4 = ofL (textP x)) := by
    show _ = _
    apply ba_ext
    rw [ofL_data, D4, D0]
    unfold textP tailT
    rw [D1, D2, D3]
    simp
  have F := hide F
  have J1 := hide J1
  have J2 := hide J2
  have HC := hide hc
  have HB := hide hb
  have HD := hide hd
  clear he hl hc hb hd D0 D1 D2 D3 D4 jd hf hx
  go_enter Try.func11, Try.ntmps11
  go_wp2_with fail
  generalize w.alloc (.cells #[.string (ofL x.ep), .slice r1 x.rel.length c1, .int .u8 x.c, .string (ofL x.n), .bool x.b, .string (ofL x.m), .bool x.d, .string (ofL x.k), .slice q1 x.loc.length d1] 25) = W0 at *
  obtain ⟨s0, s1, s2, s3, s4, s5, s6, s7, s8⟩ := S0.seen
  refine (F.out _ S0.rr S0.ll).mono ?_
  rintro e' v1 ⟨rfl, b1⟩
  have S1 := S0.next b1
  obtain ⟨t0, t1, t2, t3, t4, t5, t6, t7, t8⟩ := S1.seen
  rw [HC.out] at t2
  rw [HB.out] at t4
  rw [HD.out] at t6
  go_wp2_with fail
  refine (J1.out _ S1.rr).mono ?_
  rintro e' v2 ⟨rfl, b2⟩
  have S2 := S1.next b2
  obtain ⟨i0, i1, i2, i3, i4, i5, i6, i7, i8⟩ := S2.seen
  rw [HC.out] at i2
  rw [HB.out] at i4
  rw [HD.out] at i6
  go_wp2_with fail
  refine (J2.out _ S2.ll).mono ?_
  rintro e' v4 ⟨rfl, b4⟩
  have S4 := S2.next b4
  go_wp2_with fail
  go_ret
  exact ⟨ret_s (by first | exact HL.out | rw [← HL.out]), S4.bel⟩

set_option maxRecDepth 100000 in
set_option maxHeartbeats 4000000 in
theorem Text_e0010 (x : PepL) (r1 q1 : Option Addr) (c1 d1 : Nat) (w : World) (rr : Txt w (.slice r1 x.rel.length c1) x.rel) (ll : Txt w (.slice q1 x.loc.length d1) x.loc) (k1 : x.rel.length ≤ c1) (k2 : x.loc.length ≤ d1) (hx : SmallP x) (hf : FitT x) (he : x.ep ≠ [48]) (hc : x.c = 0) (hb : x.b = false) (hd : x.d = true) (hl : x.loc = []) :
    Calls Try.prog 11 #[.agg #[.string (ofL x.ep), .slice r1 x.rel.length c1, .int .u8 x.c, .string (ofL x.n), .bool x.b, .string (ofL x.m), .bool x.d, .string (ofL x.k), .slice q1 x.loc.length d1]] w fun e w' => e = .returned (.string (ofL (textP x))) ∧ Below w.heap.size w w' := by
  have F := fun w rr ll => Fit_true x r1 q1 c1 d1 w rr ll hx hf
  have J1 := fun w h => Join_any (.slice r1 x.rel.length c1) x.rel w h (by rintro a n c h; cases h; exact k1) (by have := lenI_small hx.r; omega)
  have hlb : ¬ (0 : Int) < (x.loc.length : Int) := by rw [hl]; simp
  have heb := eq48' x.ep false (by simpa using he)
  have S0 := TB.start rr ll
  have z1 := hx.e
  have z2 := hx.n
  have z3 := hx.m
  have z3' := hx.k
  have z4 := Nat.le_trans (joinL_len x.rel) (lenI_small hx.r)
  have z5 := Nat.le_trans (joinL_len x.loc) (lenI_small hx.l)
  have o1 := ofL_size x.ep
  have o2 := ofL_size x.n
  have o3 := ofL_size x.m
  have o6 := ofL_size x.k
  have o4 := ofL_size (joinL x.rel)
  have o5 := ofL_size (joinL x.loc)
  have jd := ofL_data (joinL x.rel)
  obtain ⟨u1, T0, a0, g0, s0, s0', d0'⟩ : ∃ u1 T0 : ByteArray, ofL x.ep ++ ⟨#[33]⟩ = u1 ∧ u1 ++ ofL (joinL x.rel) = T0 ∧ u1.size = x.ep.length + 1 ∧ T0.size = x.ep.length + 1 + (joinL x.rel).length ∧ T0.data.toList = x.ep ++ [33] ++ joinL x.rel := by
    obtain ⟨u1, e1, s1, d1⟩ := cat_step (ofL x.ep) ⟨#[33]⟩
    obtain ⟨u2, e2, s2, d2⟩ := cat_step u1 (ofL (joinL x.rel))
    exact ⟨u1, u2, e1, e2, by rw [s1, ofL_size]; rfl, by rw [s2, s1, ofL_size, ofL_size]; rfl, by rw [d2, d1, ofL_data, ofL_data]⟩
  have D0 : T0.data.toList = baseL x.ep x.rel := by rw [d0']; unfold baseL; rw [if_neg he]
  generalize ofL (joinL x.rel) = JB at *
  have y0 : T0.size ≤ 5100 := by omega
  have y0' : u1.size ≤ 5100 := by omega
  clear d0' s0 s0'
  have D1 : preT x = [] := by unfold preT; rw [if_pos hc]
  have D2 : postT x = [] := by unfold postT; rw [hb]; rfl
  obtain ⟨a3, T3, e3, f3, s3, g3, d3⟩ := catB T0 ⟨#[46, 100, 101, 118]⟩ x.k
  have q3 : (⟨#[46, 100, 101, 118]⟩ : ByteArray).size = 4 := rfl
  have D3 : T3.data.toList = T0.data.toList ++ devT x := by rw [d3]; unfold devT; rw [hd]; rfl
  have y3 : T3.size ≤ 23100 := by omega
  have y3' : a3.size ≤ 6000 := by omega
  clear s3 g3 d3 q3
  have D4 : locT x = [] := by unfold locT; rw [if_pos hl]
  have HL : Hid (T3 = ofL (textP x)) := by
    show _ = _
    apply ba_ext
    rw [ofL_data, D3, D0]
    unfold textP tailT
    rw [D1, D2, D4]
    simp
  have F := hide F
  have J1 := hide J1
  have HC := hide hc
  have HB := hide hb
  have HD := hide hd
  clear he hl hc hb hd D0 D1 D2 D3 D4 jd hf hx
  go_enter Try.func11, Try.ntmps11
  go_wp2_with fail
  generalize w.alloc (.cells #[.string (ofL x.ep), .slice r1 x.rel.length c1, .int .u8 x.c, .string (ofL x.n), .bool x.b, .string (ofL x.m), .bool x.d, .string (ofL x.k), .slice q1 x.loc.length d1] 25) = W0 at *
  obtain ⟨s0, s1, s2, s3, s4, s5, s6, s7, s8⟩ := S0.seen
  refine (F.out _ S0.rr S0.ll).mono ?_
  rintro e' v1 ⟨rfl, b1⟩
  have S1 := S0.next b1
  obtain ⟨t0, t1, t2, t3, t4, t5, t6, t7, t8⟩ := S1.seen
  rw [HC.out] at t2
  rw [HB.out] at t4
  rw [HD.out] at t6
  go_wp2_with fail
  refine (J1.out _ S1.rr).mono ?_
  rintro e' v2 ⟨rfl, b2⟩
  have S2 := S1.next b2
  obtain ⟨i0, i1, i2, i3, i4, i5, i6, i7, i8⟩ := S2.seen
  rw [HC.out] at i2
  rw [HB.out] at i4
  rw [HD.out] at i6
  go_wp2_with fail
  go_ret
  exact ⟨ret_s (by first | exact HL.out | rw [← HL.out]), S2.bel⟩

set_option maxRecDepth 100000 in
set_option maxHeartbeats 4000000 in
theorem Text_e0011 (x : PepL) (r1 q1 : Option Addr) (c1 d1 : Nat) (w : World) (rr : Txt w (.slice r1 x.rel.length c1) x.rel) (ll : Txt w (.slice q1 x.loc.length d1) x.loc) (k1 : x.rel.length ≤ c1) (k2 : x.loc.length ≤ d1) (hx : SmallP x) (hf : FitT x) (he : x.ep ≠ [48]) (hc : x.c = 0) (hb : x.b = false) (hd : x.d = true) (hl : x.loc ≠ []) :
    Calls Try.prog 11 #[.agg #[.string (ofL x.ep), .slice r1 x.rel.length c1, .int .u8 x.c, .string (ofL x.n), .bool x.b, .string (ofL x.m), .bool x.d, .string (ofL x.k), .slice q1 x.loc.length d1]] w fun e w' => e = .returned (.string (ofL (textP x))) ∧ Below w.heap.size w w' := by
  have F := fun w rr ll => Fit_true x r1 q1 c1 d1 w rr ll hx hf
  have J1 := fun w h => Join_any (.slice r1 x.rel.length c1) x.rel w h (by rintro a n c h; cases h; exact k1) (by have := lenI_small hx.r; omega)
  have J2 := fun w h => Join_any (.slice q1 x.loc.length d1) x.loc w h (by rintro a n c h; cases h; exact k2) (by have := lenI_small hx.l; omega)
  have hlb : (0 : Int) < (x.loc.length : Int) := by have := List.length_pos_iff.2 hl; omega
  have heb := eq48' x.ep false (by simpa using he)
  have S0 := TB.start rr ll
  have z1 := hx.e
  have z2 := hx.n
  have z3 := hx.m
  have z3' := hx.k
  have z4 := Nat.le_trans (joinL_len x.rel) (lenI_small hx.r)
  have z5 := Nat.le_trans (joinL_len x.loc) (lenI_small hx.l)
  have o1 := ofL_size x.ep
  have o2 := ofL_size x.n
  have o3 := ofL_size x.m
  have o6 := ofL_size x.k
  have o4 := ofL_size (joinL x.rel)
  have o5 := ofL_size (joinL x.loc)
  have jd := ofL_data (joinL x.rel)
  obtain ⟨u1, T0, a0, g0, s0, s0', d0'⟩ : ∃ u1 T0 : ByteArray, ofL x.ep ++ ⟨#[33]⟩ = u1 ∧ u1 ++ ofL (joinL x.rel) = T0 ∧ u1.size = x.ep.length + 1 ∧ T0.size = x.ep.length + 1 + (joinL x.rel).length ∧ T0.data.toList = x.ep ++ [33] ++ joinL x.rel := by
    obtain ⟨u1, e1, s1, d1⟩ := cat_step (ofL x.ep) ⟨#[33]⟩
    obtain ⟨u2, e2, s2, d2⟩ := cat_step u1 (ofL (joinL x.rel))
    exact ⟨u1, u2, e1, e2, by rw [s1, ofL_size]; rfl, by rw [s2, s1, ofL_size, ofL_size]; rfl, by rw [d2, d1, ofL_data, ofL_data]⟩
  have D0 : T0.data.toList = baseL x.ep x.rel := by rw [d0']; unfold baseL; rw [if_neg he]
  generalize ofL (joinL x.rel) = JB at *
  have y0 : T0.size ≤ 5100 := by omega
  have y0' : u1.size ≤ 5100 := by omega
  clear d0' s0 s0'
  have D1 : preT x = [] := by unfold preT; rw [if_pos hc]
  have D2 : postT x = [] := by unfold postT; rw [hb]; rfl
  obtain ⟨a3, T3, e3, f3, s3, g3, d3⟩ := catB T0 ⟨#[46, 100, 101, 118]⟩ x.k
  have q3 : (⟨#[46, 100, 101, 118]⟩ : ByteArray).size = 4 := rfl
  have D3 : T3.data.toList = T0.data.toList ++ devT x := by rw [d3]; unfold devT; rw [hd]; rfl
  have y3 : T3.size ≤ 23100 := by omega
  have y3' : a3.size ≤ 6000 := by omega
  clear s3 g3 d3 q3
  obtain ⟨a4, T4, e4, f4, s4, g4, d4⟩ := catB T3 ⟨#[43]⟩ (joinL x.loc)
  have q4 : (⟨#[43]⟩ : ByteArray).size = 1 := rfl
  have D4 : T4.data.toList = T3.data.toList ++ locT x := by rw [d4]; unfold locT; rw [if_neg hl]; rfl
  have y4 : T4.size ≤ 29100 := by omega
  have y4' : a4.size ≤ 6000 := by omega
  clear s4 g4 d4 q4
  have HL : Hid (T4 = ofL (textP x)) := by
    show _ = _
    apply ba_ext
    rw [ofL_data, D4, D3, D0]
    unfold textP tailT
    rw [D1, D2]
    simp
  have F := hide F
  have J1 := hide J1
  have J2 := hide J2
  have HC := hide hc
  have HB := hide hb
  have HD := hide hd
  clear he hl hc hb hd D0 D1 D2 D3 D4 jd hf hx
  go_enter Try.func11, Try.ntmps11
  go_wp2_with fail
  generalize w.alloc (.cells #[.string (ofL x.ep), .slice r1 x.rel.length c1, .int .u8 x.c, .string (ofL x.n), .bool x.b, .string (ofL x.m), .bool x.d, .string (ofL x.k), .slice q1 x.loc.length d1] 25) = W0 at *
  obtain ⟨s0, s1, s2, s3, s4, s5, s6, s7, s8⟩ := S0.seen
  refine (F.out _ S0.rr S0.ll).mono ?_
  rintro e' v1 ⟨rfl, b1⟩
  have S1 := S0.next b1
  obtain ⟨t0, t1, t2, t3, t4, t5, t6, t7, t8⟩ := S1.seen
  rw [HC.out] at t2
  rw [HB.out] at t4
  rw [HD.out] at t6
  go_wp2_with fail
  refine (J1.out _ S1.rr).mono ?_
  rintro e' v2 ⟨rfl, b2⟩
  have S2 := S1.next b2
  obtain ⟨i0, i1, i2, i3, i4, i5, i6, i7, i8⟩ := S2.seen
  rw [HC.out] at i2
  rw [HB.out] at i4
  rw [HD.out] at i6
  go_wp2_with fail
  refine (J2.out _ S2.ll).mono ?_
  rintro e' v4 ⟨rfl, b4⟩
  have S4 := S2.next b4
  go_wp2_with fail
  go_ret
  exact ⟨ret_s (by first | exact HL.out | rw [← HL.out]), S4.bel⟩

set_option maxRecDepth 100000 in
set_option maxHeartbeats 4000000 in
theorem Text_e0100 (x : PepL) (r1 q1 : Option Addr) (c1 d1 : Nat) (w : World) (rr : Txt w (.slice r1 x.rel.length c1) x.rel) (ll : Txt w (.slice q1 x.loc.length d1) x.loc) (k1 : x.rel.length ≤ c1) (k2 : x.loc.length ≤ d1) (hx : SmallP x) (hf : FitT x) (he : x.ep ≠ [48]) (hc : x.c = 0) (hb : x.b = true) (hd : x.d = false) (hl : x.loc = []) :
    Calls Try.prog 11 #[.agg #[.string (ofL x.ep), .slice r1 x.rel.length c1, .int .u8 x.c, .string (ofL x.n), .bool x.b, .string (ofL x.m), .bool x.d, .string (ofL x.k), .slice q1 x.loc.length d1]] w fun e w' => e = .returned (.string (ofL (textP x))) ∧ Below w.heap.size w w' := by
  have F := fun w rr ll => Fit_true x r1 q1 c1 d1 w rr ll hx hf
  have J1 := fun w h => Join_any (.slice r1 x.rel.length c1) x.rel w h (by rintro a n c h; cases h; exact k1) (by have := lenI_small hx.r; omega)
  have hlb : ¬ (0 : Int) < (x.loc.length : Int) := by rw [hl]; simp
  have heb := eq48' x.ep false (by simpa using he)
  have S0 := TB.start rr ll
  have z1 := hx.e
  have z2 := hx.n
  have z3 := hx.m
  have z3' := hx.k
  have z4 := Nat.le_trans (joinL_len x.rel) (lenI_small hx.r)
  have z5 := Nat.le_trans (joinL_len x.loc) (lenI_small hx.l)
  have o1 := ofL_size x.ep
  have o2 := ofL_size x.n
  have o3 := ofL_size x.m
  have o6 := ofL_size x.k
  have o4 := ofL_size (joinL x.rel)
  have o5 := ofL_size (joinL x.loc)
  have jd := ofL_data (joinL x.rel)
  obtain ⟨u1, T0, a0, g0, s0, s0', d0'⟩ : ∃ u1 T0 : ByteArray, ofL x.ep ++ ⟨#[33]⟩ = u1 ∧ u1 ++ ofL (joinL x.rel) = T0 ∧ u1.size = x.ep.length + 1 ∧ T0.size = x.ep.length + 1 + (joinL x.rel).length ∧ T0.data.toList = x.ep ++ [33] ++ joinL x.rel := by
    obtain ⟨u1, e1, s1, d1⟩ := cat_step (ofL x.ep) ⟨#[33]⟩
    obtain ⟨u2, e2, s2, d2⟩ := cat_step u1 (ofL (joinL x.rel))
    exact ⟨u1, u2, e1, e2, by rw [s1, ofL_size]; rfl, by rw [s2, s1, ofL_size, ofL_size]; rfl, by rw [d2, d1, ofL_data, ofL_data]⟩
  have D0 : T0.data.toList = baseL x.ep x.rel := by rw [d0']; unfold baseL; rw [if_neg he]
  generalize ofL (joinL x.rel) = JB at *
  have y0 : T0.size ≤ 5100 := by omega
  have y0' : u1.size ≤ 5100 := by omega
  clear d0' s0 s0'
  have D1 : preT x = [] := by unfold preT; rw [if_pos hc]
  obtain ⟨a2, T2, e2, f2, s2, g2, d2⟩ := catB T0 ⟨#[46, 112, 111, 115, 116]⟩ x.m
  have q2 : (⟨#[46, 112, 111, 115, 116]⟩ : ByteArray).size = 5 := rfl
  have D2 : T2.data.toList = T0.data.toList ++ postT x := by rw [d2]; unfold postT; rw [hb]; rfl
  have y2 : T2.size ≤ 17100 := by omega
  have y2' : a2.size ≤ 6000 := by omega
  clear s2 g2 d2 q2
  have D3 : devT x = [] := by unfold devT; rw [hd]; rfl
  have D4 : locT x = [] := by unfold locT; rw [if_pos hl]
  have HL : Hid (T2 = ofL (textP x)) := by
    show _ = _
    apply ba_ext
    rw [ofL_data, D2, D0]
    unfold textP tailT
    rw [D1, D3, D4]
    simp
  have F := hide F
  have J1 := hide J1
  have HC := hide hc
  have HB := hide hb
  have HD := hide hd
  clear he hl hc hb hd D0 D1 D2 D3 D4 jd hf hx
  go_enter Try.func11, Try.ntmps11
  go_wp2_with fail
  generalize w.alloc (.cells #[.string (ofL x.ep), .slice r1 x.rel.length c1, .int .u8 x.c, .string (ofL x.n), .bool x.b, .string (ofL x.m), .bool x.d, .string (ofL x.k), .slice q1 x.loc.length d1] 25) = W0 at *
  obtain ⟨s0, s1, s2, s3, s4, s5, s6, s7, s8⟩ := S0.seen
  refine (F.out _ S0.rr S0.ll).mono ?_
  rintro e' v1 ⟨rfl, b1⟩
  have S1 := S0.next b1
  obtain ⟨t0, t1, t2, t3, t4, t5, t6, t7, t8⟩ := S1.seen
  rw [HC.out] at t2
  rw [HB.out] at t4
  rw [HD.out] at t6
  go_wp2_with fail
  refine (J1.out _ S1.rr).mono ?_
  rintro e' v2 ⟨rfl, b2⟩
  have S2 := S1.next b2
  obtain ⟨i0, i1, i2, i3, i4, i5, i6, i7, i8⟩ := S2.seen
  rw [HC.out] at i2
  rw [HB.out] at i4
  rw [HD.out] at i6
  go_wp2_with fail
  go_ret
  exact ⟨ret_s (by first | exact HL.out | rw [← HL.out]), S2.bel⟩

set_option maxRecDepth 100000 in
set_option maxHeartbeats 4000000 in
theorem Text_e0101 (x : PepL) (r1 q1 : Option Addr) (c1 d1 : Nat) (w : World) (rr : Txt w (.slice r1 x.rel.length c1) x.rel) (ll : Txt w (.slice q1 x.loc.length d1) x.loc) (k1 : x.rel.length ≤ c1) (k2 : x.loc.length ≤ d1) (hx : SmallP x) (hf : FitT x) (he : x.ep ≠ [48]) (hc : x.c = 0) (hb : x.b = true) (hd : x.d = false) (hl : x.loc ≠ []) :
    Calls Try.prog 11 #[.agg #[.string (ofL x.ep), .slice r1 x.rel.length c1, .int .u8 x.c, .string (ofL x.n), .bool x.b, .string (ofL x.m), .bool x.d, .string (ofL x.k), .slice q1 x.loc.length d1]] w fun e w' => e = .returned (.string (ofL (textP x))) ∧ Below w.heap.size w w' := by
  have F := fun w rr ll => Fit_true x r1 q1 c1 d1 w rr ll hx hf
  have J1 := fun w h => Join_any (.slice r1 x.rel.length c1) x.rel w h (by rintro a n c h; cases h; exact k1) (by have := lenI_small hx.r; omega)
  have J2 := fun w h => Join_any (.slice q1 x.loc.length d1) x.loc w h (by rintro a n c h; cases h; exact k2) (by have := lenI_small hx.l; omega)
  have hlb : (0 : Int) < (x.loc.length : Int) := by have := List.length_pos_iff.2 hl; omega
  have heb := eq48' x.ep false (by simpa using he)
  have S0 := TB.start rr ll
  have z1 := hx.e
  have z2 := hx.n
  have z3 := hx.m
  have z3' := hx.k
  have z4 := Nat.le_trans (joinL_len x.rel) (lenI_small hx.r)
  have z5 := Nat.le_trans (joinL_len x.loc) (lenI_small hx.l)
  have o1 := ofL_size x.ep
  have o2 := ofL_size x.n
  have o3 := ofL_size x.m
  have o6 := ofL_size x.k
  have o4 := ofL_size (joinL x.rel)
  have o5 := ofL_size (joinL x.loc)
  have jd := ofL_data (joinL x.rel)
  obtain ⟨u1, T0, a0, g0, s0, s0', d0'⟩ : ∃ u1 T0 : ByteArray, ofL x.ep ++ ⟨#[33]⟩ = u1 ∧ u1 ++ ofL (joinL x.rel) = T0 ∧ u1.size = x.ep.length + 1 ∧ T0.size = x.ep.length + 1 + (joinL x.rel).length ∧ T0.data.toList = x.ep ++ [33] ++ joinL x.rel := by
    obtain ⟨u1, e1, s1, d1⟩ := cat_step (ofL x.ep) ⟨#[33]⟩
    obtain ⟨u2, e2, s2, d2⟩ := cat_step u1 (ofL (joinL x.rel))
    exact ⟨u1, u2, e1, e2, by rw [s1, ofL_size]; rfl, by rw [s2, s1, ofL_size, ofL_size]; rfl, by rw [d2, d1, ofL_data, ofL_data]⟩
  have D0 : T0.data.toList = baseL x.ep x.rel := by rw [d0']; unfold baseL; rw [if_neg he]
  generalize ofL (joinL x.rel) = JB at *
  have y0 : T0.size ≤ 5100 := by omega
  have y0' : u1.size ≤ 5100 := by omega
  clear d0' s0 s0'
  have D1 : preT x = [] := by unfold preT; rw [if_pos hc]
  obtain ⟨a2, T2, e2, f2, s2, g2, d2⟩ := catB T0 ⟨#[46, 112, 111, 115, 116]⟩ x.m
  have q2 : (⟨#[46, 112, 111, 115, 116]⟩ : ByteArray).size = 5 := rfl
  have D2 : T2.data.toList = T0.data.toList ++ postT x := by rw [d2]; unfold postT; rw [hb]; rfl
  have y2 : T2.size ≤ 17100 := by omega
  have y2' : a2.size ≤ 6000 := by omega
  clear s2 g2 d2 q2
  have D3 : devT x = [] := by unfold devT; rw [hd]; rfl
  obtain ⟨a4, T4, e4, f4, s4, g4, d4⟩ := catB T2 ⟨#[43]⟩ (joinL x.loc)
  have q4 : (⟨#[43]⟩ : ByteArray).size = 1 := rfl
  have D4 : T4.data.toList = T2.data.toList ++ locT x := by rw [d4]; unfold locT; rw [if_neg hl]; rfl
  have y4 : T4.size ≤ 29100 := by omega
  have y4' : a4.size ≤ 6000 := by omega
  clear s4 g4 d4 q4
  have HL : Hid (T4 = ofL (textP x)) := by
    show _ = _
    apply ba_ext
    rw [ofL_data, D4, D2, D0]
    unfold textP tailT
    rw [D1, D3]
    simp
  have F := hide F
  have J1 := hide J1
  have J2 := hide J2
  have HC := hide hc
  have HB := hide hb
  have HD := hide hd
  clear he hl hc hb hd D0 D1 D2 D3 D4 jd hf hx
  go_enter Try.func11, Try.ntmps11
  go_wp2_with fail
  generalize w.alloc (.cells #[.string (ofL x.ep), .slice r1 x.rel.length c1, .int .u8 x.c, .string (ofL x.n), .bool x.b, .string (ofL x.m), .bool x.d, .string (ofL x.k), .slice q1 x.loc.length d1] 25) = W0 at *
  obtain ⟨s0, s1, s2, s3, s4, s5, s6, s7, s8⟩ := S0.seen
  refine (F.out _ S0.rr S0.ll).mono ?_
  rintro e' v1 ⟨rfl, b1⟩
  have S1 := S0.next b1
  obtain ⟨t0, t1, t2, t3, t4, t5, t6, t7, t8⟩ := S1.seen
  rw [HC.out] at t2
  rw [HB.out] at t4
  rw [HD.out] at t6
  go_wp2_with fail
  refine (J1.out _ S1.rr).mono ?_
  rintro e' v2 ⟨rfl, b2⟩
  have S2 := S1.next b2
  obtain ⟨i0, i1, i2, i3, i4, i5, i6, i7, i8⟩ := S2.seen
  rw [HC.out] at i2
  rw [HB.out] at i4
  rw [HD.out] at i6
  go_wp2_with fail
  refine (J2.out _ S2.ll).mono ?_
  rintro e' v4 ⟨rfl, b4⟩
  have S4 := S2.next b4
  go_wp2_with fail
  go_ret
  exact ⟨ret_s (by first | exact HL.out | rw [← HL.out]), S4.bel⟩

set_option maxRecDepth 100000 in
set_option maxHeartbeats 4000000 in
theorem Text_e0110 (x : PepL) (r1 q1 : Option Addr) (c1 d1 : Nat) (w : World) (rr : Txt w (.slice r1 x.rel.length c1) x.rel) (ll : Txt w (.slice q1 x.loc.length d1) x.loc) (k1 : x.rel.length ≤ c1) (k2 : x.loc.length ≤ d1) (hx : SmallP x) (hf : FitT x) (he : x.ep ≠ [48]) (hc : x.c = 0) (hb : x.b = true) (hd : x.d = true) (hl : x.loc = []) :
    Calls Try.prog 11 #[.agg #[.string (ofL x.ep), .slice r1 x.rel.length c1, .int .u8 x.c, .string (ofL x.n), .bool x.b, .string (ofL x.m), .bool x.d, .string (ofL x.k), .slice q1 x.loc.length d1]] w fun e w' => e = .returned (.string (ofL (textP x))) ∧ Below w.heap.size w w' := by
  have F := fun w rr ll => Fit_true x r1 q1 c1 d1 w rr ll hx hf
  have J1 := fun w h => Join_any (.slice r1 x.rel.length c1) x.rel w h (by rintro a n c h; cases h; exact k1) (by have := lenI_small hx.r; omega)
  have hlb : ¬ (0 : Int) < (x.loc.length : Int) := by rw [hl]; simp
  have heb := eq48' x.ep false (by simpa using he)
  have S0 := TB.start rr ll
  have z1 := hx.e
  have z2 := hx.n
  have z3 := hx.m
  have z3' := hx.k
  have z4 := Nat.le_trans (joinL_len x.rel) (lenI_small hx.r)
  have z5 := Nat.le_trans (joinL_len x.loc) (lenI_small hx.l)
  have o1 := ofL_size x.ep
  have o2 := ofL_size x.n
  have o3 := ofL_size x.m
  have o6 := ofL_size x.k
  have o4 := ofL_size (joinL x.rel)
  have o5 := ofL_size (joinL x.loc)
  have jd := ofL_data (joinL x.rel)
  obtain ⟨u1, T0, a0, g0, s0, s0', d0'⟩ : ∃ u1 T0 : ByteArray, ofL x.ep ++ ⟨#[33]⟩ = u1 ∧ u1 ++ ofL (joinL x.rel) = T0 ∧ u1.size = x.ep.length + 1 ∧ T0.size = x.ep.length + 1 + (joinL x.rel).length ∧ T0.data.toList = x.ep ++ [33] ++ joinL x.rel := by
    obtain ⟨u1, e1, s1, d1⟩ := cat_step (ofL x.ep) ⟨#[33]⟩
    obtain ⟨u2, e2, s2, d2⟩ := cat_step u1 (ofL (joinL x.rel))
    exact ⟨u1, u2, e1, e2, by rw [s1, ofL_size]; rfl, by rw [s2, s1, ofL_size, ofL_size]; rfl, by rw [d2, d1, ofL_data, ofL_data]⟩
  have D0 : T0.data.toList = baseL x.ep x.rel := by rw [d0']; unfold baseL; rw [if_neg he]
  generalize ofL (joinL x.rel) = JB at *
  have y0 : T0.size ≤ 5100 := by omega
  have y0' : u1.size ≤ 5100 := by omega
  clear d0' s0 s0'
  have D1 : preT x = [] := by unfold preT; rw [if_pos hc]
  obtain ⟨a2, T2, e2, f2, s2, g2, d2⟩ := catB T0 ⟨#[46, 112, 111, 115, 116]⟩ x.m
  have q2 : (⟨#[46, 112, 111, 115, 116]⟩ : ByteArray).size = 5 := rfl
  have D2 : T2.data.toList = T0.data.toList ++ postT x := by rw [d2]; unfold postT; rw [hb]; rfl
  have y2 : T2.size ≤ 17100 := by omega
  have y2' : a2.size ≤ 6000 := by omega
  clear s2 g2 d2 q2
  obtain ⟨a3, T3, e3, f3, s3, g3, d3⟩ := catB T2 ⟨#[46, 100, 101, 118]⟩ x.k
  have q3 : (⟨#[46, 100, 101, 118]⟩ : ByteArray).size = 4 := rfl
  have D3 : T3.data.toList = T2.data.toList ++ devT x := by rw [d3]; unfold devT; rw [hd]; rfl
  have y3 : T3.size ≤ 23100 := by omega
  have y3' : a3.size ≤ 6000 := by omega
  clear s3 g3 d3 q3
  have D4 : locT x = [] := by unfold locT; rw [if_pos hl]
  have HL : Hid (T3 = ofL (textP x)) := by
    show _ = _
    apply ba_ext
    rw [ofL_data, D3, D2, D0]
    unfold textP tailT
    rw [D1, D4]
    simp
  have F := hide F
  have J1 := hide J1
  have HC := hide hc
  have HB := hide hb
  have HD := hide hd
  clear he hl hc hb hd D0 D1 D2 D3 D4 jd hf hx
  go_enter Try.func11, Try.ntmps11
  go_wp2_with fail
  generalize w.alloc (.cells #[.string (ofL x.ep), .slice r1 x.rel.length c1, .int .u8 x.c, .string (ofL x.n), .bool x.b, .string (ofL x.m), .bool x.d, .string (ofL x.k), .slice q1 x.loc.length d1] 25) = W0 at *
  obtain ⟨s0, s1, s2, s3, s4, s5, s6, s7, s8⟩ := S0.seen
  refine (F.out _ S0.rr S0.ll).mono ?_
  rintro e' v1 ⟨rfl, b1⟩
  have S1 := S0.next b1
  obtain ⟨t0, t1, t2, t3, t4, t5, t6, t7, t8⟩ := S1.seen
  rw [HC.out] at t2
  rw [HB.out] at t4
  rw [HD.out] at t6
  go_wp2_with fail
  refine (J1.out _ S1.rr).mono ?_
  rintro e' v2 ⟨rfl, b2⟩
  have S2 := S1.next b2
  obtain ⟨i0, i1, i2, i3, i4, i5, i6, i7, i8⟩ := S2.seen
  rw [HC.out] at i2
  rw [HB.out] at i4
  rw [HD.out] at i6
  go_wp2_with fail
  go_ret
  exact ⟨ret_s (by first | exact HL.out | rw [← HL.out]), S2.bel⟩

set_option maxRecDepth 100000 in
set_option maxHeartbeats 4000000 in
theorem Text_e0111 (x : PepL) (r1 q1 : Option Addr) (c1 d1 : Nat) (w : World) (rr : Txt w (.slice r1 x.rel.length c1) x.rel) (ll : Txt w (.slice q1 x.loc.length d1) x.loc) (k1 : x.rel.length ≤ c1) (k2 : x.loc.length ≤ d1) (hx : SmallP x) (hf : FitT x) (he : x.ep ≠ [48]) (hc : x.c = 0) (hb : x.b = true) (hd : x.d = true) (hl : x.loc ≠ []) :
    Calls Try.prog 11 #[.agg #[.string (ofL x.ep), .slice r1 x.rel.length c1, .int .u8 x.c, .string (ofL x.n), .bool x.b, .string (ofL x.m), .bool x.d, .string (ofL x.k), .slice q1 x.loc.length d1]] w fun e w' => e = .returned (.string (ofL (textP x))) ∧ Below w.heap.size w w' := by
  have F := fun w rr ll => Fit_true x r1 q1 c1 d1 w rr ll hx hf
  have J1 := fun w h => Join_any (.slice r1 x.rel.length c1) x.rel w h (by rintro a n c h; cases h; exact k1) (by have := lenI_small hx.r; omega)
  have J2 := fun w h => Join_any (.slice q1 x.loc.length d1) x.loc w h (by rintro a n c h; cases h; exact k2) (by have := lenI_small hx.l; omega)
  have hlb : (0 : Int) < (x.loc.length : Int) := by have := List.length_pos_iff.2 hl; omega
  have heb := eq48' x.ep false (by simpa using he)
  have S0 := TB.start rr ll
  have z1 := hx.e
  have z2 := hx.n
  have z3 := hx.m
  have z3' := hx.k
  have z4 := Nat.le_trans (joinL_len x.rel) (lenI_small hx.r)
  have z5 := Nat.le_trans (joinL_len x.loc) (lenI_small hx.l)
  have o1 := ofL_size x.ep
  have o2 := ofL_size x.n
  have o3 := ofL_size x.m
  have o6 := ofL_size x.k
  have o4 := ofL_size (joinL x.rel)
  have o5 := ofL_size (joinL x.loc)
  have jd := ofL_data (joinL x.rel)
  obtain ⟨u1, T0, a0, g0, s0, s0', d0'⟩ : ∃ u1 T0 : ByteArray, ofL x.ep ++ ⟨#[33]⟩ = u1 ∧ u1 ++ ofL (joinL x.rel) = T0 ∧ u1.size = x.ep.length + 1 ∧ T0.size = x.ep.length + 1 + (joinL x.rel).length ∧ T0.data.toList = x.ep ++ [33] ++ joinL x.rel := by
    obtain ⟨u1, e1, s1, d1⟩ := cat_step (ofL x.ep) ⟨#[33]⟩
    obtain ⟨u2, e2, s2, d2⟩ := cat_step u1 (ofL (joinL x.rel))
    exact ⟨u1, u2, e1, e2, by rw [s1, ofL_size]; rfl, by rw [s2, s1, ofL_size, ofL_size]; rfl, by rw [d2, d1, ofL_data, ofL_data]⟩
  have D0 : T0.data.toList = baseL x.ep x.rel := by rw [d0']; unfold baseL; rw [if_neg he]
  generalize ofL (joinL x.rel) = JB at *
  have y0 : T0.size ≤ 5100 := by omega
  have y0' : u1.size ≤ 5100 := by omega
  clear d0' s0 s0'
  have D1 : preT x = [] := by unfold preT; rw [if_pos hc]
  obtain ⟨a2, T2, e2, f2, s2, g2, d2⟩ := catB T0 ⟨#[46, 112, 111, 115, 116]⟩ x.m
  have q2 : (⟨#[46, 112, 111, 115, 116]⟩ : ByteArray).size = 5 := rfl
  have D2 : T2.data.toList = T0.data.toList ++ postT x := by rw [d2]; unfold postT; rw [hb]; rfl
  have y2 : T2.size ≤ 17100 := by omega
  have y2' : a2.size ≤ 6000 := by omega
  clear s2 g2 d2 q2
  obtain ⟨a3, T3, e3, f3, s3, g3, d3⟩ := catB T2 ⟨#[46, 100, 101, 118]⟩ x.k
  have q3 : (⟨#[46, 100, 101, 118]⟩ : ByteArray).size = 4 := rfl
  have D3 : T3.data.toList = T2.data.toList ++ devT x := by rw [d3]; unfold devT; rw [hd]; rfl
  have y3 : T3.size ≤ 23100 := by omega
  have y3' : a3.size ≤ 6000 := by omega
  clear s3 g3 d3 q3
  obtain ⟨a4, T4, e4, f4, s4, g4, d4⟩ := catB T3 ⟨#[43]⟩ (joinL x.loc)
  have q4 : (⟨#[43]⟩ : ByteArray).size = 1 := rfl
  have D4 : T4.data.toList = T3.data.toList ++ locT x := by rw [d4]; unfold locT; rw [if_neg hl]; rfl
  have y4 : T4.size ≤ 29100 := by omega
  have y4' : a4.size ≤ 6000 := by omega
  clear s4 g4 d4 q4
  have HL : Hid (T4 = ofL (textP x)) := by
    show _ = _
    apply ba_ext
    rw [ofL_data, D4, D3, D2, D0]
    unfold textP tailT
    rw [D1]
    simp
  have F := hide F
  have J1 := hide J1
  have J2 := hide J2
  have HC := hide hc
  have HB := hide hb
  have HD := hide hd
  clear he hl hc hb hd D0 D1 D2 D3 D4 jd hf hx
  go_enter Try.func11, Try.ntmps11
  go_wp2_with fail
  generalize w.alloc (.cells #[.string (ofL x.ep), .slice r1 x.rel.length c1, .int .u8 x.c, .string (ofL x.n), .bool x.b, .string (ofL x.m), .bool x.d, .string (ofL x.k), .slice q1 x.loc.length d1] 25) = W0 at *
  obtain ⟨s0, s1, s2, s3, s4, s5, s6, s7, s8⟩ := S0.seen
  refine (F.out _ S0.rr S0.ll).mono ?_
  rintro e' v1 ⟨rfl, b1⟩
  have S1 := S0.next b1
  obtain ⟨t0, t1, t2, t3, t4, t5, t6, t7, t8⟩ := S1.seen
  rw [HC.out] at t2
  rw [HB.out] at t4
  rw [HD.out] at t6
  go_wp2_with fail
  refine (J1.out _ S1.rr).mono ?_
  rintro e' v2 ⟨rfl, b2⟩
  have S2 := S1.next b2
  obtain ⟨i0, i1, i2, i3, i4, i5, i6, i7, i8⟩ := S2.seen
  rw [HC.out] at i2
  rw [HB.out] at i4
  rw [HD.out] at i6
  go_wp2_with fail
  refine (J2.out _ S2.ll).mono ?_
  rintro e' v4 ⟨rfl, b4⟩
  have S4 := S2.next b4
  go_wp2_with fail
  go_ret
  exact ⟨ret_s (by first | exact HL.out | rw [← HL.out]), S4.bel⟩

end Go.Proofs.Ytagnikhkmaplpaa
