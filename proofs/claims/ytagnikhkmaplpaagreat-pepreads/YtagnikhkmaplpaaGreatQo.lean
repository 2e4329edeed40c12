/-
  Walks: the texts of fit versions (no epoch, no pre-release).
-/
import Derived.Test.YtagnikhkmaplpaaGreatQj
import Derived.Test.YtagnikhkmaplpaaGreatPv
namespace Go.Proofs.YtagnikhkmaplpaaGreat
open Go.RowKit Go.Shelf
set_option linter.unusedVariables false

set_option maxRecDepth 100000 in
set_option maxHeartbeats 4000000 in
theorem Text_z0000 (x : PepL) (r1 q1 : Option Addr) (c1 d1 : Nat) (w : World) (rr : Txt w (.slice r1 x.rel.length c1) x.rel) (ll : Txt w (.slice q1 x.loc.length d1) x.loc) (k1 : x.rel.length ≤ c1) (k2 : x.loc.length ≤ d1) (hx : SmallP x) (hf : FitT x) (he : x.ep = [48]) (hc : x.c = 0) (hb : x.b = false) (hd : x.d = false) (hl : x.loc = []) :
    Calls Tryz.prog 16 #[.agg #[.string (ofL x.ep), .slice r1 x.rel.length c1, .int .u8 x.c, .string (ofL x.n), .bool x.b, .string (ofL x.m), .bool x.d, .string (ofL x.k), .slice q1 x.loc.length d1]] w fun e w' => e = .returned (.string (ofL (textP x))) ∧ Below w.heap.size w w' := by
  have F := fun w rr ll => Fit_true x r1 q1 c1 d1 w rr ll hx hf
  have J1 := fun w h => Join_any (.slice r1 x.rel.length c1) x.rel w h (by rintro a n c h; cases h; exact k1) (by have := hx.rI; omega)
  have hlb : ¬ (0 : Int) < (x.loc.length : Int) := by rw [hl]; simp
  have heb := eq48' x.ep true (by rw [he]; rfl)
  have S0 := TB.start rr ll
  have z1 := hx.e
  have z2 := hx.n
  have z3 := hx.m
  have z3' := hx.k
  have z4 := Nat.le_trans (joinL_len x.rel) (hx.rI)
  have z5 := Nat.le_trans (joinL_len x.loc) (hx.lI)
  have o1 := ofL_size x.ep
  have o2 := ofL_size x.n
  have o3 := ofL_size x.m
  have o6 := ofL_size x.k
  have o4 := ofL_size (joinL x.rel)
  have o5 := ofL_size (joinL x.loc)
  have jd := ofL_data (joinL x.rel)
  have D0 : (ofL (joinL x.rel)).data.toList = baseL x.ep x.rel := by rw [jd]; unfold baseL; rw [if_pos he]; rfl
  generalize hT0 : ofL (joinL x.rel) = T0 at *
  clear hT0
  have y0 : T0.size ≤ 5000000 := by omega
  have D1 : preT x = [] := by unfold preT; rw [if_pos hc]
  have D2 : postT x = [] := by unfold postT; rw [hb]; rfl
  have D3 : devT x = [] := by unfold devT; rw [hd]; rfl
  have D4 : locT x = [] := by unfold locT; rw [if_pos hl]
  have HL : Hid (T0 = ofL (textP x)) := by
    show _ = _
    apply ba_ext
    rw [ofL_data, D0]
    unfold textP tailT
    rw [D1, D2, D3, D4]
    simp
  have F := hide F
  have J1 := hide J1
  have HC := hide hc
  have HB := hide hb
  have HD := hide hd
  clear he hl hc hb hd D0 D1 D2 D3 D4 jd hf hx
  go_enter Tryz.func16, Tryz.ntmps16
  go_wp2_with fail
  generalize w.alloc (.cells #[.string (ofL x.ep), .slice r1 x.rel.length c1, .int .u8 x.c, .string (ofL x.n), .bool x.b, .string (ofL x.m), .bool x.d, .string (ofL x.k), .slice q1 x.loc.length d1] 24) = W0 at *
  obtain ⟨s0, s1, s2, s3, s4, s5, s6, s7, s8⟩ := S0.seen
  refine (F.out _ S0.rr S0.ll).mono ?_
  rintro e' v1 ⟨rfl, b1⟩
  have S1 := S0.next b1
  obtain ⟨t0, t1, t2, t3, t4, t5, t6, t7, t8⟩ := S1.seen
  rw [HC.out] at t2
  rw [HB.out] at t4
  rw [HD.out] at t6
  go_wp2_with fail
  refine (J1.out _ S1.rr).mono ?_
  rintro e' v2 ⟨rfl, b2⟩
  have S2 := S1.next b2
  obtain ⟨i0, i1, i2, i3, i4, i5, i6, i7, i8⟩ := S2.seen
  rw [HC.out] at i2
  rw [HB.out] at i4
  rw [HD.out] at i6
  go_wp2_with fail
  go_ret
  exact ⟨ret_s (by first | exact HL.out | rw [← HL.out]), S2.bel⟩

set_option maxRecDepth 100000 in
set_option maxHeartbeats 4000000 in
theorem Text_z0001 (x : PepL) (r1 q1 : Option Addr) (c1 d1 : Nat) (w : World) (rr : Txt w (.slice r1 x.rel.length c1) x.rel) (ll : Txt w (.slice q1 x.loc.length d1) x.loc) (k1 : x.rel.length ≤ c1) (k2 : x.loc.length ≤ d1) (hx : SmallP x) (hf : FitT x) (he : x.ep = [48]) (hc : x.c = 0) (hb : x.b = false) (hd : x.d = false) (hl : x.loc ≠ []) :
    Calls Tryz.prog 16 #[.agg #[.string (ofL x.ep), .slice r1 x.rel.length c1, .int .u8 x.c, .string (ofL x.n), .bool x.b, .string (ofL x.m), .bool x.d, .string (ofL x.k), .slice q1 x.loc.length d1]] w fun e w' => e = .returned (.string (ofL (textP x))) ∧ Below w.heap.size w w' := by
  have F := fun w rr ll => Fit_true x r1 q1 c1 d1 w rr ll hx hf
  have J1 := fun w h => Join_any (.slice r1 x.rel.length c1) x.rel w h (by rintro a n c h; cases h; exact k1) (by have := hx.rI; omega)
  have J2 := fun w h => Join_any (.slice q1 x.loc.length d1) x.loc w h (by rintro a n c h; cases h; exact k2) (by have := hx.lI; omega)
  have hlb : (0 : Int) < (x.loc.length : Int) := by have := List.length_pos_iff.2 hl; omega
  have heb := eq48' x.ep true (by rw [he]; rfl)
  have S0 := TB.start rr ll
  have z1 := hx.e
  have z2 := hx.n
  have z3 := hx.m
  have z3' := hx.k
  have z4 := Nat.le_trans (joinL_len x.rel) (hx.rI)
  have z5 := Nat.le_trans (joinL_len x.loc) (hx.lI)
  have o1 := ofL_size x.ep
  have o2 := ofL_size x.n
  have o3 := ofL_size x.m
  have o6 := ofL_size x.k
  have o4 := ofL_size (joinL x.rel)
  have o5 := ofL_size (joinL x.loc)
  have jd := ofL_data (joinL x.rel)
  have D0 : (ofL (joinL x.rel)).data.toList = baseL x.ep x.rel := by rw [jd]; unfold baseL; rw [if_pos he]; rfl
  generalize hT0 : ofL (joinL x.rel) = T0 at *
  clear hT0
  have y0 : T0.size ≤ 5000000 := by omega
  have D1 : preT x = [] := by unfold preT; rw [if_pos hc]
  have D2 : postT x = [] := by unfold postT; rw [hb]; rfl
  have D3 : devT x = [] := by unfold devT; rw [hd]; rfl
  obtain ⟨a4, T4, e4, f4, s4, g4, d4⟩ := catB T0 ⟨#[43]⟩ (joinL x.loc)
  have q4 : (⟨#[43]⟩ : ByteArray).size = 1 := rfl
  have D4 : T4.data.toList = T0.data.toList ++ locT x := by rw [d4]; unfold locT; rw [if_neg hl]; rfl
  have y4 : T4.size ≤ 29100000 := by omega
  have y4' : a4.size ≤ 6000000 := by omega
  clear s4 g4 d4 q4
  have HL : Hid (T4 = ofL (textP x)) := by
    show _ = _
    apply ba_ext
    rw [ofL_data, D4, D0]
    unfold textP tailT
    rw [D1, D2, D3]
    simp
  have F := hide F
  have J1 := hide J1
  have J2 := hide J2
  have HC := hide hc
  have HB := hide hb
  have HD := hide hd
  clear he hl hc hb hd D0 D1 D2 D3 D4 jd hf hx
  go_enter Tryz.func16, Tryz.ntmps16
  go_wp2_with fail
  generalize w.alloc (.cells #[.string (ofL x.ep), .slice r1 x.rel.length c1, .int .u8 x.c, .string (ofL x.n), .bool x.b, .string (ofL x.m), .bool x.d, .string (ofL x.k), .slice q1 x.loc.length d1] 24) = W0 at *
  obtain ⟨s0, s1, s2, s3, s4, s5, s6, s7, s8⟩ := S0.seen
  refine (F.out _ S0.rr S0.ll).mono ?_
  rintro e' v1 ⟨rfl, b1⟩
  have S1 := S0.next b1
  obtain ⟨t0, t1, t2, t3, t4, t5, t6, t7, t8⟩ := S1.seen
  rw [HC.out] at t2
  rw [HB.out] at t4
  rw [HD.out] at t6
  go_wp2_with fail
  refine (J1.out _ S1.rr).mono ?_
  rintro e' v2 ⟨rfl, b2⟩
  have S2 := S1.next b2
  obtain ⟨i0, i1, i2, i3, i4, i5, i6, i7, i8⟩ := S2.seen
  rw [HC.out] at i2
  rw [HB.out] at i4
  rw [HD.out] at i6
  go_wp2_with fail
  refine (J2.out _ S2.ll).mono ?_
  rintro e' v4 ⟨rfl, b4⟩
  have S4 := S2.next b4
  go_wp2_with fail
  go_ret
  exact ⟨ret_s (by first | exact HL.out | rw [← HL.out]), S4.bel⟩

set_option maxRecDepth 100000 in
set_option maxHeartbeats 4000000 in
theorem Text_z0010 (x : PepL) (r1 q1 : Option Addr) (c1 d1 : Nat) (w : World) (rr : Txt w (.slice r1 x.rel.length c1) x.rel) (ll : Txt w (.slice q1 x.loc.length d1) x.loc) (k1 : x.rel.length ≤ c1) (k2 : x.loc.length ≤ d1) (hx : SmallP x) (hf : FitT x) (he : x.ep = [48]) (hc : x.c = 0) (hb : x.b = false) (hd : x.d = true) (hl : x.loc = []) :
    Calls Tryz.prog 16 #[.agg #[.string (ofL x.ep), .slice r1 x.rel.length c1, .int .u8 x.c, .string (ofL x.n), .bool x.b, .string (ofL x.m), .bool x.d, .string (ofL x.k), .slice q1 x.loc.length d1]] w fun e w' => e = .returned (.string (ofL (textP x))) ∧ Below w.heap.size w w' := by
  have F := fun w rr ll => Fit_true x r1 q1 c1 d1 w rr ll hx hf
  have J1 := fun w h => Join_any (.slice r1 x.rel.length c1) x.rel w h (by rintro a n c h; cases h; exact k1) (by have := hx.rI; omega)
  have hlb : ¬ (0 : Int) < (x.loc.length : Int) := by rw [hl]; simp
  have heb := eq48' x.ep true (by rw [he]; rfl)
  have S0 := TB.start rr ll
  have z1 := hx.e
  have z2 := hx.n
  have z3 := hx.m
  have z3' := hx.k
  have z4 := Nat.le_trans (joinL_len x.rel) (hx.rI)
  have z5 := Nat.le_trans (joinL_len x.loc) (hx.lI)
  have o1 := ofL_size x.ep
  have o2 := ofL_size x.n
  have o3 := ofL_size x.m
  have o6 := ofL_size x.k
  have o4 := ofL_size (joinL x.rel)
  have o5 := ofL_size (joinL x.loc)
  have jd := ofL_data (joinL x.rel)
  have D0 : (ofL (joinL x.rel)).data.toList = baseL x.ep x.rel := by rw [jd]; unfold baseL; rw [if_pos he]; rfl
  generalize hT0 : ofL (joinL x.rel) = T0 at *
  clear hT0
  have y0 : T0.size ≤ 5000000 := by omega
  have D1 : preT x = [] := by unfold preT; rw [if_pos hc]
  have D2 : postT x = [] := by unfold postT; rw [hb]; rfl
  obtain ⟨a3, T3, e3, f3, s3, g3, d3⟩ := catB T0 ⟨#[46, 100, 101, 118]⟩ x.k
  have q3 : (⟨#[46, 100, 101, 118]⟩ : ByteArray).size = 4 := rfl
  have D3 : T3.data.toList = T0.data.toList ++ devT x := by rw [d3]; unfold devT; rw [hd]; rfl
  have y3 : T3.size ≤ 23100000 := by omega
  have y3' : a3.size ≤ 6000000 := by omega
  clear s3 g3 d3 q3
  have D4 : locT x = [] := by unfold locT; rw [if_pos hl]
  have HL : Hid (T3 = ofL (textP x)) := by
    show _ = _
    apply ba_ext
    rw [ofL_data, D3, D0]
    unfold textP tailT
    rw [D1, D2, D4]
    simp
  have F := hide F
  have J1 := hide J1
  have HC := hide hc
  have HB := hide hb
  have HD := hide hd
  clear he hl hc hb hd D0 D1 D2 D3 D4 jd hf hx
  go_enter Tryz.func16, Tryz.ntmps16
  go_wp2_with fail
  generalize w.alloc (.cells #[.string (ofL x.ep), .slice r1 x.rel.length c1, .int .u8 x.c, .string (ofL x.n), .bool x.b, .string (ofL x.m), .bool x.d, .string (ofL x.k), .slice q1 x.loc.length d1] 24) = W0 at *
  obtain ⟨s0, s1, s2, s3, s4, s5, s6, s7, s8⟩ := S0.seen
  refine (F.out _ S0.rr S0.ll).mono ?_
  rintro e' v1 ⟨rfl, b1⟩
  have S1 := S0.next b1
  obtain ⟨t0, t1, t2, t3, t4, t5, t6, t7, t8⟩ := S1.seen
  rw [HC.out] at t2
  rw [HB.out] at t4
  rw [HD.out] at t6
  go_wp2_with fail
  refine (J1.out _ S1.rr).mono ?_
  rintro e' v2 ⟨rfl, b2⟩
  have S2 := S1.next b2
  obtain ⟨i0, i1, i2, i3, i4, i5, i6, i7, i8⟩ := S2.seen
  rw [HC.out] at i2
  rw [HB.out] at i4
  rw [HD.out] at i6
  go_wp2_with fail
  go_ret
  exact ⟨ret_s (by first | exact HL.out | rw [← HL.out]), S2.bel⟩

set_option maxRecDepth 100000 in
set_option maxHeartbeats 4000000 in
theorem Text_z0011 (x : PepL) (r1 q1 : Option Addr) (c1 d1 : Nat) (w : World) (rr : Txt w (.slice r1 x.rel.length c1) x.rel) (ll : Txt w (.slice q1 x.loc.length d1) x.loc) (k1 : x.rel.length ≤ c1) (k2 : x.loc.length ≤ d1) (hx : SmallP x) (hf : FitT x) (he : x.ep = [48]) (hc : x.c = 0) (hb : x.b = false) (hd : x.d = true) (hl : x.loc ≠ []) :
    Calls Tryz.prog 16 #[.agg #[.string (ofL x.ep), .slice r1 x.rel.length c1, .int .u8 x.c, .string (ofL x.n), .bool x.b, .string (ofL x.m), .bool x.d, .string (ofL x.k), .slice q1 x.loc.length d1]] w fun e w' => e = .returned (.string (ofL (textP x))) ∧ Below w.heap.size w w' := by
  have F := fun w rr ll => Fit_true x r1 q1 c1 d1 w rr ll hx hf
  have J1 := fun w h => Join_any (.slice r1 x.rel.length c1) x.rel w h (by rintro a n c h; cases h; exact k1) (by have := hx.rI; omega)
  have J2 := fun w h => Join_any (.slice q1 x.loc.length d1) x.loc w h (by rintro a n c h; cases h; exact k2) (by have := hx.lI; omega)
  have hlb : (0 : Int) < (x.loc.length : Int) := by have := List.length_pos_iff.2 hl; omega
  have heb := eq48' x.ep true (by rw [he]; rfl)
  have S0 := TB.start rr ll
  have z1 := hx.e
  have z2 := hx.n
  have z3 := hx.m
  have z3' := hx.k
  have z4 := Nat.le_trans (joinL_len x.rel) (hx.rI)
  have z5 := Nat.le_trans (joinL_len x.loc) (hx.lI)
  have o1 := ofL_size x.ep
  have o2 := ofL_size x.n
  have o3 := ofL_size x.m
  have o6 := ofL_size x.k
  have o4 := ofL_size (joinL x.rel)
  have o5 := ofL_size (joinL x.loc)
  have jd := ofL_data (joinL x.rel)
  have D0 : (ofL (joinL x.rel)).data.toList = baseL x.ep x.rel := by rw [jd]; unfold baseL; rw [if_pos he]; rfl
  generalize hT0 : ofL (joinL x.rel) = T0 at *
  clear hT0
  have y0 : T0.size ≤ 5000000 := by omega
  have D1 : preT x = [] := by unfold preT; rw [if_pos hc]
  have D2 : postT x = [] := by unfold postT; rw [hb]; rfl
  obtain ⟨a3, T3, e3, f3, s3, g3, d3⟩ := catB T0 ⟨#[46, 100, 101, 118]⟩ x.k
  have q3 : (⟨#[46, 100, 101, 118]⟩ : ByteArray).size = 4 := rfl
  have D3 : T3.data.toList = T0.data.toList ++ devT x := by rw [d3]; unfold devT; rw [hd]; rfl
  have y3 : T3.size ≤ 23100000 := by omega
  have y3' : a3.size ≤ 6000000 := by omega
  clear s3 g3 d3 q3
  obtain ⟨a4, T4, e4, f4, s4, g4, d4⟩ := catB T3 ⟨#[43]⟩ (joinL x.loc)
  have q4 : (⟨#[43]⟩ : ByteArray).size = 1 := rfl
  have D4 : T4.data.toList = T3.data.toList ++ locT x := by rw [d4]; unfold locT; rw [if_neg hl]; rfl
  have y4 : T4.size ≤ 29100000 := by omega
  have y4' : a4.size ≤ 6000000 := by omega
  clear s4 g4 d4 q4
  have HL : Hid (T4 = ofL (textP x)) := by
    show _ = _
    apply ba_ext
    rw [ofL_data, D4, D3, D0]
    unfold textP tailT
    rw [D1, D2]
    simp
  have F := hide F
  have J1 := hide J1
  have J2 := hide J2
  have HC := hide hc
  have HB := hide hb
  have HD := hide hd
  clear he hl hc hb hd D0 D1 D2 D3 D4 jd hf hx
  go_enter Tryz.func16, Tryz.ntmps16
  go_wp2_with fail
  generalize w.alloc (.cells #[.string (ofL x.ep), .slice r1 x.rel.length c1, .int .u8 x.c, .string (ofL x.n), .bool x.b, .string (ofL x.m), .bool x.d, .string (ofL x.k), .slice q1 x.loc.length d1] 24) = W0 at *
  obtain ⟨s0, s1, s2, s3, s4, s5, s6, s7, s8⟩ := S0.seen
  refine (F.out _ S0.rr S0.ll).mono ?_
  rintro e' v1 ⟨rfl, b1⟩
  have S1 := S0.next b1
  obtain ⟨t0, t1, t2, t3, t4, t5, t6, t7, t8⟩ := S1.seen
  rw [HC.out] at t2
  rw [HB.out] at t4
  rw [HD.out] at t6
  go_wp2_with fail
  refine (J1.out _ S1.rr).mono ?_
  rintro e' v2 ⟨rfl, b2⟩
  have S2 := S1.next b2
  obtain ⟨i0, i1, i2, i3, i4, i5, i6, i7, i8⟩ := S2.seen
  rw [HC.out] at i2
  rw [HB.out] at i4
  rw [HD.out] at i6
  go_wp2_with fail
  refine (J2.out _ S2.ll).mono ?_
  rintro e' v4 ⟨rfl, b4⟩
  have S4 := S2.next b4
  go_wp2_with fail
  go_ret
  exact ⟨ret_s (by first | exact HL.out | rw [← HL.out]), S4.bel⟩

set_option maxRecDepth 100000 in
set_option maxHeartbeats 4000000 in
theorem Text_z0100 (x : PepL) (r1 q1 : Option Addr) (c1 d1 : Nat) (w : World) (rr : Txt w (.slice r1 x.rel.length c1) x.rel) (ll : Txt w (.slice q1 x.loc.length d1) x.loc) (k1 : x.rel.length ≤ c1) (k2 : x.loc.length ≤ d1) (hx : SmallP x) (hf : FitT x) (he : x.ep = [48]) (hc : x.c = 0) (hb : x.b = true) (hd : x.d = false) (hl : x.loc = []) :
    Calls Tryz.prog 16 #[.agg #[.string (ofL x.ep), .slice r1 x.rel.length c1, .int .u8 x.c, .string (ofL x.n), .bool x.b, .string (ofL x.m), .bool x.d, .string (ofL x.k), .slice q1 x.loc.length d1]] w fun e w' => e = .returned (.string (ofL (textP x))) ∧ Below w.heap.size w w' := by
  have F := fun w rr ll => Fit_true x r1 q1 c1 d1 w rr ll hx hf
  have J1 := fun w h => Join_any (.slice r1 x.rel.length c1) x.rel w h (by rintro a n c h; cases h; exact k1) (by have := hx.rI; omega)
  have hlb : ¬ (0 : Int) < (x.loc.length : Int) := by rw [hl]; simp
  have heb := eq48' x.ep true (by rw [he]; rfl)
  have S0 := TB.start rr ll
  have z1 := hx.e
  have z2 := hx.n
  have z3 := hx.m
  have z3' := hx.k
  have z4 := Nat.le_trans (joinL_len x.rel) (hx.rI)
  have z5 := Nat.le_trans (joinL_len x.loc) (hx.lI)
  have o1 := ofL_size x.ep
  have o2 := ofL_size x.n
  have o3 := ofL_size x.m
  have o6 := ofL_size x.k
  have o4 := ofL_size (joinL x.rel)
  have o5 := ofL_size (joinL x.loc)
  have jd := ofL_data (joinL x.rel)
  have D0 : (ofL (joinL x.rel)).data.toList = baseL x.ep x.rel := by rw [jd]; unfold baseL; rw [if_pos he]; rfl
  generalize hT0 : ofL (joinL x.rel) = T0 at *
  clear hT0
  have y0 : T0.size ≤ 5000000 := by omega
  have D1 : preT x = [] := by unfold preT; rw [if_pos hc]
  obtain ⟨a2, T2, e2, f2, s2, g2, d2⟩ := catB T0 ⟨#[46, 112, 111, 115, 116]⟩ x.m
  have q2 : (⟨#[46, 112, 111, 115, 116]⟩ : ByteArray).size = 5 := rfl
  have D2 : T2.data.toList = T0.data.toList ++ postT x := by rw [d2]; unfold postT; rw [hb]; rfl
  have y2 : T2.size ≤ 17100000 := by omega
  have y2' : a2.size ≤ 6000000 := by omega
  clear s2 g2 d2 q2
  have D3 : devT x = [] := by unfold devT; rw [hd]; rfl
  have D4 : locT x = [] := by unfold locT; rw [if_pos hl]
  have HL : Hid (T2 = ofL (textP x)) := by
    show _ = _
    apply ba_ext
    rw [ofL_data, D2, D0]
    unfold textP tailT
    rw [D1, D3, D4]
    simp
  have F := hide F
  have J1 := hide J1
  have HC := hide hc
  have HB := hide hb
  have HD := hide hd
  clear he hl hc hb hd D0 D1 D2 D3 D4 jd hf hx
  go_enter Tryz.func16, Tryz.ntmps16
  go_wp2_with fail
  generalize w.alloc (.cells #[.string (ofL x.ep), .slice r1 x.rel.length c1, .int .u8 x.c, .string (ofL x.n), .bool x.b, .string (ofL x.m), .bool x.d, .string (ofL x.k), .slice q1 x.loc.length d1] 24) = W0 at *
  obtain ⟨s0, s1, s2, s3, s4, s5, s6, s7, s8⟩ := S0.seen
  refine (F.out _ S0.rr S0.ll).mono ?_
  rintro e' v1 ⟨rfl, b1⟩
  have S1 := S0.next b1
  obtain ⟨t0, t1, t2, t3, t4, t5, t6, t7, t8⟩ := S1.seen
  rw [HC.out] at t2
  rw [HB.out] at t4
  rw [HD.out] at t6
  go_wp2_with fail
  refine (J1.out _ S1.rr).mono ?_
  rintro e' v2 ⟨rfl, b2⟩
  have S2 := S1.next b2
  obtain ⟨i0, i1, i2, i3, i4, i5, i6, i7, i8⟩ := S2.seen
  rw [HC.out] at i2
  rw [HB.out] at i4
  rw [HD.out] at i6
  go_wp2_with fail
  go_ret
  exact ⟨ret_s (by first | exact HL.out | rw [← HL.out]), S2.bel⟩

set_option maxRecDepth 100000 in
set_option maxHeartbeats 4000000 in
theorem Text_z0101 (x : PepL) (r1 q1 : Option Addr) (c1 d1 : Nat) (w : World) (rr : Txt w (.slice r1 x.rel.length c1) x.rel) (ll : Txt w (.slice q1 x.loc.length d1) x.loc) (k1 : x.rel.length ≤ c1) (k2 : x.loc.length ≤ d1) (hx : SmallP x) (hf : FitT x) (he : x.ep = [48]) (hc : x.c = 0) (hb : x.b = true) (hd : x.d = false) (hl : x.loc ≠ []) :
    Calls Tryz.prog 16 #[.agg #[.string (ofL x.ep), .slice r1 x.rel.length c1, .int .u8 x.c, .string (ofL x.n), .bool x.b, .string (ofL x.m), .bool x.d, .string (ofL x.k), .slice q1 x.loc.length d1]] w fun e w' => e = .returned (.string (ofL (textP x))) ∧ Below w.heap.size w w' := by
  have F := fun w rr ll => Fit_true x r1 q1 c1 d1 w rr ll hx hf
  have J1 := fun w h => Join_any (.slice r1 x.rel.length c1) x.rel w h (by rintro a n c h; cases h; exact k1) (by have := hx.rI; omega)
  have J2 := fun w h => Join_any (.slice q1 x.loc.length d1) x.loc w h (by rintro a n c h; cases h; exact k2) (by have := hx.lI; omega)
  have hlb : (0 : Int) < (x.loc.length : Int) := by have := List.length_pos_iff.2 hl; omega
  have heb := eq48' x.ep true (by rw [he]; rfl)
  have S0 := TB.start rr ll
  have z1 := hx.e
  have z2 := hx.n
  have z3 := hx.m
  have z3' := hx.k
  have z4 := Nat.le_trans (joinL_len x.rel) (hx.rI)
  have z5 := Nat.le_trans (joinL_len x.loc) (hx.lI)
  have o1 := ofL_size x.ep
  have o2 := ofL_size x.n
  have o3 := ofL_size x.m
  have o6 := ofL_size x.k
  have o4 := ofL_size (joinL x.rel)
  have o5 := ofL_size (joinL x.loc)
  have jd := ofL_data (joinL x.rel)
  have D0 : (ofL (joinL x.rel)).data.toList = baseL x.ep x.rel := by rw [jd]; unfold baseL; rw [if_pos he]; rfl
  generalize hT0 : ofL (joinL x.rel) = T0 at *
  clear hT0
  have y0 : T0.size ≤ 5000000 := by omega
  have D1 : preT x = [] := by unfold preT; rw [if_pos hc]
  obtain ⟨a2, T2, e2, f2, s2, g2, d2⟩ := catB T0 ⟨#[46, 112, 111, 115, 116]⟩ x.m
  have q2 : (⟨#[46, 112, 111, 115, 116]⟩ : ByteArray).size = 5 := rfl
  have D2 : T2.data.toList = T0.data.toList ++ postT x := by rw [d2]; unfold postT; rw [hb]; rfl
  have y2 : T2.size ≤ 17100000 := by omega
  have y2' : a2.size ≤ 6000000 := by omega
  clear s2 g2 d2 q2
  have D3 : devT x = [] := by unfold devT; rw [hd]; rfl
  obtain ⟨a4, T4, e4, f4, s4, g4, d4⟩ := catB T2 ⟨#[43]⟩ (joinL x.loc)
  have q4 : (⟨#[43]⟩ : ByteArray).size = 1 := rfl
  have D4 : T4.data.toList = T2.data.toList ++ locT x := by rw [d4]; unfold locT; rw [if_neg hl]; rfl
  have y4 : T4.size ≤ 29100000 := by omega
  have y4' : a4.size ≤ 6000000 := by omega
  clear s4 g4 d4 q4
  have HL : Hid (T4 = ofL (textP x)) := by
    show _ = _
    apply ba_ext
    rw [ofL_data, D4, D2, D0]
    unfold textP tailT
    rw [D1, D3]
    simp
  have F := hide F
  have J1 := hide J1
  have J2 := hide J2
  have HC := hide hc
  have HB := hide hb
  have HD := hide hd
  clear he hl hc hb hd D0 D1 D2 D3 D4 jd hf hx
  go_enter Tryz.func16, Tryz.ntmps16
  go_wp2_with fail
  generalize w.alloc (.cells #[.string (ofL x.ep), .slice r1 x.rel.length c1, .int .u8 x.c, .string (ofL x.n), .bool x.b, .string (ofL x.m), .bool x.d, .string (ofL x.k), .slice q1 x.loc.length d1] 24) = W0 at *
  obtain ⟨s0, s1, s2, s3, s4, s5, s6, s7, s8⟩ := S0.seen
  refine (F.out _ S0.rr S0.ll).mono ?_
  rintro e' v1 ⟨rfl, b1⟩
  have S1 := S0.next b1
  obtain ⟨t0, t1, t2, t3, t4, t5, t6, t7, t8⟩ := S1.seen
  rw [HC.out] at t2
  rw [HB.out] at t4
  rw [HD.out] at t6
  go_wp2_with fail
  refine (J1.out _ S1.rr).mono ?_
  rintro e' v2 ⟨rfl, b2⟩
  have S2 := S1.next b2
  obtain ⟨i0, i1, i2, i3, i4, i5, i6, i7, i8⟩ := S2.seen
  rw [HC.out] at i2
  rw [HB.out] at i4
  rw [HD.out] at i6
  go_wp2_with fail
  refine (J2.out _ S2.ll).mono ?_
  rintro e' v4 ⟨rfl, b4⟩
  have S4 := S2.next b4
  go_wp2_with fail
  go_ret
  exact ⟨ret_s (by first | exact HL.out | rw [← HL.out]), S4.bel⟩

set_option maxRecDepth 100000 in
set_option maxHeartbeats 4000000 in
theorem Text_z0110 (x : PepL) (r1 q1 : Option Addr) (c1 d1 : Nat) (w : World) (rr : Txt w (.slice r1 x.rel.length c1) x.rel) (ll : Txt w (.slice q1 x.loc.length d1) x.loc) (k1 : x.rel.length ≤ c1) (k2 : x.loc.length ≤ d1) (hx : SmallP x) (hf : FitT x) (he : x.ep = [48]) (hc : x.c = 0) (hb : x.b = true) (hd : x.d = true) (hl : x.loc = []) :
    Calls Tryz.prog 16 #[.agg #[.string (ofL x.ep), .slice r1 x.rel.length c1, .int .u8 x.c, .string (ofL x.n), .bool x.b, .string (ofL x.m), .bool x.d, .string (ofL x.k), .slice q1 x.loc.length d1]] w fun e w' => e = .returned (.string (ofL (textP x))) ∧ Below w.heap.size w w' := by
  have F := fun w rr ll => Fit_true x r1 q1 c1 d1 w rr ll hx hf
  have J1 := fun w h => Join_any (.slice r1 x.rel.length c1) x.rel w h (by rintro a n c h; cases h; exact k1) (by have := hx.rI; omega)
  have hlb : ¬ (0 : Int) < (x.loc.length : Int) := by rw [hl]; simp
  have heb := eq48' x.ep true (by rw [he]; rfl)
  have S0 := TB.start rr ll
  have z1 := hx.e
  have z2 := hx.n
  have z3 := hx.m
  have z3' := hx.k
  have z4 := Nat.le_trans (joinL_len x.rel) (hx.rI)
  have z5 := Nat.le_trans (joinL_len x.loc) (hx.lI)
  have o1 := ofL_size x.ep
  have o2 := ofL_size x.n
  have o3 := ofL_size x.m
  have o6 := ofL_size x.k
  have o4 := ofL_size (joinL x.rel)
  have o5 := ofL_size (joinL x.loc)
  have jd := ofL_data (joinL x.rel)
  have D0 : (ofL (joinL x.rel)).data.toList = baseL x.ep x.rel := by rw [jd]; unfold baseL; rw [if_pos he]; rfl
  generalize hT0 : ofL (joinL x.rel) = T0 at *
  clear hT0
  have y0 : T0.size ≤ 5000000 := by omega
  have D1 : preT x = [] := by unfold preT; rw [if_pos hc]
  obtain ⟨a2, T2, e2, f2, s2, g2, d2⟩ := catB T0 ⟨#[46, 112, 111, 115, 116]⟩ x.m
  have q2 : (⟨#[46, 112, 111, 115, 116]⟩ : ByteArray).size = 5 := rfl
  have D2 : T2.data.toList = T0.data.toList ++ postT x := by rw [d2]; unfold postT; rw [hb]; rfl
  have y2 : T2.size ≤ 17100000 := by omega
  have y2' : a2.size ≤ 6000000 := by omega
  clear s2 g2 d2 q2
  obtain ⟨a3, T3, e3, f3, s3, g3, d3⟩ := catB T2 ⟨#[46, 100, 101, 118]⟩ x.k
  have q3 : (⟨#[46, 100, 101, 118]⟩ : ByteArray).size = 4 := rfl
  have D3 : T3.data.toList = T2.data.toList ++ devT x := by rw [d3]; unfold devT; rw [hd]; rfl
  have y3 : T3.size ≤ 23100000 := by omega
  have y3' : a3.size ≤ 6000000 := by omega
  clear s3 g3 d3 q3
  have D4 : locT x = [] := by unfold locT; rw [if_pos hl]
  have HL : Hid (T3 = ofL (textP x)) := by
    show _ = _
    apply ba_ext
    rw [ofL_data, D3, D2, D0]
    unfold textP tailT
    rw [D1, D4]
    simp
  have F := hide F
  have J1 := hide J1
  have HC := hide hc
  have HB := hide hb
  have HD := hide hd
  clear he hl hc hb hd D0 D1 D2 D3 D4 jd hf hx
  go_enter Tryz.func16, Tryz.ntmps16
  go_wp2_with fail
  generalize w.alloc (.cells #[.string (ofL x.ep), .slice r1 x.rel.length c1, .int .u8 x.c, .string (ofL x.n), .bool x.b, .string (ofL x.m), .bool x.d, .string (ofL x.k), .slice q1 x.loc.length d1] 24) = W0 at *
  obtain ⟨s0, s1, s2, s3, s4, s5, s6, s7, s8⟩ := S0.seen
  refine (F.out _ S0.rr S0.ll).mono ?_
  rintro e' v1 ⟨rfl, b1⟩
  have S1 := S0.next b1
  obtain ⟨t0, t1, t2, t3, t4, t5, t6, t7, t8⟩ := S1.seen
  rw [HC.out] at t2
  rw [HB.out] at t4
  rw [HD.out] at t6
  go_wp2_with fail
  refine (J1.out _ S1.rr).mono ?_
  rintro e' v2 ⟨rfl, b2⟩
  have S2 := S1.next b2
  obtain ⟨i0, i1, i2, i3, i4, i5, i6, i7, i8⟩ := S2.seen
  rw [HC.out] at i2
  rw [HB.out] at i4
  rw [HD.out] at i6
  go_wp2_with fail
  go_ret
  exact ⟨ret_s (by first | exact HL.out | rw [← HL.out]), S2.bel⟩

set_option maxRecDepth 100000 in
set_option maxHeartbeats 4000000 in
theorem Text_z0111 (x : PepL) (r1 q1 : Option Addr) (c1 d1 : Nat) (w : World) (rr : Txt w (.slice r1 x.rel.length c1) x.rel) (ll : Txt w (.slice q1 x.loc.length d1) x.loc) (k1 : x.rel.length ≤ c1) (k2 : x.loc.length ≤ d1) (hx : SmallP x) (hf : FitT x) (he : x.ep = [48]) (hc : x.c = 0) (hb : x.b = true) (hd : x.d = true) (hl : x.loc ≠ []) :
    Calls Tryz.prog 16 #[.agg #[.string (ofL x.ep), .slice r1 x.rel.length c1, .int .u8 x.c, .string (ofL x.n), .bool x.b, .string (ofL x.m), .bool x.d, .string (ofL x.k), .slice q1 x.loc.length d1]] w fun e w' => e = .returned (.string (ofL (textP x))) ∧ Below w.heap.size w w' := by
  have F := fun w rr ll => Fit_true x r1 q1 c1 d1 w rr ll hx hf
  have J1 := fun w h => Join_any (.slice r1 x.rel.length c1) x.rel w h (by rintro a n c h; cases h; exact k1) (by have := hx.rI; omega)
  have J2 := fun w h => Join_any (.slice q1 x.loc.length d1) x.loc w h (by rintro a n c h; cases h; exact k2) (by have := hx.lI; omega)
  have hlb : (0 : Int) < (x.loc.length : Int) := by have := List.length_pos_iff.2 hl; omega
  have heb := eq48' x.ep true (by rw [he]; rfl)
  have S0 := TB.start rr ll
  have z1 := hx.e
  have z2 := hx.n
  have z3 := hx.m
  have z3' := hx.k
  have z4 := Nat.le_trans (joinL_len x.rel) (hx.rI)
  have z5 := Nat.le_trans (joinL_len x.loc) (hx.lI)
  have o1 := ofL_size x.ep
  have o2 := ofL_size x.n
  have o3 := ofL_size x.m
  have o6 := ofL_size x.k
  have o4 := ofL_size (joinL x.rel)
  have o5 := ofL_size (joinL x.loc)
  have jd := ofL_data (joinL x.rel)
  have D0 : (ofL (joinL x.rel)).data.toList = baseL x.ep x.rel := by rw [jd]; unfold baseL; rw [if_pos he]; rfl
  generalize hT0 : ofL (joinL x.rel) = T0 at *
  clear hT0
  have y0 : T0.size ≤ 5000000 := by omega
  have D1 : preT x = [] := by unfold preT; rw [if_pos hc]
  obtain ⟨a2, T2, e2, f2, s2, g2, d2⟩ := catB T0 ⟨#[46, 112, 111, 115, 116]⟩ x.m
  have q2 : (⟨#[46, 112, 111, 115, 116]⟩ : ByteArray).size = 5 := rfl
  have D2 : T2.data.toList = T0.data.toList ++ postT x := by rw [d2]; unfold postT; rw [hb]; rfl
  have y2 : T2.size ≤ 17100000 := by omega
  have y2' : a2.size ≤ 6000000 := by omega
  clear s2 g2 d2 q2
  obtain ⟨a3, T3, e3, f3, s3, g3, d3⟩ := catB T2 ⟨#[46, 100, 101, 118]⟩ x.k
  have q3 : (⟨#[46, 100, 101, 118]⟩ : ByteArray).size = 4 := rfl
  have D3 : T3.data.toList = T2.data.toList ++ devT x := by rw [d3]; unfold devT; rw [hd]; rfl
  have y3 : T3.size ≤ 23100000 := by omega
  have y3' : a3.size ≤ 6000000 := by omega
  clear s3 g3 d3 q3
  obtain ⟨a4, T4, e4, f4, s4, g4, d4⟩ := catB T3 ⟨#[43]⟩ (joinL x.loc)
  have q4 : (⟨#[43]⟩ : ByteArray).size = 1 := rfl
  have D4 : T4.data.toList = T3.data.toList ++ locT x := by rw [d4]; unfold locT; rw [if_neg hl]; rfl
  have y4 : T4.size ≤ 29100000 := by omega
  have y4' : a4.size ≤ 6000000 := by omega
  clear s4 g4 d4 q4
  have HL : Hid (T4 = ofL (textP x)) := by
    show _ = _
    apply ba_ext
    rw [ofL_data, D4, D3, D2, D0]
    unfold textP tailT
    rw [D1]
    simp
  have F := hide F
  have J1 := hide J1
  have J2 := hide J2
  have HC := hide hc
  have HB := hide hb
  have HD := hide hd
  clear he hl hc hb hd D0 D1 D2 D3 D4 jd hf hx
  go_enter Tryz.func16, Tryz.ntmps16
  go_wp2_with fail
  generalize w.alloc (.cells #[.string (ofL x.ep), .slice r1 x.rel.length c1, .int .u8 x.c, .string (ofL x.n), .bool x.b, .string (ofL x.m), .bool x.d, .string (ofL x.k), .slice q1 x.loc.length d1] 24) = W0 at *
  obtain ⟨s0, s1, s2, s3, s4, s5, s6, s7, s8⟩ := S0.seen
  refine (F.out _ S0.rr S0.ll).mono ?_
  rintro e' v1 ⟨rfl, b1⟩
  have S1 := S0.next b1
  obtain ⟨t0, t1, t2, t3, t4, t5, t6, t7, t8⟩ := S1.seen
  rw [HC.out] at t2
  rw [HB.out] at t4
  rw [HD.out] at t6
  go_wp2_with fail
  refine (J1.out _ S1.rr).mono ?_
  rintro e' v2 ⟨rfl, b2⟩
  have S2 := S1.next b2
  obtain ⟨i0, i1, i2, i3, i4, i5, i6, i7, i8⟩ := S2.seen
  rw [HC.out] at i2
  rw [HB.out] at i4
  rw [HD.out] at i6
  go_wp2_with fail
  refine (J2.out _ S2.ll).mono ?_
  rintro e' v4 ⟨rfl, b4⟩
  have S4 := S2.next b4
  go_wp2_with fail
  go_ret
  exact ⟨ret_s (by first | exact HL.out | rw [← HL.out]), S4.bel⟩

end Go.Proofs.YtagnikhkmaplpaaGreat

/-
  Walks: the texts of fit versions (no epoch, a pre-release).
-/
namespace Go.Proofs.YtagnikhkmaplpaaGreat
open Go.RowKit Go.Shelf
set_option linter.unusedVariables false

set_option maxRecDepth 100000 in
set_option maxHeartbeats 4000000 in
theorem Text_z1000 (x : PepL) (r1 q1 : Option Addr) (c1 d1 : Nat) (w : World) (rr : Txt w (.slice r1 x.rel.length c1) x.rel) (ll : Txt w (.slice q1 x.loc.length d1) x.loc) (k1 : x.rel.length ≤ c1) (k2 : x.loc.length ≤ d1) (hx : SmallP x) (hf : FitT x) (he : x.ep = [48]) (hc : x.c ≠ 0) (hb : x.b = false) (hd : x.d = false) (hl : x.loc = []) :
    Calls Tryz.prog 16 #[.agg #[.string (ofL x.ep), .slice r1 x.rel.length c1, .int .u8 x.c, .string (ofL x.n), .bool x.b, .string (ofL x.m), .bool x.d, .string (ofL x.k), .slice q1 x.loc.length d1]] w fun e w' => e = .returned (.string (ofL (textP x))) ∧ Below w.heap.size w w' := by
  have F := fun w rr ll => Fit_true x r1 q1 c1 d1 w rr ll hx hf
  have J1 := fun w h => Join_any (.slice r1 x.rel.length c1) x.rel w h (by rintro a n c h; cases h; exact k1) (by have := hx.rI; omega)
  have hlb : ¬ (0 : Int) < (x.loc.length : Int) := by rw [hl]; simp
  have heb := eq48' x.ep true (by rw [he]; rfl)
  have S0 := TB.start rr ll
  have z1 := hx.e
  have z2 := hx.n
  have z3 := hx.m
  have z3' := hx.k
  have z4 := Nat.le_trans (joinL_len x.rel) (hx.rI)
  have z5 := Nat.le_trans (joinL_len x.loc) (hx.lI)
  have o1 := ofL_size x.ep
  have o2 := ofL_size x.n
  have o3 := ofL_size x.m
  have o6 := ofL_size x.k
  have o4 := ofL_size (joinL x.rel)
  have o5 := ofL_size (joinL x.loc)
  have jd := ofL_data (joinL x.rel)
  have D0 : (ofL (joinL x.rel)).data.toList = baseL x.ep x.rel := by rw [jd]; unfold baseL; rw [if_pos he]; rfl
  generalize hT0 : ofL (joinL x.rel) = T0 at *
  clear hT0
  have y0 : T0.size ≤ 5000000 := by omega
  obtain ⟨a1, T1, e1, f1, s1, g1, d1⟩ := catB T0 (ofL (preW x.c)) x.n
  have qz1 : (ofL (preW x.c)).size ≤ 2 := by rw [ofL_size]; exact preW_len _
  have D1 : T1.data.toList = T0.data.toList ++ preT x := by rw [d1, ofL_data]; unfold preT; rw [if_neg hc]
  have y1 : T1.size ≤ 11100000 := by omega
  have y1' : a1.size ≤ 6000000 := by omega
  clear s1 g1 d1
  have D2 : postT x = [] := by unfold postT; rw [hb]; rfl
  have D3 : devT x = [] := by unfold devT; rw [hd]; rfl
  have D4 : locT x = [] := by unfold locT; rw [if_pos hl]
  have HL : Hid (T1 = ofL (textP x)) := by
    show _ = _
    apply ba_ext
    rw [ofL_data, D1, D0]
    unfold textP tailT
    rw [D2, D3, D4]
    simp
  have F := hide F
  have J1 := hide J1
  have hcb : (x.c != 0) = true := by simpa using hc
  have PW := hide (fun w => preWord_any x.c (by rcases hf.f4 with h | h | h | h <;> omega) w)
  generalize ofL (preW x.c) = PB at *
  have HB := hide hb
  have HD := hide hd
  clear he hl hc hb hd D0 D1 D2 D3 D4 jd hf hx
  go_enter Tryz.func16, Tryz.ntmps16
  go_wp2_with fail
  generalize w.alloc (.cells #[.string (ofL x.ep), .slice r1 x.rel.length c1, .int .u8 x.c, .string (ofL x.n), .bool x.b, .string (ofL x.m), .bool x.d, .string (ofL x.k), .slice q1 x.loc.length d1] 24) = W0 at *
  obtain ⟨s0, s1, s2, s3, s4, s5, s6, s7, s8⟩ := S0.seen
  refine (F.out _ S0.rr S0.ll).mono ?_
  rintro e' v1 ⟨rfl, b1⟩
  have S1 := S0.next b1
  obtain ⟨t0, t1, t2, t3, t4, t5, t6, t7, t8⟩ := S1.seen
  rw [HB.out] at t4
  rw [HD.out] at t6
  go_wp2_with fail
  refine (J1.out _ S1.rr).mono ?_
  rintro e' v2 ⟨rfl, b2⟩
  have S2 := S1.next b2
  obtain ⟨i0, i1, i2, i3, i4, i5, i6, i7, i8⟩ := S2.seen
  rw [HB.out] at i4
  rw [HD.out] at i6
  go_wp2_with fail
  have D2 := S2.next (Below.refl _ v2).drew
  go_region_with (go_at_call 47; refine (PW.out _).mono ?_; rintro e' v3 ⟨rfl, b3⟩; have S3 := D2.next b3; obtain ⟨j0, j1, j2, j3, j4, j5, j6, j7, j8⟩ := S3.seen; rw [HB.out] at j4; rw [HD.out] at j6)
  all_goals go_wp2_with fail
  all_goals go_ret
  all_goals exact ⟨ret_s (by first | exact HL.out | rw [← HL.out]), S3.bel⟩

set_option maxRecDepth 100000 in
set_option maxHeartbeats 4000000 in
theorem Text_z1001 (x : PepL) (r1 q1 : Option Addr) (c1 d1 : Nat) (w : World) (rr : Txt w (.slice r1 x.rel.length c1) x.rel) (ll : Txt w (.slice q1 x.loc.length d1) x.loc) (k1 : x.rel.length ≤ c1) (k2 : x.loc.length ≤ d1) (hx : SmallP x) (hf : FitT x) (he : x.ep = [48]) (hc : x.c ≠ 0) (hb : x.b = false) (hd : x.d = false) (hl : x.loc ≠ []) :
    Calls Tryz.prog 16 #[.agg #[.string (ofL x.ep), .slice r1 x.rel.length c1, .int .u8 x.c, .string (ofL x.n), .bool x.b, .string (ofL x.m), .bool x.d, .string (ofL x.k), .slice q1 x.loc.length d1]] w fun e w' => e = .returned (.string (ofL (textP x))) ∧ Below w.heap.size w w' := by
  have F := fun w rr ll => Fit_true x r1 q1 c1 d1 w rr ll hx hf
  have J1 := fun w h => Join_any (.slice r1 x.rel.length c1) x.rel w h (by rintro a n c h; cases h; exact k1) (by have := hx.rI; omega)
  have J2 := fun w h => Join_any (.slice q1 x.loc.length d1) x.loc w h (by rintro a n c h; cases h; exact k2) (by have := hx.lI; omega)
  have hlb : (0 : Int) < (x.loc.length : Int) := by have := List.length_pos_iff.2 hl; omega
  have heb := eq48' x.ep true (by rw [he]; rfl)
  have S0 := TB.start rr ll
  have z1 := hx.e
  have z2 := hx.n
  have z3 := hx.m
  have z3' := hx.k
  have z4 := Nat.le_trans (joinL_len x.rel) (hx.rI)
  have z5 := Nat.le_trans (joinL_len x.loc) (hx.lI)
  have o1 := ofL_size x.ep
  have o2 := ofL_size x.n
  have o3 := ofL_size x.m
  have o6 := ofL_size x.k
  have o4 := ofL_size (joinL x.rel)
  have o5 := ofL_size (joinL x.loc)
  have jd := ofL_data (joinL x.rel)
  have D0 : (ofL (joinL x.rel)).data.toList = baseL x.ep x.rel := by rw [jd]; unfold baseL; rw [if_pos he]; rfl
  generalize hT0 : ofL (joinL x.rel) = T0 at *
  clear hT0
  have y0 : T0.size ≤ 5000000 := by omega
  obtain ⟨a1, T1, e1, f1, s1, g1, d1⟩ := catB T0 (ofL (preW x.c)) x.n
  have qz1 : (ofL (preW x.c)).size ≤ 2 := by rw [ofL_size]; exact preW_len _
  have D1 : T1.data.toList = T0.data.toList ++ preT x := by rw [d1, ofL_data]; unfold preT; rw [if_neg hc]
  have y1 : T1.size ≤ 11100000 := by omega
  have y1' : a1.size ≤ 6000000 := by omega
  clear s1 g1 d1
  have D2 : postT x = [] := by unfold postT; rw [hb]; rfl
  have D3 : devT x = [] := by unfold devT; rw [hd]; rfl
  obtain ⟨a4, T4, e4, f4, s4, g4, d4⟩ := catB T1 ⟨#[43]⟩ (joinL x.loc)
  have qz4 : (⟨#[43]⟩ : ByteArray).size = 1 := rfl
  have D4 : T4.data.toList = T1.data.toList ++ locT x := by rw [d4]; unfold locT; rw [if_neg hl]; rfl
  have y4 : T4.size ≤ 29100000 := by omega
  have y4' : a4.size ≤ 6000000 := by omega
  clear s4 g4 d4 qz4
  have HL : Hid (T4 = ofL (textP x)) := by
    show _ = _
    apply ba_ext
    rw [ofL_data, D4, D1, D0]
    unfold textP tailT
    rw [D2, D3]
    simp
  have F := hide F
  have J1 := hide J1
  have J2 := hide J2
  have hcb : (x.c != 0) = true := by simpa using hc
  have PW := hide (fun w => preWord_any x.c (by rcases hf.f4 with h | h | h | h <;> omega) w)
  generalize ofL (preW x.c) = PB at *
  have HB := hide hb
  have HD := hide hd
  clear he hl hc hb hd D0 D1 D2 D3 D4 jd hf hx
  go_enter Tryz.func16, Tryz.ntmps16
  go_wp2_with fail
  generalize w.alloc (.cells #[.string (ofL x.ep), .slice r1 x.rel.length c1, .int .u8 x.c, .string (ofL x.n), .bool x.b, .string (ofL x.m), .bool x.d, .string (ofL x.k), .slice q1 x.loc.length d1] 24) = W0 at *
  obtain ⟨s0, s1, s2, s3, s4, s5, s6, s7, s8⟩ := S0.seen
  refine (F.out _ S0.rr S0.ll).mono ?_
  rintro e' v1 ⟨rfl, b1⟩
  have S1 := S0.next b1
  obtain ⟨t0, t1, t2, t3, t4, t5, t6, t7, t8⟩ := S1.seen
  rw [HB.out] at t4
  rw [HD.out] at t6
  go_wp2_with fail
  refine (J1.out _ S1.rr).mono ?_
  rintro e' v2 ⟨rfl, b2⟩
  have S2 := S1.next b2
  obtain ⟨i0, i1, i2, i3, i4, i5, i6, i7, i8⟩ := S2.seen
  rw [HB.out] at i4
  rw [HD.out] at i6
  go_wp2_with fail
  have D2 := S2.next (Below.refl _ v2).drew
  go_region_with (go_at_call 47; refine (PW.out _).mono ?_; rintro e' v3 ⟨rfl, b3⟩; have S3 := D2.next b3; obtain ⟨j0, j1, j2, j3, j4, j5, j6, j7, j8⟩ := S3.seen; rw [HB.out] at j4; rw [HD.out] at j6)
  all_goals go_wp2_with fail
  all_goals (refine (J2.out _ S3.ll).mono ?_; rintro e' v4 ⟨rfl, b4⟩; have S4 := S3.next b4; go_wp2_with fail)
  all_goals go_ret
  all_goals exact ⟨ret_s (by first | exact HL.out | rw [← HL.out]), S4.bel⟩

set_option maxRecDepth 100000 in
set_option maxHeartbeats 4000000 in
theorem Text_z1010 (x : PepL) (r1 q1 : Option Addr) (c1 d1 : Nat) (w : World) (rr : Txt w (.slice r1 x.rel.length c1) x.rel) (ll : Txt w (.slice q1 x.loc.length d1) x.loc) (k1 : x.rel.length ≤ c1) (k2 : x.loc.length ≤ d1) (hx : SmallP x) (hf : FitT x) (he : x.ep = [48]) (hc : x.c ≠ 0) (hb : x.b = false) (hd : x.d = true) (hl : x.loc = []) :
    Calls Tryz.prog 16 #[.agg #[.string (ofL x.ep), .slice r1 x.rel.length c1, .int .u8 x.c, .string (ofL x.n), .bool x.b, .string (ofL x.m), .bool x.d, .string (ofL x.k), .slice q1 x.loc.length d1]] w fun e w' => e = .returned (.string (ofL (textP x))) ∧ Below w.heap.size w w' := by
  have F := fun w rr ll => Fit_true x r1 q1 c1 d1 w rr ll hx hf
  have J1 := fun w h => Join_any (.slice r1 x.rel.length c1) x.rel w h (by rintro a n c h; cases h; exact k1) (by have := hx.rI; omega)
  have hlb : ¬ (0 : Int) < (x.loc.length : Int) := by rw [hl]; simp
  have heb := eq48' x.ep true (by rw [he]; rfl)
  have S0 := TB.start rr ll
  have z1 := hx.e
  have z2 := hx.n
  have z3 := hx.m
  have z3' := hx.k
  have z4 := Nat.le_trans (joinL_len x.rel) (hx.rI)
  have z5 := Nat.le_trans (joinL_len x.loc) (hx.lI)
  have o1 := ofL_size x.ep
  have o2 := ofL_size x.n
  have o3 := ofL_size x.m
  have o6 := ofL_size x.k
  have o4 := ofL_size (joinL x.rel)
  have o5 := ofL_size (joinL x.loc)
  have jd := ofL_data (joinL x.rel)
  have D0 : (ofL (joinL x.rel)).data.toList = baseL x.ep x.rel := by rw [jd]; unfold baseL; rw [if_pos he]; rfl
  generalize hT0 : ofL (joinL x.rel) = T0 at *
  clear hT0
  have y0 : T0.size ≤ 5000000 := by omega
  obtain ⟨a1, T1, e1, f1, s1, g1, d1⟩ := catB T0 (ofL (preW x.c)) x.n
  have qz1 : (ofL (preW x.c)).size ≤ 2 := by rw [ofL_size]; exact preW_len _
  have D1 : T1.data.toList = T0.data.toList ++ preT x := by rw [d1, ofL_data]; unfold preT; rw [if_neg hc]
  have y1 : T1.size ≤ 11100000 := by omega
  have y1' : a1.size ≤ 6000000 := by omega
  clear s1 g1 d1
  have D2 : postT x = [] := by unfold postT; rw [hb]; rfl
  obtain ⟨a3, T3, e3, f3, s3, g3, d3⟩ := catB T1 ⟨#[46, 100, 101, 118]⟩ x.k
  have qz3 : (⟨#[46, 100, 101, 118]⟩ : ByteArray).size = 4 := rfl
  have D3 : T3.data.toList = T1.data.toList ++ devT x := by rw [d3]; unfold devT; rw [hd]; rfl
  have y3 : T3.size ≤ 23100000 := by omega
  have y3' : a3.size ≤ 6000000 := by omega
  clear s3 g3 d3 qz3
  have D4 : locT x = [] := by unfold locT; rw [if_pos hl]
  have HL : Hid (T3 = ofL (textP x)) := by
    show _ = _
    apply ba_ext
    rw [ofL_data, D3, D1, D0]
    unfold textP tailT
    rw [D2, D4]
    simp
  have F := hide F
  have J1 := hide J1
  have hcb : (x.c != 0) = true := by simpa using hc
  have PW := hide (fun w => preWord_any x.c (by rcases hf.f4 with h | h | h | h <;> omega) w)
  generalize ofL (preW x.c) = PB at *
  have HB := hide hb
  have HD := hide hd
  clear he hl hc hb hd D0 D1 D2 D3 D4 jd hf hx
  go_enter Tryz.func16, Tryz.ntmps16
  go_wp2_with fail
  generalize w.alloc (.cells #[.string (ofL x.ep), .slice r1 x.rel.length c1, .int .u8 x.c, .string (ofL x.n), .bool x.b, .string (ofL x.m), .bool x.d, .string (ofL x.k), .slice q1 x.loc.length d1] 24) = W0 at *
  obtain ⟨s0, s1, s2, s3, s4, s5, s6, s7, s8⟩ := S0.seen
  refine (F.out _ S0.rr S0.ll).mono ?_
  rintro e' v1 ⟨rfl, b1⟩
  have S1 := S0.next b1
  obtain ⟨t0, t1, t2, t3, t4, t5, t6, t7, t8⟩ := S1.seen
  rw [HB.out] at t4
  rw [HD.out] at t6
  go_wp2_with fail
  refine (J1.out _ S1.rr).mono ?_
  rintro e' v2 ⟨rfl, b2⟩
  have S2 := S1.next b2
  obtain ⟨i0, i1, i2, i3, i4, i5, i6, i7, i8⟩ := S2.seen
  rw [HB.out] at i4
  rw [HD.out] at i6
  go_wp2_with fail
  have D2 := S2.next (Below.refl _ v2).drew
  go_region_with (go_at_call 47; refine (PW.out _).mono ?_; rintro e' v3 ⟨rfl, b3⟩; have S3 := D2.next b3; obtain ⟨j0, j1, j2, j3, j4, j5, j6, j7, j8⟩ := S3.seen; rw [HB.out] at j4; rw [HD.out] at j6)
  all_goals go_wp2_with fail
  all_goals go_ret
  all_goals exact ⟨ret_s (by first | exact HL.out | rw [← HL.out]), S3.bel⟩

set_option maxRecDepth 100000 in
set_option maxHeartbeats 4000000 in
theorem Text_z1011 (x : PepL) (r1 q1 : Option Addr) (c1 d1 : Nat) (w : World) (rr : Txt w (.slice r1 x.rel.length c1) x.rel) (ll : Txt w (.slice q1 x.loc.length d1) x.loc) (k1 : x.rel.length ≤ c1) (k2 : x.loc.length ≤ d1) (hx : SmallP x) (hf : FitT x) (he : x.ep = [48]) (hc : x.c ≠ 0) (hb : x.b = false) (hd : x.d = true) (hl : x.loc ≠ []) :
    Calls Tryz.prog 16 #[.agg #[.string (ofL x.ep), .slice r1 x.rel.length c1, .int .u8 x.c, .string (ofL x.n), .bool x.b, .string (ofL x.m), .bool x.d, .string (ofL x.k), .slice q1 x.loc.length d1]] w fun e w' => e = .returned (.string (ofL (textP x))) ∧ Below w.heap.size w w' := by
  have F := fun w rr ll => Fit_true x r1 q1 c1 d1 w rr ll hx hf
  have J1 := fun w h => Join_any (.slice r1 x.rel.length c1) x.rel w h (by rintro a n c h; cases h; exact k1) (by have := hx.rI; omega)
  have J2 := fun w h => Join_any (.slice q1 x.loc.length d1) x.loc w h (by rintro a n c h; cases h; exact k2) (by have := hx.lI; omega)
  have hlb : (0 : Int) < (x.loc.length : Int) := by have := List.length_pos_iff.2 hl; omega
  have heb := eq48' x.ep true (by rw [he]; rfl)
  have S0 := TB.start rr ll
  have z1 := hx.e
  have z2 := hx.n
  have z3 := hx.m
  have z3' := hx.k
  have z4 := Nat.le_trans (joinL_len x.rel) (hx.rI)
  have z5 := Nat.le_trans (joinL_len x.loc) (hx.lI)
  have o1 := ofL_size x.ep
  have o2 := ofL_size x.n
  have o3 := ofL_size x.m
  have o6 := ofL_size x.k
  have o4 := ofL_size (joinL x.rel)
  have o5 := ofL_size (joinL x.loc)
  have jd := ofL_data (joinL x.rel)
  have D0 : (ofL (joinL x.rel)).data.toList = baseL x.ep x.rel := by rw [jd]; unfold baseL; rw [if_pos he]; rfl
  generalize hT0 : ofL (joinL x.rel) = T0 at *
  clear hT0
  have y0 : T0.size ≤ 5000000 := by omega
  obtain ⟨a1, T1, e1, f1, s1, g1, d1⟩ := catB T0 (ofL (preW x.c)) x.n
  have qz1 : (ofL (preW x.c)).size ≤ 2 := by rw [ofL_size]; exact preW_len _
  have D1 : T1.data.toList = T0.data.toList ++ preT x := by rw [d1, ofL_data]; unfold preT; rw [if_neg hc]
  have y1 : T1.size ≤ 11100000 := by omega
  have y1' : a1.size ≤ 6000000 := by omega
  clear s1 g1 d1
  have D2 : postT x = [] := by unfold postT; rw [hb]; rfl
  obtain ⟨a3, T3, e3, f3, s3, g3, d3⟩ := catB T1 ⟨#[46, 100, 101, 118]⟩ x.k
  have qz3 : (⟨#[46, 100, 101, 118]⟩ : ByteArray).size = 4 := rfl
  have D3 : T3.data.toList = T1.data.toList ++ devT x := by rw [d3]; unfold devT; rw [hd]; rfl
  have y3 : T3.size ≤ 23100000 := by omega
  have y3' : a3.size ≤ 6000000 := by omega
  clear s3 g3 d3 qz3
  obtain ⟨a4, T4, e4, f4, s4, g4, d4⟩ := catB T3 ⟨#[43]⟩ (joinL x.loc)
  have qz4 : (⟨#[43]⟩ : ByteArray).size = 1 := rfl
  have D4 : T4.data.toList = T3.data.toList ++ locT x := by rw [d4]; unfold locT; rw [if_neg hl]; rfl
  have y4 : T4.size ≤ 29100000 := by omega
  have y4' : a4.size ≤ 6000000 := by omega
  clear s4 g4 d4 qz4
  have HL : Hid (T4 = ofL (textP x)) := by
    show _ = _
    apply ba_ext
    rw [ofL_data, D4, D3, D1, D0]
    unfold textP tailT
    rw [D2]
    simp
  have F := hide F
  have J1 := hide J1
  have J2 := hide J2
  have hcb : (x.c != 0) = true := by simpa using hc
  have PW := hide (fun w => preWord_any x.c (by rcases hf.f4 with h | h | h | h <;> omega) w)
  generalize ofL (preW x.c) = PB at *
  have HB := hide hb
  have HD := hide hd
  clear he hl hc hb hd D0 D1 D2 D3 D4 jd hf hx
  go_enter Tryz.func16, Tryz.ntmps16
  go_wp2_with fail
  generalize w.alloc (.cells #[.string (ofL x.ep), .slice r1 x.rel.length c1, .int .u8 x.c, .string (ofL x.n), .bool x.b, .string (ofL x.m), .bool x.d, .string (ofL x.k), .slice q1 x.loc.length d1] 24) = W0 at *
  obtain ⟨s0, s1, s2, s3, s4, s5, s6, s7, s8⟩ := S0.seen
  refine (F.out _ S0.rr S0.ll).mono ?_
  rintro e' v1 ⟨rfl, b1⟩
  have S1 := S0.next b1
  obtain ⟨t0, t1, t2, t3, t4, t5, t6, t7, t8⟩ := S1.seen
  rw [HB.out] at t4
  rw [HD.out] at t6
  go_wp2_with fail
  refine (J1.out _ S1.rr).mono ?_
  rintro e' v2 ⟨rfl, b2⟩
  have S2 := S1.next b2
  obtain ⟨i0, i1, i2, i3, i4, i5, i6, i7, i8⟩ := S2.seen
  rw [HB.out] at i4
  rw [HD.out] at i6
  go_wp2_with fail
  have D2 := S2.next (Below.refl _ v2).drew
  go_region_with (go_at_call 47; refine (PW.out _).mono ?_; rintro e' v3 ⟨rfl, b3⟩; have S3 := D2.next b3; obtain ⟨j0, j1, j2, j3, j4, j5, j6, j7, j8⟩ := S3.seen; rw [HB.out] at j4; rw [HD.out] at j6)
  all_goals go_wp2_with fail
  all_goals (refine (J2.out _ S3.ll).mono ?_; rintro e' v4 ⟨rfl, b4⟩; have S4 := S3.next b4; go_wp2_with fail)
  all_goals go_ret
  all_goals exact ⟨ret_s (by first | exact HL.out | rw [← HL.out]), S4.bel⟩

set_option maxRecDepth 100000 in
set_option maxHeartbeats 4000000 in
theorem Text_z1100 (x : PepL) (r1 q1 : Option Addr) (c1 d1 : Nat) (w : World) (rr : Txt w (.slice r1 x.rel.length c1) x.rel) (ll : Txt w (.slice q1 x.loc.length d1) x.loc) (k1 : x.rel.length ≤ c1) (k2 : x.loc.length ≤ d1) (hx : SmallP x) (hf : FitT x) (he : x.ep = [48]) (hc : x.c ≠ 0) (hb : x.b = true) (hd : x.d = false) (hl : x.loc = []) :
    Calls Tryz.prog 16 #[.agg #[.string (ofL x.ep), .slice r1 x.rel.length c1, .int .u8 x.c, .string (ofL x.n), .bool x.b, .string (ofL x.m), .bool x.d, .string (ofL x.k), .slice q1 x.loc.length d1]] w fun e w' => e = .returned (.string (ofL (textP x))) ∧ Below w.heap.size w w' := by
  have F := fun w rr ll => Fit_true x r1 q1 c1 d1 w rr ll hx hf
  have J1 := fun w h => Join_any (.slice r1 x.rel.length c1) x.rel w h (by rintro a n c h; cases h; exact k1) (by have := hx.rI; omega)
  have hlb : ¬ (0 : Int) < (x.loc.length : Int) := by rw [hl]; simp
  have heb := eq48' x.ep true (by rw [he]; rfl)
  have S0 := TB.start rr ll
  have z1 := hx.e
  have z2 := hx.n
  have z3 := hx.m
  have z3' := hx.k
  have z4 := Nat.le_trans (joinL_len x.rel) (hx.rI)
  have z5 := Nat.le_trans (joinL_len x.loc) (hx.lI)
  have o1 := ofL_size x.ep
  have o2 := ofL_size x.n
  have o3 := ofL_size x.m
  have o6 := ofL_size x.k
  have o4 := ofL_size (joinL x.rel)
  have o5 := ofL_size (joinL x.loc)
  have jd := ofL_data (joinL x.rel)
  have D0 : (ofL (joinL x.rel)).data.toList = baseL x.ep x.rel := by rw [jd]; unfold baseL; rw [if_pos he]; rfl
  generalize hT0 : ofL (joinL x.rel) = T0 at *
  clear hT0
  have y0 : T0.size ≤ 5000000 := by omega
  obtain ⟨a1, T1, e1, f1, s1, g1, d1⟩ := catB T0 (ofL (preW x.c)) x.n
  have qz1 : (ofL (preW x.c)).size ≤ 2 := by rw [ofL_size]; exact preW_len _
  have D1 : T1.data.toList = T0.data.toList ++ preT x := by rw [d1, ofL_data]; unfold preT; rw [if_neg hc]
  have y1 : T1.size ≤ 11100000 := by omega
  have y1' : a1.size ≤ 6000000 := by omega
  clear s1 g1 d1
  obtain ⟨a2, T2, e2, f2, s2, g2, d2⟩ := catB T1 ⟨#[46, 112, 111, 115, 116]⟩ x.m
  have qz2 : (⟨#[46, 112, 111, 115, 116]⟩ : ByteArray).size = 5 := rfl
  have D2 : T2.data.toList = T1.data.toList ++ postT x := by rw [d2]; unfold postT; rw [hb]; rfl
  have y2 : T2.size ≤ 17100000 := by omega
  have y2' : a2.size ≤ 6000000 := by omega
  clear s2 g2 d2 qz2
  have D3 : devT x = [] := by unfold devT; rw [hd]; rfl
  have D4 : locT x = [] := by unfold locT; rw [if_pos hl]
  have HL : Hid (T2 = ofL (textP x)) := by
    show _ = _
    apply ba_ext
    rw [ofL_data, D2, D1, D0]
    unfold textP tailT
    rw [D3, D4]
    simp
  have F := hide F
  have J1 := hide J1
  have hcb : (x.c != 0) = true := by simpa using hc
  have PW := hide (fun w => preWord_any x.c (by rcases hf.f4 with h | h | h | h <;> omega) w)
  generalize ofL (preW x.c) = PB at *
  have HB := hide hb
  have HD := hide hd
  clear he hl hc hb hd D0 D1 D2 D3 D4 jd hf hx
  go_enter Tryz.func16, Tryz.ntmps16
  go_wp2_with fail
  generalize w.alloc (.cells #[.string (ofL x.ep), .slice r1 x.rel.length c1, .int .u8 x.c, .string (ofL x.n), .bool x.b, .string (ofL x.m), .bool x.d, .string (ofL x.k), .slice q1 x.loc.length d1] 24) = W0 at *
  obtain ⟨s0, s1, s2, s3, s4, s5, s6, s7, s8⟩ := S0.seen
  refine (F.out _ S0.rr S0.ll).mono ?_
  rintro e' v1 ⟨rfl, b1⟩
  have S1 := S0.next b1
  obtain ⟨t0, t1, t2, t3, t4, t5, t6, t7, t8⟩ := S1.seen
  rw [HB.out] at t4
  rw [HD.out] at t6
  go_wp2_with fail
  refine (J1.out _ S1.rr).mono ?_
  rintro e' v2 ⟨rfl, b2⟩
  have S2 := S1.next b2
  obtain ⟨i0, i1, i2, i3, i4, i5, i6, i7, i8⟩ := S2.seen
  rw [HB.out] at i4
  rw [HD.out] at i6
  go_wp2_with fail
  have D2 := S2.next (Below.refl _ v2).drew
  go_region_with (go_at_call 47; refine (PW.out _).mono ?_; rintro e' v3 ⟨rfl, b3⟩; have S3 := D2.next b3; obtain ⟨j0, j1, j2, j3, j4, j5, j6, j7, j8⟩ := S3.seen; rw [HB.out] at j4; rw [HD.out] at j6)
  all_goals go_wp2_with fail
  all_goals go_ret
  all_goals exact ⟨ret_s (by first | exact HL.out | rw [← HL.out]), S3.bel⟩

set_option maxRecDepth 100000 in
set_option maxHeartbeats 4000000 in
theorem Text_z1101 (x : PepL) (r1 q1 : Option Addr) (c1 d1 : Nat) (w : World) (rr : Txt w (.slice r1 x.rel.length c1) x.rel) (ll : Txt w (.slice q1 x.loc.length d1) x.loc) (k1 : x.rel.length ≤ c1) (k2 : x.loc.length ≤ d1) (hx : SmallP x) (hf : FitT x) (he : x.ep = [48]) (hc : x.c ≠ 0) (hb : x.b = true) (hd : x.d = false) (hl : x.loc ≠ []) :
    Calls Tryz.prog 16 #[.agg #[.string (ofL x.ep), .slice r1 x.rel.length c1, .int .u8 x.c, .string (ofL x.n), .bool x.b, .string (ofL x.m), .bool x.d, .string (ofL x.k), .slice q1 x.loc.length d1]] w fun e w' => e = .returned (.string (ofL (textP x))) ∧ Below w.heap.size w w' := by
  have F := fun w rr ll => Fit_true x r1 q1 c1 d1 w rr ll hx hf
  have J1 := fun w h => Join_any (.slice r1 x.rel.length c1) x.rel w h (by rintro a n c h; cases h; exact k1) (by have := hx.rI; omega)
  have J2 := fun w h => Join_any (.slice q1 x.loc.length d1) x.loc w h (by rintro a n c h; cases h; exact k2) (by have := hx.lI; omega)
  have hlb : (0 : Int) < (x.loc.length : Int) := by have := List.length_pos_iff.2 hl; omega
  have heb := eq48' x.ep true (by rw [he]; rfl)
  have S0 := TB.start rr ll
  have z1 := hx.e
  have z2 := hx.n
  have z3 := hx.m
  have z3' := hx.k
  have z4 := Nat.le_trans (joinL_len x.rel) (hx.rI)
  have z5 := Nat.le_trans (joinL_len x.loc) (hx.lI)
  have o1 := ofL_size x.ep
  have o2 := ofL_size x.n
  have o3 := ofL_size x.m
  have o6 := ofL_size x.k
  have o4 := ofL_size (joinL x.rel)
  have o5 := ofL_size (joinL x.loc)
  have jd := ofL_data (joinL x.rel)
  have D0 : (ofL (joinL x.rel)).data.toList = baseL x.ep x.rel := by rw [jd]; unfold baseL; rw [if_pos he]; rfl
  generalize hT0 : ofL (joinL x.rel) = T0 at *
  clear hT0
  have y0 : T0.size ≤ 5000000 := by omega
  obtain ⟨a1, T1, e1, f1, s1, g1, d1⟩ := catB T0 (ofL (preW x.c)) x.n
  have qz1 : (ofL (preW x.c)).size ≤ 2 := by rw [ofL_size]; exact preW_len _
  have D1 : T1.data.toList = T0.data.toList ++ preT x := by rw [d1, ofL_data]; unfold preT; rw [if_neg hc]
  have y1 : T1.size ≤ 11100000 := by omega
  have y1' : a1.size ≤ 6000000 := by omega
  clear s1 g1 d1
  obtain ⟨a2, T2, e2, f2, s2, g2, d2⟩ := catB T1 ⟨#[46, 112, 111, 115, 116]⟩ x.m
  have qz2 : (⟨#[46, 112, 111, 115, 116]⟩ : ByteArray).size = 5 := rfl
  have D2 : T2.data.toList = T1.data.toList ++ postT x := by rw [d2]; unfold postT; rw [hb]; rfl
  have y2 : T2.size ≤ 17100000 := by omega
  have y2' : a2.size ≤ 6000000 := by omega
  clear s2 g2 d2 qz2
  have D3 : devT x = [] := by unfold devT; rw [hd]; rfl
  obtain ⟨a4, T4, e4, f4, s4, g4, d4⟩ := catB T2 ⟨#[43]⟩ (joinL x.loc)
  have qz4 : (⟨#[43]⟩ : ByteArray).size = 1 := rfl
  have D4 : T4.data.toList = T2.data.toList ++ locT x := by rw [d4]; unfold locT; rw [if_neg hl]; rfl
  have y4 : T4.size ≤ 29100000 := by omega
  have y4' : a4.size ≤ 6000000 := by omega
  clear s4 g4 d4 qz4
  have HL : Hid (T4 = ofL (textP x)) := by
    show _ = _
    apply ba_ext
    rw [ofL_data, D4, D2, D1, D0]
    unfold textP tailT
    rw [D3]
    simp
  have F := hide F
  have J1 := hide J1
  have J2 := hide J2
  have hcb : (x.c != 0) = true := by simpa using hc
  have PW := hide (fun w => preWord_any x.c (by rcases hf.f4 with h | h | h | h <;> omega) w)
  generalize ofL (preW x.c) = PB at *
  have HB := hide hb
  have HD := hide hd
  clear he hl hc hb hd D0 D1 D2 D3 D4 jd hf hx
  go_enter Tryz.func16, Tryz.ntmps16
  go_wp2_with fail
  generalize w.alloc (.cells #[.string (ofL x.ep), .slice r1 x.rel.length c1, .int .u8 x.c, .string (ofL x.n), .bool x.b, .string (ofL x.m), .bool x.d, .string (ofL x.k), .slice q1 x.loc.length d1] 24) = W0 at *
  obtain ⟨s0, s1, s2, s3, s4, s5, s6, s7, s8⟩ := S0.seen
  refine (F.out _ S0.rr S0.ll).mono ?_
  rintro e' v1 ⟨rfl, b1⟩
  have S1 := S0.next b1
  obtain ⟨t0, t1, t2, t3, t4, t5, t6, t7, t8⟩ := S1.seen
  rw [HB.out] at t4
  rw [HD.out] at t6
  go_wp2_with fail
  refine (J1.out _ S1.rr).mono ?_
  rintro e' v2 ⟨rfl, b2⟩
  have S2 := S1.next b2
  obtain ⟨i0, i1, i2, i3, i4, i5, i6, i7, i8⟩ := S2.seen
  rw [HB.out] at i4
  rw [HD.out] at i6
  go_wp2_with fail
  have D2 := S2.next (Below.refl _ v2).drew
  go_region_with (go_at_call 47; refine (PW.out _).mono ?_; rintro e' v3 ⟨rfl, b3⟩; have S3 := D2.next b3; obtain ⟨j0, j1, j2, j3, j4, j5, j6, j7, j8⟩ := S3.seen; rw [HB.out] at j4; rw [HD.out] at j6)
  all_goals go_wp2_with fail
  all_goals (refine (J2.out _ S3.ll).mono ?_; rintro e' v4 ⟨rfl, b4⟩; have S4 := S3.next b4; go_wp2_with fail)
  all_goals go_ret
  all_goals exact ⟨ret_s (by first | exact HL.out | rw [← HL.out]), S4.bel⟩

set_option maxRecDepth 100000 in
set_option maxHeartbeats 4000000 in
theorem Text_z1110 (x : PepL) (r1 q1 : Option Addr) (c1 d1 : Nat) (w : World) (rr : Txt w (.slice r1 x.rel.length c1) x.rel) (ll : Txt w (.slice q1 x.loc.length d1) x.loc) (k1 : x.rel.length ≤ c1) (k2 : x.loc.length ≤ d1) (hx : SmallP x) (hf : FitT x) (he : x.ep = [48]) (hc : x.c ≠ 0) (hb : x.b = true) (hd : x.d = true) (hl : x.loc = []) :
    Calls Tryz.prog 16 #[.agg #[.string (ofL x.ep), .slice r1 x.rel.length c1, .int .u8 x.c, .string (ofL x.n), .bool x.b, .string (ofL x.m), .bool x.d, .string (ofL x.k), .slice q1 x.loc.length d1]] w fun e w' => e = .returned (.string (ofL (textP x))) ∧ Below w.heap.size w w' := by
  have F := fun w rr ll => Fit_true x r1 q1 c1 d1 w rr ll hx hf
  have J1 := fun w h => Join_any (.slice r1 x.rel.length c1) x.rel w h (by rintro a n c h; cases h; exact k1) (by have := hx.rI; omega)
  have hlb : ¬ (0 : Int) < (x.loc.length : Int) := by rw [hl]; simp
  have heb := eq48' x.ep true (by rw [he]; rfl)
  have S0 := TB.start rr ll
  have z1 := hx.e
  have z2 := hx.n
  have z3 := hx.m
  have z3' := hx.k
  have z4 := Nat.le_trans (joinL_len x.rel) (hx.rI)
  have z5 := Nat.le_trans (joinL_len x.loc) (hx.lI)
  have o1 := ofL_size x.ep
  have o2 := ofL_size x.n
  have o3 := ofL_size x.m
  have o6 := ofL_size x.k
  have o4 := ofL_size (joinL x.rel)
  have o5 := ofL_size (joinL x.loc)
  have jd := ofL_data (joinL x.rel)
  have D0 : (ofL (joinL x.rel)).data.toList = baseL x.ep x.rel := by rw [jd]; unfold baseL; rw [if_pos he]; rfl
  generalize hT0 : ofL (joinL x.rel) = T0 at *
  clear hT0
  have y0 : T0.size ≤ 5000000 := by omega
  obtain ⟨a1, T1, e1, f1, s1, g1, d1⟩ := catB T0 (ofL (preW x.c)) x.n
  have qz1 : (ofL (preW x.c)).size ≤ 2 := by rw [ofL_size]; exact preW_len _
  have D1 : T1.data.toList = T0.data.toList ++ preT x := by rw [d1, ofL_data]; unfold preT; rw [if_neg hc]
  have y1 : T1.size ≤ 11100000 := by omega
  have y1' : a1.size ≤ 6000000 := by omega
  clear s1 g1 d1
  obtain ⟨a2, T2, e2, f2, s2, g2, d2⟩ := catB T1 ⟨#[46, 112, 111, 115, 116]⟩ x.m
  have qz2 : (⟨#[46, 112, 111, 115, 116]⟩ : ByteArray).size = 5 := rfl
  have D2 : T2.data.toList = T1.data.toList ++ postT x := by rw [d2]; unfold postT; rw [hb]; rfl
  have y2 : T2.size ≤ 17100000 := by omega
  have y2' : a2.size ≤ 6000000 := by omega
  clear s2 g2 d2 qz2
  obtain ⟨a3, T3, e3, f3, s3, g3, d3⟩ := catB T2 ⟨#[46, 100, 101, 118]⟩ x.k
  have qz3 : (⟨#[46, 100, 101, 118]⟩ : ByteArray).size = 4 := rfl
  have D3 : T3.data.toList = T2.data.toList ++ devT x := by rw [d3]; unfold devT; rw [hd]; rfl
  have y3 : T3.size ≤ 23100000 := by omega
  have y3' : a3.size ≤ 6000000 := by omega
  clear s3 g3 d3 qz3
  have D4 : locT x = [] := by unfold locT; rw [if_pos hl]
  have HL : Hid (T3 = ofL (textP x)) := by
    show _ = _
    apply ba_ext
    rw [ofL_data, D3, D2, D1, D0]
    unfold textP tailT
    rw [D4]
    simp
  have F := hide F
  have J1 := hide J1
  have hcb : (x.c != 0) = true := by simpa using hc
  have PW := hide (fun w => preWord_any x.c (by rcases hf.f4 with h | h | h | h <;> omega) w)
  generalize ofL (preW x.c) = PB at *
  have HB := hide hb
  have HD := hide hd
  clear he hl hc hb hd D0 D1 D2 D3 D4 jd hf hx
  go_enter Tryz.func16, Tryz.ntmps16
  go_wp2_with fail
  generalize w.alloc (.cells #[.string (ofL x.ep), .slice r1 x.rel.length c1, .int .u8 x.c, .string (ofL x.n), .bool x.b, .string (ofL x.m), .bool x.d, .string (ofL x.k), .slice q1 x.loc.length d1] 24) = W0 at *
  obtain ⟨s0, s1, s2, s3, s4, s5, s6, s7, s8⟩ := S0.seen
  refine (F.out _ S0.rr S0.ll).mono ?_
  rintro e' v1 ⟨rfl, b1⟩
  have S1 := S0.next b1
  obtain ⟨t0, t1, t2, t3, t4, t5, t6, t7, t8⟩ := S1.seen
  rw [HB.out] at t4
  rw [HD.out] at t6
  go_wp2_with fail
  refine (J1.out _ S1.rr).mono ?_
  rintro e' v2 ⟨rfl, b2⟩
  have S2 := S1.next b2
  obtain ⟨i0, i1, i2, i3, i4, i5, i6, i7, i8⟩ := S2.seen
  rw [HB.out] at i4
  rw [HD.out] at i6
  go_wp2_with fail
  have D2 := S2.next (Below.refl _ v2).drew
  go_region_with (go_at_call 47; refine (PW.out _).mono ?_; rintro e' v3 ⟨rfl, b3⟩; have S3 := D2.next b3; obtain ⟨j0, j1, j2, j3, j4, j5, j6, j7, j8⟩ := S3.seen; rw [HB.out] at j4; rw [HD.out] at j6)
  all_goals go_wp2_with fail
  all_goals go_ret
  all_goals exact ⟨ret_s (by first | exact HL.out | rw [← HL.out]), S3.bel⟩

set_option maxRecDepth 100000 in
set_option maxHeartbeats 4000000 in
theorem Text_z1111 (x : PepL) (r1 q1 : Option Addr) (c1 d1 : Nat) (w : World) (rr : Txt w (.slice r1 x.rel.length c1) x.rel) (ll : Txt w (.slice q1 x.loc.length d1) x.loc) (k1 : x.rel.length ≤ c1) (k2 : x.loc.length ≤ d1) (hx : SmallP x) (hf : FitT x) (he : x.ep = [48]) (hc : x.c ≠ 0) (hb : x.b = true) (hd : x.d = true) (hl : x.loc ≠ []) :
    Calls Tryz.prog 16 #[.agg #[.string (ofL x.ep), .slice r1 x.rel.length c1, .int .u8 x.c, .string (ofL x.n), .bool x.b, .string (ofL x.m), .bool x.d, .string (ofL x.k), .slice q1 x.loc.length d1]] w fun e w' => e = .returned (.string (ofL (textP x))) ∧ Below w.heap.size w w' := by
  have F := fun w rr ll => Fit_true x r1 q1 c1 d1 w rr ll hx hf
  have J1 := fun w h => Join_any (.slice r1 x.rel.length c1) x.rel w h (by rintro a n c h; cases h; exact k1) (by have := hx.rI; omega)
  have J2 := fun w h => Join_any (.slice q1 x.loc.length d1) x.loc w h (by rintro a n c h; cases h; exact k2) (by have := hx.lI; omega)
  have hlb : (0 : Int) < (x.loc.length : Int) := by have := List.length_pos_iff.2 hl; omega
  have heb := eq48' x.ep true (by rw [he]; rfl)
  have S0 := TB.start rr ll
  have z1 := hx.e
  have z2 := hx.n
  have z3 := hx.m
  have z3' := hx.k
  have z4 := Nat.le_trans (joinL_len x.rel) (hx.rI)
  have z5 := Nat.le_trans (joinL_len x.loc) (hx.lI)
  have o1 := ofL_size x.ep
  have o2 := ofL_size x.n
  have o3 := ofL_size x.m
  have o6 := ofL_size x.k
  have o4 := ofL_size (joinL x.rel)
  have o5 := ofL_size (joinL x.loc)
  have jd := ofL_data (joinL x.rel)
  have D0 : (ofL (joinL x.rel)).data.toList = baseL x.ep x.rel := by rw [jd]; unfold baseL; rw [if_pos he]; rfl
  generalize hT0 : ofL (joinL x.rel) = T0 at *
  clear hT0
  have y0 : T0.size ≤ 5000000 := by omega
  obtain ⟨a1, T1, e1, f1, s1, g1, d1⟩ := catB T0 (ofL (preW x.c)) x.n
  have qz1 : (ofL (preW x.c)).size ≤ 2 := by rw [ofL_size]; exact preW_len _
  have D1 : T1.data.toList = T0.data.toList ++ preT x := by rw [d1, ofL_data]; unfold preT; rw [if_neg hc]
  have y1 : T1.size ≤ 11100000 := by omega
  have y1' : a1.size ≤ 6000000 := by omega
  clear s1 g1 d1
  obtain ⟨a2, T2, e2, f2, s2, g2, d2⟩ := catB T1 ⟨#[46, 112, 111, 115, 116]⟩ x.m
  have qz2 : (⟨#[46, 112, 111, 115, 116]⟩ : ByteArray).size = 5 := rfl
  have D2 : T2.data.toList = T1.data.toList ++ postT x := by rw [d2]; unfold postT; rw [hb]; rfl
  have y2 : T2.size ≤ 17100000 := by omega
  have y2' : a2.size ≤ 6000000 := by omega
  clear s2 g2 d2 qz2
  obtain ⟨a3, T3, e3, f3, s3, g3, d3⟩ := catB T2 ⟨#[46, 100, 101, 118]⟩ x.k
  have qz3 : (⟨#[46, 100, 101, 118]⟩ : ByteArray).size = 4 := rfl
  have D3 : T3.data.toList = T2.data.toList ++ devT x := by rw [d3]; unfold devT; rw [hd]; rfl
  have y3 : T3.size ≤ 23100000 := by omega
  have y3' : a3.size ≤ 6000000 := by omega
  clear s3 g3 d3 qz3
  obtain ⟨a4, T4, e4, f4, s4, g4, d4⟩ := catB T3 ⟨#[43]⟩ (joinL x.loc)
  have qz4 : (⟨#[43]⟩ : ByteArray).size = 1 := rfl
  have D4 : T4.data.toList = T3.data.toList ++ locT x := by rw [d4]; unfold locT; rw [if_neg hl]; rfl
  have y4 : T4.size ≤ 29100000 := by omega
  have y4' : a4.size ≤ 6000000 := by omega
  clear s4 g4 d4 qz4
  have HL : Hid (T4 = ofL (textP x)) := by
    show _ = _
    apply ba_ext
    rw [ofL_data, D4, D3, D2, D1, D0]
    unfold textP tailT
    skip
    simp
  have F := hide F
  have J1 := hide J1
  have J2 := hide J2
  have hcb : (x.c != 0) = true := by simpa using hc
  have PW := hide (fun w => preWord_any x.c (by rcases hf.f4 with h | h | h | h <;> omega) w)
  generalize ofL (preW x.c) = PB at *
  have HB := hide hb
  have HD := hide hd
  clear he hl hc hb hd D0 D1 D2 D3 D4 jd hf hx
  go_enter Tryz.func16, Tryz.ntmps16
  go_wp2_with fail
  generalize w.alloc (.cells #[.string (ofL x.ep), .slice r1 x.rel.length c1, .int .u8 x.c, .string (ofL x.n), .bool x.b, .string (ofL x.m), .bool x.d, .string (ofL x.k), .slice q1 x.loc.length d1] 24) = W0 at *
  obtain ⟨s0, s1, s2, s3, s4, s5, s6, s7, s8⟩ := S0.seen
  refine (F.out _ S0.rr S0.ll).mono ?_
  rintro e' v1 ⟨rfl, b1⟩
  have S1 := S0.next b1
  obtain ⟨t0, t1, t2, t3, t4, t5, t6, t7, t8⟩ := S1.seen
  rw [HB.out] at t4
  rw [HD.out] at t6
  go_wp2_with fail
  refine (J1.out _ S1.rr).mono ?_
  rintro e' v2 ⟨rfl, b2⟩
  have S2 := S1.next b2
  obtain ⟨i0, i1, i2, i3, i4, i5, i6, i7, i8⟩ := S2.seen
  rw [HB.out] at i4
  rw [HD.out] at i6
  go_wp2_with fail
  have D2 := S2.next (Below.refl _ v2).drew
  go_region_with (go_at_call 47; refine (PW.out _).mono ?_; rintro e' v3 ⟨rfl, b3⟩; have S3 := D2.next b3; obtain ⟨j0, j1, j2, j3, j4, j5, j6, j7, j8⟩ := S3.seen; rw [HB.out] at j4; rw [HD.out] at j6)
  all_goals go_wp2_with fail
  all_goals (refine (J2.out _ S3.ll).mono ?_; rintro e' v4 ⟨rfl, b4⟩; have S4 := S3.next b4; go_wp2_with fail)
  all_goals go_ret
  all_goals exact ⟨ret_s (by first | exact HL.out | rw [← HL.out]), S4.bel⟩

end Go.Proofs.YtagnikhkmaplpaaGreat

/-
  Walks: the texts of fit versions (an epoch, no pre-release).
-/
namespace Go.Proofs.YtagnikhkmaplpaaGreat
open Go.RowKit Go.Shelf
set_option linter.unusedVariables false

set_option maxRecDepth 100000 in
set_option maxHeartbeats 4000000 in
theorem Text_e0000 (x : PepL) (r1 q1 : Option Addr) (c1 d1 : Nat) (w : World) (rr : Txt w (.slice r1 x.rel.length c1) x.rel) (ll : Txt w (.slice q1 x.loc.length d1) x.loc) (k1 : x.rel.length ≤ c1) (k2 : x.loc.length ≤ d1) (hx : SmallP x) (hf : FitT x) (he : x.ep ≠ [48]) (hc : x.c = 0) (hb : x.b = false) (hd : x.d = false) (hl : x.loc = []) :
    Calls Tryz.prog 16 #[.agg #[.string (ofL x.ep), .slice r1 x.rel.length c1, .int .u8 x.c, .string (ofL x.n), .bool x.b, .string (ofL x.m), .bool x.d, .string (ofL x.k), .slice q1 x.loc.length d1]] w fun e w' => e = .returned (.string (ofL (textP x))) ∧ Below w.heap.size w w' := by
  have F := fun w rr ll => Fit_true x r1 q1 c1 d1 w rr ll hx hf
  have J1 := fun w h => Join_any (.slice r1 x.rel.length c1) x.rel w h (by rintro a n c h; cases h; exact k1) (by have := hx.rI; omega)
  have hlb : ¬ (0 : Int) < (x.loc.length : Int) := by rw [hl]; simp
  have heb := eq48' x.ep false (by simpa using he)
  have S0 := TB.start rr ll
  have z1 := hx.e
  have z2 := hx.n
  have z3 := hx.m
  have z3' := hx.k
  have z4 := Nat.le_trans (joinL_len x.rel) (hx.rI)
  have z5 := Nat.le_trans (joinL_len x.loc) (hx.lI)
  have o1 := ofL_size x.ep
  have o2 := ofL_size x.n
  have o3 := ofL_size x.m
  have o6 := ofL_size x.k
  have o4 := ofL_size (joinL x.rel)
  have o5 := ofL_size (joinL x.loc)
  have jd := ofL_data (joinL x.rel)
  obtain ⟨u1, T0, a0, g0, s0, s0', d0'⟩ : ∃ u1 T0 : ByteArray, ofL x.ep ++ ⟨#[33]⟩ = u1 ∧ u1 ++ ofL (joinL x.rel) = T0 ∧ u1.size = x.ep.length + 1 ∧ T0.size = x.ep.length + 1 + (joinL x.rel).length ∧ T0.data.toList = x.ep ++ [33] ++ joinL x.rel := by
    obtain ⟨u1, e1, s1, d1⟩ := cat_step (ofL x.ep) ⟨#[33]⟩
    obtain ⟨u2, e2, s2, d2⟩ := cat_step u1 (ofL (joinL x.rel))
    exact ⟨u1, u2, e1, e2, by rw [s1, ofL_size]; rfl, by rw [s2, s1, ofL_size, ofL_size]; rfl, by rw [d2, d1, ofL_data, ofL_data]⟩
  have D0 : T0.data.toList = baseL x.ep x.rel := by rw [d0']; unfold baseL; rw [if_neg he]
  generalize ofL (joinL x.rel) = JB at *
  have y0 : T0.size ≤ 5100000 := by omega
  have y0' : u1.size ≤ 5100000 := by omega
  clear d0' s0 s0'
  have D1 : preT x = [] := by unfold preT; rw [if_pos hc]
  have D2 : postT x = [] := by unfold postT; rw [hb]; rfl
  have D3 : devT x = [] := by unfold devT; rw [hd]; rfl
  have D4 : locT x = [] := by unfold locT; rw [if_pos hl]
  have HL : Hid (T0 = ofL (textP x)) := by
    show _ = _
    apply ba_ext
    rw [ofL_data, D0]
    unfold textP tailT
    rw [D1, D2, D3, D4]
    simp
  have F := hide F
  have J1 := hide J1
  have HC := hide hc
  have HB := hide hb
  have HD := hide hd
  clear he hl hc hb hd D0 D1 D2 D3 D4 jd hf hx
  go_enter Tryz.func16, Tryz.ntmps16
  go_wp2_with fail
  generalize w.alloc (.cells #[.string (ofL x.ep), .slice r1 x.rel.length c1, .int .u8 x.c, .string (ofL x.n), .bool x.b, .string (ofL x.m), .bool x.d, .string (ofL x.k), .slice q1 x.loc.length d1] 24) = W0 at *
  obtain ⟨s0, s1, s2, s3, s4, s5, s6, s7, s8⟩ := S0.seen
  refine (F.out _ S0.rr S0.ll).mono ?_
  rintro e' v1 ⟨rfl, b1⟩
  have S1 := S0.next b1
  obtain ⟨t0, t1, t2, t3, t4, t5, t6, t7, t8⟩ := S1.seen
  rw [HC.out] at t2
  rw [HB.out] at t4
  rw [HD.out] at t6
  go_wp2_with fail
  refine (J1.out _ S1.rr).mono ?_
  rintro e' v2 ⟨rfl, b2⟩
  have S2 := S1.next b2
  obtain ⟨i0, i1, i2, i3, i4, i5, i6, i7, i8⟩ := S2.seen
  rw [HC.out] at i2
  rw [HB.out] at i4
  rw [HD.out] at i6
  go_wp2_with fail
  go_ret
  exact ⟨ret_s (by first | exact HL.out | rw [← HL.out]), S2.bel⟩

set_option maxRecDepth 100000 in
set_option maxHeartbeats 4000000 in
theorem Text_e0001 (x : PepL) (r1 q1 : Option Addr) (c1 d1 : Nat) (w : World) (rr : Txt w (.slice r1 x.rel.length c1) x.rel) (ll : Txt w (.slice q1 x.loc.length d1) x.loc) (k1 : x.rel.length ≤ c1) (k2 : x.loc.length ≤ d1) (hx : SmallP x) (hf : FitT x) (he : x.ep ≠ [48]) (hc : x.c = 0) (hb : x.b = false) (hd : x.d = false) (hl : x.loc ≠ []) :
    Calls Tryz.prog 16 #[.agg #[.string (ofL x.ep), .slice r1 x.rel.length c1, .int .u8 x.c, .string (ofL x.n), .bool x.b, .string (ofL x.m), .bool x.d, .string (ofL x.k), .slice q1 x.loc.length d1]] w fun e w' => e = .returned (.string (ofL (textP x))) ∧ Below w.heap.size w w' := by
  have F := fun w rr ll => Fit_true x r1 q1 c1 d1 w rr ll hx hf
  have J1 := fun w h => Join_any (.slice r1 x.rel.length c1) x.rel w h (by rintro a n c h; cases h; exact k1) (by have := hx.rI; omega)
  have J2 := fun w h => Join_any (.slice q1 x.loc.length d1) x.loc w h (by rintro a n c h; cases h; exact k2) (by have := hx.lI; omega)
  have hlb : (0 : Int) < (x.loc.length : Int) := by have := List.length_pos_iff.2 hl; omega
  have heb := eq48' x.ep false (by simpa using he)
  have S0 := TB.start rr ll
  have z1 := hx.e
  have z2 := hx.n
  have z3 := hx.m
  have z3' := hx.k
  have z4 := Nat.le_trans (joinL_len x.rel) (hx.rI)
  have z5 := Nat.le_trans (joinL_len x.loc) (hx.lI)
  have o1 := ofL_size x.ep
  have o2 := ofL_size x.n
  have o3 := ofL_size x.m
  have o6 := ofL_size x.k
  have o4 := ofL_size (joinL x.rel)
  have o5 := ofL_size (joinL x.loc)
  have jd := ofL_data (joinL x.rel)
  obtain ⟨u1, T0, a0, g0, s0, s0', d0'⟩ : ∃ u1 T0 : ByteArray, ofL x.ep ++ ⟨#[33]⟩ = u1 ∧ u1 ++ ofL (joinL x.rel) = T0 ∧ u1.size = x.ep.length + 1 ∧ T0.size = x.ep.length + 1 + (joinL x.rel).length ∧ T0.data.toList = x.ep ++ [33] ++ joinL x.rel := by
    obtain ⟨u1, e1, s1, d1⟩ := cat_step (ofL x.ep) ⟨#[33]⟩
    obtain ⟨u2, e2, s2, d2⟩ := cat_step u1 (ofL (joinL x.rel))
    exact ⟨u1, u2, e1, e2, by rw [s1, ofL_size]; rfl, by rw [s2, s1, ofL_size, ofL_size]; rfl, by rw [d2, d1, ofL_data, ofL_data]⟩
  have D0 : T0.data.toList = baseL x.ep x.rel := by rw [d0']; unfold baseL; rw [if_neg he]
  generalize ofL (joinL x.rel) = JB at *
  have y0 : T0.size ≤ 5100000 := by omega
  have y0' : u1.size ≤ 5100000 := by omega
  clear d0' s0 s0'
  have D1 : preT x = [] := by unfold preT; rw [if_pos hc]
  have D2 : postT x = [] := by unfold postT; rw [hb]; rfl
  have D3 : devT x = [] := by unfold devT; rw [hd]; rfl
  obtain ⟨a4, T4, e4, f4, s4, g4, d4⟩ := catB T0 ⟨#[43]⟩ (joinL x.loc)
  have q4 : (⟨#[43]⟩ : ByteArray).size = 1 := rfl
  have D4 : T4.data.toList = T0.data.toList ++ locT x := by rw [d4]; unfold locT; rw [if_neg hl]; rfl
  have y4 : T4.size ≤ 29100000 := by omega
  have y4' : a4.size ≤ 6000000 := by omega
  clear s4 g4 d4 q4
  have HL : Hid (T4 = ofL (textP x)) := by
    show _ = _
    apply ba_ext
    rw [ofL_data, D4, D0]
    unfold textP tailT
    rw [D1, D2, D3]
    simp
  have F := hide F
  have J1 := hide J1
  have J2 := hide J2
  have HC := hide hc
  have HB := hide hb
  have HD := hide hd
  clear he hl hc hb hd D0 D1 D2 D3 D4 jd hf hx
  go_enter Tryz.func16, Tryz.ntmps16
  go_wp2_with fail
  generalize w.alloc (.cells #[.string (ofL x.ep), .slice r1 x.rel.length c1, .int .u8 x.c, .string (ofL x.n), .bool x.b, .string (ofL x.m), .bool x.d, .string (ofL x.k), .slice q1 x.loc.length d1] 24) = W0 at *
  obtain ⟨s0, s1, s2, s3, s4, s5, s6, s7, s8⟩ := S0.seen
  refine (F.out _ S0.rr S0.ll).mono ?_
  rintro e' v1 ⟨rfl, b1⟩
  have S1 := S0.next b1
  obtain ⟨t0, t1, t2, t3, t4, t5, t6, t7, t8⟩ := S1.seen
  rw [HC.out] at t2
  rw [HB.out] at t4
  rw [HD.out] at t6
  go_wp2_with fail
  refine (J1.out _ S1.rr).mono ?_
  rintro e' v2 ⟨rfl, b2⟩
  have S2 := S1.next b2
  obtain ⟨i0, i1, i2, i3, i4, i5, i6, i7, i8⟩ := S2.seen
  rw [HC.out] at i2
  rw [HB.out] at i4
  rw [HD.out] at i6
  go_wp2_with fail
  refine (J2.out _ S2.ll).mono ?_
  rintro e' v4 ⟨rfl, b4⟩
  have S4 := S2.next b4
  go_wp2_with fail
  go_ret
  exact ⟨ret_s (by first | exact HL.out | rw [← HL.out]), S4.bel⟩

set_option maxRecDepth 100000 in
set_option maxHeartbeats 4000000 in
theorem Text_e0010 (x : PepL) (r1 q1 : Option Addr) (c1 d1 : Nat) (w : World) (rr : Txt w (.slice r1 x.rel.length c1) x.rel) (ll : Txt w (.slice q1 x.loc.length d1) x.loc) (k1 : x.rel.length ≤ c1) (k2 : x.loc.length ≤ d1) (hx : SmallP x) (hf : FitT x) (he : x.ep ≠ [48]) (hc : x.c = 0) (hb : x.b = false) (hd : x.d = true) (hl : x.loc = []) :
    Calls Tryz.prog 16 #[.agg #[.string (ofL x.ep), .slice r1 x.rel.length c1, .int .u8 x.c, .string (ofL x.n), .bool x.b, .string (ofL x.m), .bool x.d, .string (ofL x.k), .slice q1 x.loc.length d1]] w fun e w' => e = .returned (.string (ofL (textP x))) ∧ Below w.heap.size w w' := by
  have F := fun w rr ll => Fit_true x r1 q1 c1 d1 w rr ll hx hf
  have J1 := fun w h => Join_any (.slice r1 x.rel.length c1) x.rel w h (by rintro a n c h; cases h; exact k1) (by have := hx.rI; omega)
  have hlb : ¬ (0 : Int) < (x.loc.length : Int) := by rw [hl]; simp
  have heb := eq48' x.ep false (by simpa using he)
  have S0 := TB.start rr ll
  have z1 := hx.e
  have z2 := hx.n
  have z3 := hx.m
  have z3' := hx.k
  have z4 := Nat.le_trans (joinL_len x.rel) (hx.rI)
  have z5 := Nat.le_trans (joinL_len x.loc) (hx.lI)
  have o1 := ofL_size x.ep
  have o2 := ofL_size x.n
  have o3 := ofL_size x.m
  have o6 := ofL_size x.k
  have o4 := ofL_size (joinL x.rel)
  have o5 := ofL_size (joinL x.loc)
  have jd := ofL_data (joinL x.rel)
  obtain ⟨u1, T0, a0, g0, s0, s0', d0'⟩ : ∃ u1 T0 : ByteArray, ofL x.ep ++ ⟨#[33]⟩ = u1 ∧ u1 ++ ofL (joinL x.rel) = T0 ∧ u1.size = x.ep.length + 1 ∧ T0.size = x.ep.length + 1 + (joinL x.rel).length ∧ T0.data.toList = x.ep ++ [33] ++ joinL x.rel := by
    obtain ⟨u1, e1, s1, d1⟩ := cat_step (ofL x.ep) ⟨#[33]⟩
    obtain ⟨u2, e2, s2, d2⟩ := cat_step u1 (ofL (joinL x.rel))
    exact ⟨u1, u2, e1, e2, by rw [s1, ofL_size]; rfl, by rw [s2, s1, ofL_size, ofL_size]; rfl, by rw [d2, d1, ofL_data, ofL_data]⟩
  have D0 : T0.data.toList = baseL x.ep x.rel := by rw [d0']; unfold baseL; rw [if_neg he]
  generalize ofL (joinL x.rel) = JB at *
  have y0 : T0.size ≤ 5100000 := by omega
  have y0' : u1.size ≤ 5100000 := by omega
  clear d0' s0 s0'
  have D1 : preT x = [] := by unfold preT; rw [if_pos hc]
  have D2 : postT x = [] := by unfold postT; rw [hb]; rfl
  obtain ⟨a3, T3, e3, f3, s3, g3, d3⟩ := catB T0 ⟨#[46, 100, 101, 118]⟩ x.k
  have q3 : (⟨#[46, 100, 101, 118]⟩ : ByteArray).size = 4 := rfl
  have D3 : T3.data.toList = T0.data.toList ++ devT x := by rw [d3]; unfold devT; rw [hd]; rfl
  have y3 : T3.size ≤ 23100000 := by omega
  have y3' : a3.size ≤ 6000000 := by omega
  clear s3 g3 d3 q3
  have D4 : locT x = [] := by unfold locT; rw [if_pos hl]
  have HL : Hid (T3 = ofL (textP x)) := by
    show _ = _
    apply ba_ext
    rw [ofL_data, D3, D0]
    unfold textP tailT
    rw [D1, D2, D4]
    simp
  have F := hide F
  have J1 := hide J1
  have HC := hide hc
  have HB := hide hb
  have HD := hide hd
  clear he hl hc hb hd D0 D1 D2 D3 D4 jd hf hx
  go_enter Tryz.func16, Tryz.ntmps16
  go_wp2_with fail
  generalize w.alloc (.cells #[.string (ofL x.ep), .slice r1 x.rel.length c1, .int .u8 x.c, .string (ofL x.n), .bool x.b, .string (ofL x.m), .bool x.d, .string (ofL x.k), .slice q1 x.loc.length d1] 24) = W0 at *
  obtain ⟨s0, s1, s2, s3, s4, s5, s6, s7, s8⟩ := S0.seen
  refine (F.out _ S0.rr S0.ll).mono ?_
  rintro e' v1 ⟨rfl, b1⟩
  have S1 := S0.next b1
  obtain ⟨t0, t1, t2, t3, t4, t5, t6, t7, t8⟩ := S1.seen
  rw [HC.out] at t2
  rw [HB.out] at t4
  rw [HD.out] at t6
  go_wp2_with fail
  refine (J1.out _ S1.rr).mono ?_
  rintro e' v2 ⟨rfl, b2⟩
  have S2 := S1.next b2
  obtain ⟨i0, i1, i2, i3, i4, i5, i6, i7, i8⟩ := S2.seen
  rw [HC.out] at i2
  rw [HB.out] at i4
  rw [HD.out] at i6
  go_wp2_with fail
  go_ret
  exact ⟨ret_s (by first | exact HL.out | rw [← HL.out]), S2.bel⟩

set_option maxRecDepth 100000 in
set_option maxHeartbeats 4000000 in
theorem Text_e0011 (x : PepL) (r1 q1 : Option Addr) (c1 d1 : Nat) (w : World) (rr : Txt w (.slice r1 x.rel.length c1) x.rel) (ll : Txt w (.slice q1 x.loc.length d1) x.loc) (k1 : x.rel.length ≤ c1) (k2 : x.loc.length ≤ d1) (hx : SmallP x) (hf : FitT x) (he : x.ep ≠ [48]) (hc : x.c = 0) (hb : x.b = false) (hd : x.d = true) (hl : x.loc ≠ []) :
    Calls Tryz.prog 16 #[.agg #[.string (ofL x.ep), .slice r1 x.rel.length c1, .int .u8 x.c, .string (ofL x.n), .bool x.b, .string (ofL x.m), .bool x.d, .string (ofL x.k), .slice q1 x.loc.length d1]] w fun e w' => e = .returned (.string (ofL (textP x))) ∧ Below w.heap.size w w' := by
  have F := fun w rr ll => Fit_true x r1 q1 c1 d1 w rr ll hx hf
  have J1 := fun w h => Join_any (.slice r1 x.rel.length c1) x.rel w h (by rintro a n c h; cases h; exact k1) (by have := hx.rI; omega)
  have J2 := fun w h => Join_any (.slice q1 x.loc.length d1) x.loc w h (by rintro a n c h; cases h; exact k2) (by have := hx.lI; omega)
  have hlb : (0 : Int) < (x.loc.length : Int) := by have := List.length_pos_iff.2 hl; omega
  have heb := eq48' x.ep false (by simpa using he)
  have S0 := TB.start rr ll
  have z1 := hx.e
  have z2 := hx.n
  have z3 := hx.m
  have z3' := hx.k
  have z4 := Nat.le_trans (joinL_len x.rel) (hx.rI)
  have z5 := Nat.le_trans (joinL_len x.loc) (hx.lI)
  have o1 := ofL_size x.ep
  have o2 := ofL_size x.n
  have o3 := ofL_size x.m
  have o6 := ofL_size x.k
  have o4 := ofL_size (joinL x.rel)
  have o5 := ofL_size (joinL x.loc)
  have jd := ofL_data (joinL x.rel)
  obtain ⟨u1, T0, a0, g0, s0, s0', d0'⟩ : ∃ u1 T0 : ByteArray, ofL x.ep ++ ⟨#[33]⟩ = u1 ∧ u1 ++ ofL (joinL x.rel) = T0 ∧ u1.size = x.ep.length + 1 ∧ T0.size = x.ep.length + 1 + (joinL x.rel).length ∧ T0.data.toList = x.ep ++ [33] ++ joinL x.rel := by
    obtain ⟨u1, e1, s1, d1⟩ := cat_step (ofL x.ep) ⟨#[33]⟩
    obtain ⟨u2, e2, s2, d2⟩ := cat_step u1 (ofL (joinL x.rel))
    exact ⟨u1, u2, e1, e2, by rw [s1, ofL_size]; rfl, by rw [s2, s1, ofL_size, ofL_size]; rfl, by rw [d2, d1, ofL_data, ofL_data]⟩
  have D0 : T0.data.toList = baseL x.ep x.rel := by rw [d0']; unfold baseL; rw [if_neg he]
  generalize ofL (joinL x.rel) = JB at *
  have y0 : T0.size ≤ 5100000 := by omega
  have y0' : u1.size ≤ 5100000 := by omega
  clear d0' s0 s0'
  have D1 : preT x = [] := by unfold preT; rw [if_pos hc]
  have D2 : postT x = [] := by unfold postT; rw [hb]; rfl
  obtain ⟨a3, T3, e3, f3, s3, g3, d3⟩ := catB T0 ⟨#[46, 100, 101, 118]⟩ x.k
  have q3 : (⟨#[46, 100, 101, 118]⟩ : ByteArray).size = 4 := rfl
  have D3 : T3.data.toList = T0.data.toList ++ devT x := by rw [d3]; unfold devT; rw [hd]; rfl
  have y3 : T3.size ≤ 23100000 := by omega
  have y3' : a3.size ≤ 6000000 := by omega
  clear s3 g3 d3 q3
  obtain ⟨a4, T4, e4, f4, s4, g4, d4⟩ := catB T3 ⟨#[43]⟩ (joinL x.loc)
  have q4 : (⟨#[43]⟩ : ByteArray).size = 1 := rfl
  have D4 : T4.data.toList = T3.data.toList ++ locT x := by rw [d4]; unfold locT; rw [if_neg hl]; rfl
  have y4 : T4.size ≤ 29100000 := by omega
  have y4' : a4.size ≤ 6000000 := by omega
  clear s4 g4 d4 q4
  have HL : Hid (T4 = ofL (textP x)) := by
    show _ = _
    apply ba_ext
    rw [ofL_data, D4, D3, D0]
    unfold textP tailT
    rw [D1, D2]
    simp
  have F := hide F
  have J1 := hide J1
  have J2 := hide J2
  have HC := hide hc
  have HB := hide hb
  have HD := hide hd
  clear he hl hc hb hd D0 D1 D2 D3 D4 jd hf hx
  go_enter Tryz.func16, Tryz.ntmps16
  go_wp2_with fail
  generalize w.alloc (.cells #[.string (ofL x.ep), .slice r1 x.rel.length c1, .int .u8 x.c, .string (ofL x.n), .bool x.b, .string (ofL x.m), .bool x.d, .string (ofL x.k), .slice q1 x.loc.length d1] 24) = W0 at *
  obtain ⟨s0, s1, s2, s3, s4, s5, s6, s7, s8⟩ := S0.seen
  refine (F.out _ S0.rr S0.ll).mono ?_
  rintro e' v1 ⟨rfl, b1⟩
  have S1 := S0.next b1
  obtain ⟨t0, t1, t2, t3, t4, t5, t6, t7, t8⟩ := S1.seen
  rw [HC.out] at t2
  rw [HB.out] at t4
  rw [HD.out] at t6
  go_wp2_with fail
  refine (J1.out _ S1.rr).mono ?_
  rintro e' v2 ⟨rfl, b2⟩
  have S2 := S1.next b2
  obtain ⟨i0, i1, i2, i3, i4, i5, i6, i7, i8⟩ := S2.seen
  rw [HC.out] at i2
  rw [HB.out] at i4
  rw [HD.out] at i6
  go_wp2_with fail
  refine (J2.out _ S2.ll).mono ?_
  rintro e' v4 ⟨rfl, b4⟩
  have S4 := S2.next b4
  go_wp2_with fail
  go_ret
  exact ⟨ret_s (by first | exact HL.out | rw [← HL.out]), S4.bel⟩

set_option maxRecDepth 100000 in
set_option maxHeartbeats 4000000 in
theorem Text_e0100 (x : PepL) (r1 q1 : Option Addr) (c1 d1 : Nat) (w : World) (rr : Txt w (.slice r1 x.rel.length c1) x.rel) (ll : Txt w (.slice q1 x.loc.length d1) x.loc) (k1 : x.rel.length ≤ c1) (k2 : x.loc.length ≤ d1) (hx : SmallP x) (hf : FitT x) (he : x.ep ≠ [48]) (hc : x.c = 0) (hb : x.b = true) (hd : x.d = false) (hl : x.loc = []) :
    Calls Tryz.prog 16 #[.agg #[.string (ofL x.ep), .slice r1 x.rel.length c1, .int .u8 x.c, .string (ofL x.n), .bool x.b, .string (ofL x.m), .bool x.d, .string (ofL x.k), .slice q1 x.loc.length d1]] w fun e w' => e = .returned (.string (ofL (textP x))) ∧ Below w.heap.size w w' := by
  have F := fun w rr ll => Fit_true x r1 q1 c1 d1 w rr ll hx hf
  have J1 := fun w h => Join_any (.slice r1 x.rel.length c1) x.rel w h (by rintro a n c h; cases h; exact k1) (by have := hx.rI; omega)
  have hlb : ¬ (0 : Int) < (x.loc.length : Int) := by rw [hl]; simp
  have heb := eq48' x.ep false (by simpa using he)
  have S0 := TB.start rr ll
  have z1 := hx.e
  have z2 := hx.n
  have z3 := hx.m
  have z3' := hx.k
  have z4 := Nat.le_trans (joinL_len x.rel) (hx.rI)
  have z5 := Nat.le_trans (joinL_len x.loc) (hx.lI)
  have o1 := ofL_size x.ep
  have o2 := ofL_size x.n
  have o3 := ofL_size x.m
  have o6 := ofL_size x.k
  have o4 := ofL_size (joinL x.rel)
  have o5 := ofL_size (joinL x.loc)
  have jd := ofL_data (joinL x.rel)
  obtain ⟨u1, T0, a0, g0, s0, s0', d0'⟩ : ∃ u1 T0 : ByteArray, ofL x.ep ++ ⟨#[33]⟩ = u1 ∧ u1 ++ ofL (joinL x.rel) = T0 ∧ u1.size = x.ep.length + 1 ∧ T0.size = x.ep.length + 1 + (joinL x.rel).length ∧ T0.data.toList = x.ep ++ [33] ++ joinL x.rel := by
    obtain ⟨u1, e1, s1, d1⟩ := cat_step (ofL x.ep) ⟨#[33]⟩
    obtain ⟨u2, e2, s2, d2⟩ := cat_step u1 (ofL (joinL x.rel))
    exact ⟨u1, u2, e1, e2, by rw [s1, ofL_size]; rfl, by rw [s2, s1, ofL_size, ofL_size]; rfl, by rw [d2, d1, ofL_data, ofL_data]⟩
  have D0 : T0.data.toList = baseL x.ep x.rel := by rw [d0']; unfold baseL; rw [if_neg he]
  generalize ofL (joinL x.rel) = JB at *
  have y0 : T0.size ≤ 5100000 := by omega
  have y0' : u1.size ≤ 5100000 := by omega
  clear d0' s0 s0'
  have D1 : preT x = [] := by unfold preT; rw [if_pos hc]
  obtain ⟨a2, T2, e2, f2, s2, g2, d2⟩ := catB T0 ⟨#[46, 112, 111, 115, 116]⟩ x.m
  have q2 : (⟨#[46, 112, 111, 115, 116]⟩ : ByteArray).size = 5 := rfl
  have D2 : T2.data.toList = T0.data.toList ++ postT x := by rw [d2]; unfold postT; rw [hb]; rfl
  have y2 : T2.size ≤ 17100000 := by omega
  have y2' : a2.size ≤ 6000000 := by omega
  clear s2 g2 d2 q2
  have D3 : devT x = [] := by unfold devT; rw [hd]; rfl
  have D4 : locT x = [] := by unfold locT; rw [if_pos hl]
  have HL : Hid (T2 = ofL (textP x)) := by
    show _ = _
    apply ba_ext
    rw [ofL_data, D2, D0]
    unfold textP tailT
    rw [D1, D3, D4]
    simp
  have F := hide F
  have J1 := hide J1
  have HC := hide hc
  have HB := hide hb
  have HD := hide hd
  clear he hl hc hb hd D0 D1 D2 D3 D4 jd hf hx
  go_enter Tryz.func16, Tryz.ntmps16
  go_wp2_with fail
  generalize w.alloc (.cells #[.string (ofL x.ep), .slice r1 x.rel.length c1, .int .u8 x.c, .string (ofL x.n), .bool x.b, .string (ofL x.m), .bool x.d, .string (ofL x.k), .slice q1 x.loc.length d1] 24) = W0 at *
  obtain ⟨s0, s1, s2, s3, s4, s5, s6, s7, s8⟩ := S0.seen
  refine (F.out _ S0.rr S0.ll).mono ?_
  rintro e' v1 ⟨rfl, b1⟩
  have S1 := S0.next b1
  obtain ⟨t0, t1, t2, t3, t4, t5, t6, t7, t8⟩ := S1.seen
  rw [HC.out] at t2
  rw [HB.out] at t4
  rw [HD.out] at t6
  go_wp2_with fail
  refine (J1.out _ S1.rr).mono ?_
  rintro e' v2 ⟨rfl, b2⟩
  have S2 := S1.next b2
  obtain ⟨i0, i1, i2, i3, i4, i5, i6, i7, i8⟩ := S2.seen
  rw [HC.out] at i2
  rw [HB.out] at i4
  rw [HD.out] at i6
  go_wp2_with fail
  go_ret
  exact ⟨ret_s (by first | exact HL.out | rw [← HL.out]), S2.bel⟩

set_option maxRecDepth 100000 in
set_option maxHeartbeats 4000000 in
theorem Text_e0101 (x : PepL) (r1 q1 : Option Addr) (c1 d1 : Nat) (w : World) (rr : Txt w (.slice r1 x.rel.length c1) x.rel) (ll : Txt w (.slice q1 x.loc.length d1) x.loc) (k1 : x.rel.length ≤ c1) (k2 : x.loc.length ≤ d1) (hx : SmallP x) (hf : FitT x) (he : x.ep ≠ [48]) (hc : x.c = 0) (hb : x.b = true) (hd : x.d = false) (hl : x.loc ≠ []) :
    Calls Tryz.prog 16 #[.agg #[.string (ofL x.ep), .slice r1 x.rel.length c1, .int .u8 x.c, .string (ofL x.n), .bool x.b, .string (ofL x.m), .bool x.d, .string (ofL x.k), .slice q1 x.loc.length d1]] w fun e w' => e = .returned (.string (ofL (textP x))) ∧ Below w.heap.size w w' := by
  have F := fun w rr ll => Fit_true x r1 q1 c1 d1 w rr ll hx hf
  have J1 := fun w h => Join_any (.slice r1 x.rel.length c1) x.rel w h (by rintro a n c h; cases h; exact k1) (by have := hx.rI; omega)
  have J2 := fun w h => Join_any (.slice q1 x.loc.length d1) x.loc w h (by rintro a n c h; cases h; exact k2) (by have := hx.lI; omega)
  have hlb : (0 : Int) < (x.loc.length : Int) := by have := List.length_pos_iff.2 hl; omega
  have heb := eq48' x.ep false (by simpa using he)
  have S0 := TB.start rr ll
  have z1 := hx.e
  have z2 := hx.n
  have z3 := hx.m
  have z3' := hx.k
  have z4 := Nat.le_trans (joinL_len x.rel) (hx.rI)
  have z5 := Nat.le_trans (joinL_len x.loc) (hx.lI)
  have o1 := ofL_size x.ep
  have o2 := ofL_size x.n
  have o3 := ofL_size x.m
  have o6 := ofL_size x.k
  have o4 := ofL_size (joinL x.rel)
  have o5 := ofL_size (joinL x.loc)
  have jd := ofL_data (joinL x.rel)
  obtain ⟨u1, T0, a0, g0, s0, s0', d0'⟩ : ∃ u1 T0 : ByteArray, ofL x.ep ++ ⟨#[33]⟩ = u1 ∧ u1 ++ ofL (joinL x.rel) = T0 ∧ u1.size = x.ep.length + 1 ∧ T0.size = x.ep.length + 1 + (joinL x.rel).length ∧ T0.data.toList = x.ep ++ [33] ++ joinL x.rel := by
    obtain ⟨u1, e1, s1, d1⟩ := cat_step (ofL x.ep) ⟨#[33]⟩
    obtain ⟨u2, e2, s2, d2⟩ := cat_step u1 (ofL (joinL x.rel))
    exact ⟨u1, u2, e1, e2, by rw [s1, ofL_size]; rfl, by rw [s2, s1, ofL_size, ofL_size]; rfl, by rw [d2, d1, ofL_data, ofL_data]⟩
  have D0 : T0.data.toList = baseL x.ep x.rel := by rw [d0']; unfold baseL; rw [if_neg he]
  generalize ofL (joinL x.rel) = JB at *
  have y0 : T0.size ≤ 5100000 := by omega
  have y0' : u1.size ≤ 5100000 := by omega
  clear d0' s0 s0'
  have D1 : preT x = [] := by unfold preT; rw [if_pos hc]
  obtain ⟨a2, T2, e2, f2, s2, g2, d2⟩ := catB T0 ⟨#[46, 112, 111, 115, 116]⟩ x.m
  have q2 : (⟨#[46, 112, 111, 115, 116]⟩ : ByteArray).size = 5 := rfl
  have D2 : T2.data.toList = T0.data.toList ++ postT x := by rw [d2]; unfold postT; rw [hb]; rfl
  have y2 : T2.size ≤ 17100000 := by omega
  have y2' : a2.size ≤ 6000000 := by omega
  clear s2 g2 d2 q2
  have D3 : devT x = [] := by unfold devT; rw [hd]; rfl
  obtain ⟨a4, T4, e4, f4, s4, g4, d4⟩ := catB T2 ⟨#[43]⟩ (joinL x.loc)
  have q4 : (⟨#[43]⟩ : ByteArray).size = 1 := rfl
  have D4 : T4.data.toList = T2.data.toList ++ locT x := by rw [d4]; unfold locT; rw [if_neg hl]; rfl
  have y4 : T4.size ≤ 29100000 := by omega
  have y4' : a4.size ≤ 6000000 := by omega
  clear s4 g4 d4 q4
  have HL : Hid (T4 = ofL (textP x)) := by
    show _ = _
    apply ba_ext
    rw [ofL_data, D4, D2, D0]
    unfold textP tailT
    rw [D1, D3]
    simp
  have F := hide F
  have J1 := hide J1
  have J2 := hide J2
  have HC := hide hc
  have HB := hide hb
  have HD := hide hd
  clear he hl hc hb hd D0 D1 D2 D3 D4 jd hf hx
  go_enter Tryz.func16, Tryz.ntmps16
  go_wp2_with fail
  generalize w.alloc (.cells #[.string (ofL x.ep), .slice r1 x.rel.length c1, .int .u8 x.c, .string (ofL x.n), .bool x.b, .string (ofL x.m), .bool x.d, .string (ofL x.k), .slice q1 x.loc.length d1] 24) = W0 at *
  obtain ⟨s0, s1, s2, s3, s4, s5, s6, s7, s8⟩ := S0.seen
  refine (F.out _ S0.rr S0.ll).mono ?_
  rintro e' v1 ⟨rfl, b1⟩
  have S1 := S0.next b1
  obtain ⟨t0, t1, t2, t3, t4, t5, t6, t7, t8⟩ := S1.seen
  rw [HC.out] at t2
  rw [HB.out] at t4
  rw [HD.out] at t6
  go_wp2_with fail
  refine (J1.out _ S1.rr).mono ?_
  rintro e' v2 ⟨rfl, b2⟩
  have S2 := S1.next b2
  obtain ⟨i0, i1, i2, i3, i4, i5, i6, i7, i8⟩ := S2.seen
  rw [HC.out] at i2
  rw [HB.out] at i4
  rw [HD.out] at i6
  go_wp2_with fail
  refine (J2.out _ S2.ll).mono ?_
  rintro e' v4 ⟨rfl, b4⟩
  have S4 := S2.next b4
  go_wp2_with fail
  go_ret
  exact ⟨ret_s (by first | exact HL.out | rw [← HL.out]), S4.bel⟩

set_option maxRecDepth 100000 in
set_option maxHeartbeats 4000000 in
theorem Text_e0110 (x : PepL) (r1 q1 : Option Addr) (c1 d1 : Nat) (w : World) (rr : Txt w (.slice r1 x.rel.length c1) x.rel) (ll : Txt w (.slice q1 x.loc.length d1) x.loc) (k1 : x.rel.length ≤ c1) (k2 : x.loc.length ≤ d1) (hx : SmallP x) (hf : FitT x) (he : x.ep ≠ [48]) (hc : x.c = 0) (hb : x.b = true) (hd : x.d = true) (hl : x.loc = []) :
    Calls Tryz.prog 16 #[.agg #[.string (ofL x.ep), .slice r1 x.rel.length c1, .int .u8 x.c, .string (ofL x.n), .bool x.b, .string (ofL x.m), .bool x.d, .string (ofL x.k), .slice q1 x.loc.length d1]] w fun e w' => e = .returned (.string (ofL (textP x))) ∧ Below w.heap.size w w' := by
  have F := fun w rr ll => Fit_true x r1 q1 c1 d1 w rr ll hx hf
  have J1 := fun w h => Join_any (.slice r1 x.rel.length c1) x.rel w h (by rintro a n c h; cases h; exact k1) (by have := hx.rI; omega)
  have hlb : ¬ (0 : Int) < (x.loc.length : Int) := by rw [hl]; simp
  have heb := eq48' x.ep false (by simpa using he)
  have S0 := TB.start rr ll
  have z1 := hx.e
  have z2 := hx.n
  have z3 := hx.m
  have z3' := hx.k
  have z4 := Nat.le_trans (joinL_len x.rel) (hx.rI)
  have z5 := Nat.le_trans (joinL_len x.loc) (hx.lI)
  have o1 := ofL_size x.ep
  have o2 := ofL_size x.n
  have o3 := ofL_size x.m
  have o6 := ofL_size x.k
  have o4 := ofL_size (joinL x.rel)
  have o5 := ofL_size (joinL x.loc)
  have jd := ofL_data (joinL x.rel)
  obtain ⟨u1, T0, a0, g0, s0, s0', d0'⟩ : ∃ u1 T0 : ByteArray, ofL x.ep ++ ⟨#[33]⟩ = u1 ∧ u1 ++ ofL (joinL x.rel) = T0 ∧ u1.size = x.ep.length + 1 ∧ T0.size = x.ep.length + 1 + (joinL x.rel).length ∧ T0.data.toList = x.ep ++ [33] ++ joinL x.rel := by
    obtain ⟨u1, e1, s1, d1⟩ := cat_step (ofL x.ep) ⟨#[33]⟩
    obtain ⟨u2, e2, s2, d2⟩ := cat_step u1 (ofL (joinL x.rel))
    exact ⟨u1, u2, e1, e2, by rw [s1, ofL_size]; rfl, by rw [s2, s1, ofL_size, ofL_size]; rfl, by rw [d2, d1, ofL_data, ofL_data]⟩
  have D0 : T0.data.toList = baseL x.ep x.rel := by rw [d0']; unfold baseL; rw [if_neg he]
  generalize ofL (joinL x.rel) = JB at *
  have y0 : T0.size ≤ 5100000 := by omega
  have y0' : u1.size ≤ 5100000 := by omega
  clear d0' s0 s0'
  have D1 : preT x = [] := by unfold preT; rw [if_pos hc]
  obtain ⟨a2, T2, e2, f2, s2, g2, d2⟩ := catB T0 ⟨#[46, 112, 111, 115, 116]⟩ x.m
  have q2 : (⟨#[46, 112, 111, 115, 116]⟩ : ByteArray).size = 5 := rfl
  have D2 : T2.data.toList = T0.data.toList ++ postT x := by rw [d2]; unfold postT; rw [hb]; rfl
  have y2 : T2.size ≤ 17100000 := by omega
  have y2' : a2.size ≤ 6000000 := by omega
  clear s2 g2 d2 q2
  obtain ⟨a3, T3, e3, f3, s3, g3, d3⟩ := catB T2 ⟨#[46, 100, 101, 118]⟩ x.k
  have q3 : (⟨#[46, 100, 101, 118]⟩ : ByteArray).size = 4 := rfl
  have D3 : T3.data.toList = T2.data.toList ++ devT x := by rw [d3]; unfold devT; rw [hd]; rfl
  have y3 : T3.size ≤ 23100000 := by omega
  have y3' : a3.size ≤ 6000000 := by omega
  clear s3 g3 d3 q3
  have D4 : locT x = [] := by unfold locT; rw [if_pos hl]
  have HL : Hid (T3 = ofL (textP x)) := by
    show _ = _
    apply ba_ext
    rw [ofL_data, D3, D2, D0]
    unfold textP tailT
    rw [D1, D4]
    simp
  have F := hide F
  have J1 := hide J1
  have HC := hide hc
  have HB := hide hb
  have HD := hide hd
  clear he hl hc hb hd D0 D1 D2 D3 D4 jd hf hx
  go_enter Tryz.func16, Tryz.ntmps16
  go_wp2_with fail
  generalize w.alloc (.cells #[.string (ofL x.ep), .slice r1 x.rel.length c1, .int .u8 x.c, .string (ofL x.n), .bool x.b, .string (ofL x.m), .bool x.d, .string (ofL x.k), .slice q1 x.loc.length d1] 24) = W0 at *
  obtain ⟨s0, s1, s2, s3, s4, s5, s6, s7, s8⟩ := S0.seen
  refine (F.out _ S0.rr S0.ll).mono ?_
  rintro e' v1 ⟨rfl, b1⟩
  have S1 := S0.next b1
  obtain ⟨t0, t1, t2, t3, t4, t5, t6, t7, t8⟩ := S1.seen
  rw [HC.out] at t2
  rw [HB.out] at t4
  rw [HD.out] at t6
  go_wp2_with fail
  refine (J1.out _ S1.rr).mono ?_
  rintro e' v2 ⟨rfl, b2⟩
  have S2 := S1.next b2
  obtain ⟨i0, i1, i2, i3, i4, i5, i6, i7, i8⟩ := S2.seen
  rw [HC.out] at i2
  rw [HB.out] at i4
  rw [HD.out] at i6
  go_wp2_with fail
  go_ret
  exact ⟨ret_s (by first | exact HL.out | rw [← HL.out]), S2.bel⟩

set_option maxRecDepth 100000 in
set_option maxHeartbeats 4000000 in
theorem Text_e0111 (x : PepL) (r1 q1 : Option Addr) (c1 d1 : Nat) (w : World) (rr : Txt w (.slice r1 x.rel.length c1) x.rel) (ll : Txt w (.slice q1 x.loc.length d1) x.loc) (k1 : x.rel.length ≤ c1) (k2 : x.loc.length ≤ d1) (hx : SmallP x) (hf : FitT x) (he : x.ep ≠ [48]) (hc : x.c = 0) (hb : x.b = true) (hd : x.d = true) (hl : x.loc ≠ []) :
    Calls Tryz.prog 16 #[.agg #[.string (ofL x.ep), .slice r1 x.rel.length c1, .int .u8 x.c, .string (ofL x.n), .bool x.b, .string (ofL x.m), .bool x.d, .string (ofL x.k), .slice q1 x.loc.length d1]] w fun e w' => e = .returned (.string (ofL (textP x))) ∧ Below w.heap.size w w' := by
  have F := fun w rr ll => Fit_true x r1 q1 c1 d1 w rr ll hx hf
  have J1 := fun w h => Join_any (.slice r1 x.rel.length c1) x.rel w h (by rintro a n c h; cases h; exact k1) (by have := hx.rI; omega)
  have J2 := fun w h => Join_any (.slice q1 x.loc.length d1) x.loc w h (by rintro a n c h; cases h; exact k2) (by have := hx.lI; omega)
  have hlb : (0 : Int) < (x.loc.length : Int) := by have := List.length_pos_iff.2 hl; omega
  have heb := eq48' x.ep false (by simpa using he)
  have S0 := TB.start rr ll
  have z1 := hx.e
  have z2 := hx.n
  have z3 := hx.m
  have z3' := hx.k
  have z4 := Nat.le_trans (joinL_len x.rel) (hx.rI)
  have z5 := Nat.le_trans (joinL_len x.loc) (hx.lI)
  have o1 := ofL_size x.ep
  have o2 := ofL_size x.n
  have o3 := ofL_size x.m
  have o6 := ofL_size x.k
  have o4 := ofL_size (joinL x.rel)
  have o5 := ofL_size (joinL x.loc)
  have jd := ofL_data (joinL x.rel)
  obtain ⟨u1, T0, a0, g0, s0, s0', d0'⟩ : ∃ u1 T0 : ByteArray, ofL x.ep ++ ⟨#[33]⟩ = u1 ∧ u1 ++ ofL (joinL x.rel) = T0 ∧ u1.size = x.ep.length + 1 ∧ T0.size = x.ep.length + 1 + (joinL x.rel).length ∧ T0.data.toList = x.ep ++ [33] ++ joinL x.rel := by
    obtain ⟨u1, e1, s1, d1⟩ := cat_step (ofL x.ep) ⟨#[33]⟩
    obtain ⟨u2, e2, s2, d2⟩ := cat_step u1 (ofL (joinL x.rel))
    exact ⟨u1, u2, e1, e2, by rw [s1, ofL_size]; rfl, by rw [s2, s1, ofL_size, ofL_size]; rfl, by rw [d2, d1, ofL_data, ofL_data]⟩
  have D0 : T0.data.toList = baseL x.ep x.rel := by rw [d0']; unfold baseL; rw [if_neg he]
  generalize ofL (joinL x.rel) = JB at *
  have y0 : T0.size ≤ 5100000 := by omega
  have y0' : u1.size ≤ 5100000 := by omega
  clear d0' s0 s0'
  have D1 : preT x = [] := by unfold preT; rw [if_pos hc]
  obtain ⟨a2, T2, e2, f2, s2, g2, d2⟩ := catB T0 ⟨#[46, 112, 111, 115, 116]⟩ x.m
  have q2 : (⟨#[46, 112, 111, 115, 116]⟩ : ByteArray).size = 5 := rfl
  have D2 : T2.data.toList = T0.data.toList ++ postT x := by rw [d2]; unfold postT; rw [hb]; rfl
  have y2 : T2.size ≤ 17100000 := by omega
  have y2' : a2.size ≤ 6000000 := by omega
  clear s2 g2 d2 q2
  obtain ⟨a3, T3, e3, f3, s3, g3, d3⟩ := catB T2 ⟨#[46, 100, 101, 118]⟩ x.k
  have q3 : (⟨#[46, 100, 101, 118]⟩ : ByteArray).size = 4 := rfl
  have D3 : T3.data.toList = T2.data.toList ++ devT x := by rw [d3]; unfold devT; rw [hd]; rfl
  have y3 : T3.size ≤ 23100000 := by omega
  have y3' : a3.size ≤ 6000000 := by omega
  clear s3 g3 d3 q3
  obtain ⟨a4, T4, e4, f4, s4, g4, d4⟩ := catB T3 ⟨#[43]⟩ (joinL x.loc)
  have q4 : (⟨#[43]⟩ : ByteArray).size = 1 := rfl
  have D4 : T4.data.toList = T3.data.toList ++ locT x := by rw [d4]; unfold locT; rw [if_neg hl]; rfl
  have y4 : T4.size ≤ 29100000 := by omega
  have y4' : a4.size ≤ 6000000 := by omega
  clear s4 g4 d4 q4
  have HL : Hid (T4 = ofL (textP x)) := by
    show _ = _
    apply ba_ext
    rw [ofL_data, D4, D3, D2, D0]
    unfold textP tailT
    rw [D1]
    simp
  have F := hide F
  have J1 := hide J1
  have J2 := hide J2
  have HC := hide hc
  have HB := hide hb
  have HD := hide hd
  clear he hl hc hb hd D0 D1 D2 D3 D4 jd hf hx
  go_enter Tryz.func16, Tryz.ntmps16
  go_wp2_with fail
  generalize w.alloc (.cells #[.string (ofL x.ep), .slice r1 x.rel.length c1, .int .u8 x.c, .string (ofL x.n), .bool x.b, .string (ofL x.m), .bool x.d, .string (ofL x.k), .slice q1 x.loc.length d1] 24) = W0 at *
  obtain ⟨s0, s1, s2, s3, s4, s5, s6, s7, s8⟩ := S0.seen
  refine (F.out _ S0.rr S0.ll).mono ?_
  rintro e' v1 ⟨rfl, b1⟩
  have S1 := S0.next b1
  obtain ⟨t0, t1, t2, t3, t4, t5, t6, t7, t8⟩ := S1.seen
  rw [HC.out] at t2
  rw [HB.out] at t4
  rw [HD.out] at t6
  go_wp2_with fail
  refine (J1.out _ S1.rr).mono ?_
  rintro e' v2 ⟨rfl, b2⟩
  have S2 := S1.next b2
  obtain ⟨i0, i1, i2, i3, i4, i5, i6, i7, i8⟩ := S2.seen
  rw [HC.out] at i2
  rw [HB.out] at i4
  rw [HD.out] at i6
  go_wp2_with fail
  refine (J2.out _ S2.ll).mono ?_
  rintro e' v4 ⟨rfl, b4⟩
  have S4 := S2.next b4
  go_wp2_with fail
  go_ret
  exact ⟨ret_s (by first | exact HL.out | rw [← HL.out]), S4.bel⟩

end Go.Proofs.YtagnikhkmaplpaaGreat

/-
  Walks: the texts of fit versions (an epoch, a pre-release).
-/
namespace Go.Proofs.YtagnikhkmaplpaaGreat
open Go.RowKit Go.Shelf
set_option linter.unusedVariables false

set_option maxRecDepth 100000 in
set_option maxHeartbeats 4000000 in
theorem Text_e1000 (x : PepL) (r1 q1 : Option Addr) (c1 d1 : Nat) (w : World) (rr : Txt w (.slice r1 x.rel.length c1) x.rel) (ll : Txt w (.slice q1 x.loc.length d1) x.loc) (k1 : x.rel.length ≤ c1) (k2 : x.loc.length ≤ d1) (hx : SmallP x) (hf : FitT x) (he : x.ep ≠ [48]) (hc : x.c ≠ 0) (hb : x.b = false) (hd : x.d = false) (hl : x.loc = []) :
    Calls Tryz.prog 16 #[.agg #[.string (ofL x.ep), .slice r1 x.rel.length c1, .int .u8 x.c, .string (ofL x.n), .bool x.b, .string (ofL x.m), .bool x.d, .string (ofL x.k), .slice q1 x.loc.length d1]] w fun e w' => e = .returned (.string (ofL (textP x))) ∧ Below w.heap.size w w' := by
  have F := fun w rr ll => Fit_true x r1 q1 c1 d1 w rr ll hx hf
  have J1 := fun w h => Join_any (.slice r1 x.rel.length c1) x.rel w h (by rintro a n c h; cases h; exact k1) (by have := hx.rI; omega)
  have hlb : ¬ (0 : Int) < (x.loc.length : Int) := by rw [hl]; simp
  have heb := eq48' x.ep false (by simpa using he)
  have S0 := TB.start rr ll
  have z1 := hx.e
  have z2 := hx.n
  have z3 := hx.m
  have z3' := hx.k
  have z4 := Nat.le_trans (joinL_len x.rel) (hx.rI)
  have z5 := Nat.le_trans (joinL_len x.loc) (hx.lI)
  have o1 := ofL_size x.ep
  have o2 := ofL_size x.n
  have o3 := ofL_size x.m
  have o6 := ofL_size x.k
  have o4 := ofL_size (joinL x.rel)
  have o5 := ofL_size (joinL x.loc)
  have jd := ofL_data (joinL x.rel)
  obtain ⟨u1, T0, a0, g0, s0, s0', d0'⟩ : ∃ u1 T0 : ByteArray, ofL x.ep ++ ⟨#[33]⟩ = u1 ∧ u1 ++ ofL (joinL x.rel) = T0 ∧ u1.size = x.ep.length + 1 ∧ T0.size = x.ep.length + 1 + (joinL x.rel).length ∧ T0.data.toList = x.ep ++ [33] ++ joinL x.rel := by
    obtain ⟨u1, e1, s1, d1⟩ := cat_step (ofL x.ep) ⟨#[33]⟩
    obtain ⟨u2, e2, s2, d2⟩ := cat_step u1 (ofL (joinL x.rel))
    exact ⟨u1, u2, e1, e2, by rw [s1, ofL_size]; rfl, by rw [s2, s1, ofL_size, ofL_size]; rfl, by rw [d2, d1, ofL_data, ofL_data]⟩
  have D0 : T0.data.toList = baseL x.ep x.rel := by rw [d0']; unfold baseL; rw [if_neg he]
  generalize ofL (joinL x.rel) = JB at *
  have y0 : T0.size ≤ 5100000 := by omega
  have y0' : u1.size ≤ 5100000 := by omega
  clear d0' s0 s0'
  obtain ⟨a1, T1, e1, f1, s1, g1, d1⟩ := catB T0 (ofL (preW x.c)) x.n
  have qz1 : (ofL (preW x.c)).size ≤ 2 := by rw [ofL_size]; exact preW_len _
  have D1 : T1.data.toList = T0.data.toList ++ preT x := by rw [d1, ofL_data]; unfold preT; rw [if_neg hc]
  have y1 : T1.size ≤ 11100000 := by omega
  have y1' : a1.size ≤ 6000000 := by omega
  clear s1 g1 d1
  have D2 : postT x = [] := by unfold postT; rw [hb]; rfl
  have D3 : devT x = [] := by unfold devT; rw [hd]; rfl
  have D4 : locT x = [] := by unfold locT; rw [if_pos hl]
  have HL : Hid (T1 = ofL (textP x)) := by
    show _ = _
    apply ba_ext
    rw [ofL_data, D1, D0]
    unfold textP tailT
    rw [D2, D3, D4]
    simp
  have F := hide F
  have J1 := hide J1
  have hcb : (x.c != 0) = true := by simpa using hc
  have PW := hide (fun w => preWord_any x.c (by rcases hf.f4 with h | h | h | h <;> omega) w)
  generalize ofL (preW x.c) = PB at *
  have HB := hide hb
  have HD := hide hd
  clear he hl hc hb hd D0 D1 D2 D3 D4 jd hf hx
  go_enter Tryz.func16, Tryz.ntmps16
  go_wp2_with fail
  generalize w.alloc (.cells #[.string (ofL x.ep), .slice r1 x.rel.length c1, .int .u8 x.c, .string (ofL x.n), .bool x.b, .string (ofL x.m), .bool x.d, .string (ofL x.k), .slice q1 x.loc.length d1] 24) = W0 at *
  obtain ⟨s0, s1, s2, s3, s4, s5, s6, s7, s8⟩ := S0.seen
  refine (F.out _ S0.rr S0.ll).mono ?_
  rintro e' v1 ⟨rfl, b1⟩
  have S1 := S0.next b1
  obtain ⟨t0, t1, t2, t3, t4, t5, t6, t7, t8⟩ := S1.seen
  rw [HB.out] at t4
  rw [HD.out] at t6
  go_wp2_with fail
  refine (J1.out _ S1.rr).mono ?_
  rintro e' v2 ⟨rfl, b2⟩
  have S2 := S1.next b2
  obtain ⟨i0, i1, i2, i3, i4, i5, i6, i7, i8⟩ := S2.seen
  rw [HB.out] at i4
  rw [HD.out] at i6
  go_wp2_with fail
  have D2 := S2.next (Below.refl _ v2).drew
  go_region_with (go_at_call 47; refine (PW.out _).mono ?_; rintro e' v3 ⟨rfl, b3⟩; have S3 := D2.next b3; obtain ⟨j0, j1, j2, j3, j4, j5, j6, j7, j8⟩ := S3.seen; rw [HB.out] at j4; rw [HD.out] at j6)
  all_goals go_wp2_with fail
  all_goals go_ret
  all_goals exact ⟨ret_s (by first | exact HL.out | rw [← HL.out]), S3.bel⟩

set_option maxRecDepth 100000 in
set_option maxHeartbeats 4000000 in
theorem Text_e1001 (x : PepL) (r1 q1 : Option Addr) (c1 d1 : Nat) (w : World) (rr : Txt w (.slice r1 x.rel.length c1) x.rel) (ll : Txt w (.slice q1 x.loc.length d1) x.loc) (k1 : x.rel.length ≤ c1) (k2 : x.loc.length ≤ d1) (hx : SmallP x) (hf : FitT x) (he : x.ep ≠ [48]) (hc : x.c ≠ 0) (hb : x.b = false) (hd : x.d = false) (hl : x.loc ≠ []) :
    Calls Tryz.prog 16 #[.agg #[.string (ofL x.ep), .slice r1 x.rel.length c1, .int .u8 x.c, .string (ofL x.n), .bool x.b, .string (ofL x.m), .bool x.d, .string (ofL x.k), .slice q1 x.loc.length d1]] w fun e w' => e = .returned (.string (ofL (textP x))) ∧ Below w.heap.size w w' := by
  have F := fun w rr ll => Fit_true x r1 q1 c1 d1 w rr ll hx hf
  have J1 := fun w h => Join_any (.slice r1 x.rel.length c1) x.rel w h (by rintro a n c h; cases h; exact k1) (by have := hx.rI; omega)
  have J2 := fun w h => Join_any (.slice q1 x.loc.length d1) x.loc w h (by rintro a n c h; cases h; exact k2) (by have := hx.lI; omega)
  have hlb : (0 : Int) < (x.loc.length : Int) := by have := List.length_pos_iff.2 hl; omega
  have heb := eq48' x.ep false (by simpa using he)
  have S0 := TB.start rr ll
  have z1 := hx.e
  have z2 := hx.n
  have z3 := hx.m
  have z3' := hx.k
  have z4 := Nat.le_trans (joinL_len x.rel) (hx.rI)
  have z5 := Nat.le_trans (joinL_len x.loc) (hx.lI)
  have o1 := ofL_size x.ep
  have o2 := ofL_size x.n
  have o3 := ofL_size x.m
  have o6 := ofL_size x.k
  have o4 := ofL_size (joinL x.rel)
  have o5 := ofL_size (joinL x.loc)
  have jd := ofL_data (joinL x.rel)
  obtain ⟨u1, T0, a0, g0, s0, s0', d0'⟩ : ∃ u1 T0 : ByteArray, ofL x.ep ++ ⟨#[33]⟩ = u1 ∧ u1 ++ ofL (joinL x.rel) = T0 ∧ u1.size = x.ep.length + 1 ∧ T0.size = x.ep.length + 1 + (joinL x.rel).length ∧ T0.data.toList = x.ep ++ [33] ++ joinL x.rel := by
    obtain ⟨u1, e1, s1, d1⟩ := cat_step (ofL x.ep) ⟨#[33]⟩
    obtain ⟨u2, e2, s2, d2⟩ := cat_step u1 (ofL (joinL x.rel))
    exact ⟨u1, u2, e1, e2, by rw [s1, ofL_size]; rfl, by rw [s2, s1, ofL_size, ofL_size]; rfl, by rw [d2, d1, ofL_data, ofL_data]⟩
  have D0 : T0.data.toList = baseL x.ep x.rel := by rw [d0']; unfold baseL; rw [if_neg he]
  generalize ofL (joinL x.rel) = JB at *
  have y0 : T0.size ≤ 5100000 := by omega
  have y0' : u1.size ≤ 5100000 := by omega
  clear d0' s0 s0'
  obtain ⟨a1, T1, e1, f1, s1, g1, d1⟩ := catB T0 (ofL (preW x.c)) x.n
  have qz1 : (ofL (preW x.c)).size ≤ 2 := by rw [ofL_size]; exact preW_len _
  have D1 : T1.data.toList = T0.data.toList ++ preT x := by rw [d1, ofL_data]; unfold preT; rw [if_neg hc]
  have y1 : T1.size ≤ 11100000 := by omega
  have y1' : a1.size ≤ 6000000 := by omega
  clear s1 g1 d1
  have D2 : postT x = [] := by unfold postT; rw [hb]; rfl
  have D3 : devT x = [] := by unfold devT; rw [hd]; rfl
  obtain ⟨a4, T4, e4, f4, s4, g4, d4⟩ := catB T1 ⟨#[43]⟩ (joinL x.loc)
  have qz4 : (⟨#[43]⟩ : ByteArray).size = 1 := rfl
  have D4 : T4.data.toList = T1.data.toList ++ locT x := by rw [d4]; unfold locT; rw [if_neg hl]; rfl
  have y4 : T4.size ≤ 29100000 := by omega
  have y4' : a4.size ≤ 6000000 := by omega
  clear s4 g4 d4 qz4
  have HL : Hid (T4 = ofL (textP x)) := by
    show _ = _
    apply ba_ext
    rw [ofL_data, D4, D1, D0]
    unfold textP tailT
    rw [D2, D3]
    simp
  have F := hide F
  have J1 := hide J1
  have J2 := hide J2
  have hcb : (x.c != 0) = true := by simpa using hc
  have PW := hide (fun w => preWord_any x.c (by rcases hf.f4 with h | h | h | h <;> omega) w)
  generalize ofL (preW x.c) = PB at *
  have HB := hide hb
  have HD := hide hd
  clear he hl hc hb hd D0 D1 D2 D3 D4 jd hf hx
  go_enter Tryz.func16, Tryz.ntmps16
  go_wp2_with fail
  generalize w.alloc (.cells #[.string (ofL x.ep), .slice r1 x.rel.length c1, .int .u8 x.c, .string (ofL x.n), .bool x.b, .string (ofL x.m), .bool x.d, .string (ofL x.k), .slice q1 x.loc.length d1] 24) = W0 at *
  obtain ⟨s0, s1, s2, s3, s4, s5, s6, s7, s8⟩ := S0.seen
  refine (F.out _ S0.rr S0.ll).mono ?_
  rintro e' v1 ⟨rfl, b1⟩
  have S1 := S0.next b1
  obtain ⟨t0, t1, t2, t3, t4, t5, t6, t7, t8⟩ := S1.seen
  rw [HB.out] at t4
  rw [HD.out] at t6
  go_wp2_with fail
  refine (J1.out _ S1.rr).mono ?_
  rintro e' v2 ⟨rfl, b2⟩
  have S2 := S1.next b2
  obtain ⟨i0, i1, i2, i3, i4, i5, i6, i7, i8⟩ := S2.seen
  rw [HB.out] at i4
  rw [HD.out] at i6
  go_wp2_with fail
  have D2 := S2.next (Below.refl _ v2).drew
  go_region_with (go_at_call 47; refine (PW.out _).mono ?_; rintro e' v3 ⟨rfl, b3⟩; have S3 := D2.next b3; obtain ⟨j0, j1, j2, j3, j4, j5, j6, j7, j8⟩ := S3.seen; rw [HB.out] at j4; rw [HD.out] at j6)
  all_goals go_wp2_with fail
  all_goals (refine (J2.out _ S3.ll).mono ?_; rintro e' v4 ⟨rfl, b4⟩; have S4 := S3.next b4; go_wp2_with fail)
  all_goals go_ret
  all_goals exact ⟨ret_s (by first | exact HL.out | rw [← HL.out]), S4.bel⟩

set_option maxRecDepth 100000 in
set_option maxHeartbeats 4000000 in
theorem Text_e1010 (x : PepL) (r1 q1 : Option Addr) (c1 d1 : Nat) (w : World) (rr : Txt w (.slice r1 x.rel.length c1) x.rel) (ll : Txt w (.slice q1 x.loc.length d1) x.loc) (k1 : x.rel.length ≤ c1) (k2 : x.loc.length ≤ d1) (hx : SmallP x) (hf : FitT x) (he : x.ep ≠ [48]) (hc : x.c ≠ 0) (hb : x.b = false) (hd : x.d = true) (hl : x.loc = []) :
    Calls Tryz.prog 16 #[.agg #[.string (ofL x.ep), .slice r1 x.rel.length c1, .int .u8 x.c, .string (ofL x.n), .bool x.b, .string (ofL x.m), .bool x.d, .string (ofL x.k), .slice q1 x.loc.length d1]] w fun e w' => e = .returned (.string (ofL (textP x))) ∧ Below w.heap.size w w' := by
  have F := fun w rr ll => Fit_true x r1 q1 c1 d1 w rr ll hx hf
  have J1 := fun w h => Join_any (.slice r1 x.rel.length c1) x.rel w h (by rintro a n c h; cases h; exact k1) (by have := hx.rI; omega)
  have hlb : ¬ (0 : Int) < (x.loc.length : Int) := by rw [hl]; simp
  have heb := eq48' x.ep false (by simpa using he)
  have S0 := TB.start rr ll
  have z1 := hx.e
  have z2 := hx.n
  have z3 := hx.m
  have z3' := hx.k
  have z4 := Nat.le_trans (joinL_len x.rel) (hx.rI)
  have z5 := Nat.le_trans (joinL_len x.loc) (hx.lI)
  have o1 := ofL_size x.ep
  have o2 := ofL_size x.n
  have o3 := ofL_size x.m
  have o6 := ofL_size x.k
  have o4 := ofL_size (joinL x.rel)
  have o5 := ofL_size (joinL x.loc)
  have jd := ofL_data (joinL x.rel)
  obtain ⟨u1, T0, a0, g0, s0, s0', d0'⟩ : ∃ u1 T0 : ByteArray, ofL x.ep ++ ⟨#[33]⟩ = u1 ∧ u1 ++ ofL (joinL x.rel) = T0 ∧ u1.size = x.ep.length + 1 ∧ T0.size = x.ep.length + 1 + (joinL x.rel).length ∧ T0.data.toList = x.ep ++ [33] ++ joinL x.rel := by
    obtain ⟨u1, e1, s1, d1⟩ := cat_step (ofL x.ep) ⟨#[33]⟩
    obtain ⟨u2, e2, s2, d2⟩ := cat_step u1 (ofL (joinL x.rel))
    exact ⟨u1, u2, e1, e2, by rw [s1, ofL_size]; rfl, by rw [s2, s1, ofL_size, ofL_size]; rfl, by rw [d2, d1, ofL_data, ofL_data]⟩
  have D0 : T0.data.toList = baseL x.ep x.rel := by rw [d0']; unfold baseL; rw [if_neg he]
  generalize ofL (joinL x.rel) = JB at *
  have y0 : T0.size ≤ 5100000 := by omega
  have y0' : u1.size ≤ 5100000 := by omega
  clear d0' s0 s0'
  obtain ⟨a1, T1, e1, f1, s1, g1, d1⟩ := catB T0 (ofL (preW x.c)) x.n
  have qz1 : (ofL (preW x.c)).size ≤ 2 := by rw [ofL_size]; exact preW_len _
  have D1 : T1.data.toList = T0.data.toList ++ preT x := by rw [d1, ofL_data]; unfold preT; rw [if_neg hc]
  have y1 : T1.size ≤ 11100000 := by omega
  have y1' : a1.size ≤ 6000000 := by omega
  clear s1 g1 d1
  have D2 : postT x = [] := by unfold postT; rw [hb]; rfl
  obtain ⟨a3, T3, e3, f3, s3, g3, d3⟩ := catB T1 ⟨#[46, 100, 101, 118]⟩ x.k
  have qz3 : (⟨#[46, 100, 101, 118]⟩ : ByteArray).size = 4 := rfl
  have D3 : T3.data.toList = T1.data.toList ++ devT x := by rw [d3]; unfold devT; rw [hd]; rfl
  have y3 : T3.size ≤ 23100000 := by omega
  have y3' : a3.size ≤ 6000000 := by omega
  clear s3 g3 d3 qz3
  have D4 : locT x = [] := by unfold locT; rw [if_pos hl]
  have HL : Hid (T3 = ofL (textP x)) := by
    show _ = _
    apply ba_ext
    rw [ofL_data, D3, D1, D0]
    unfold textP tailT
    rw [D2, D4]
    simp
  have F := hide F
  have J1 := hide J1
  have hcb : (x.c != 0) = true := by simpa using hc
  have PW := hide (fun w => preWord_any x.c (by rcases hf.f4 with h | h | h | h <;> omega) w)
  generalize ofL (preW x.c) = PB at *
  have HB := hide hb
  have HD := hide hd
  clear he hl hc hb hd D0 D1 D2 D3 D4 jd hf hx
  go_enter Tryz.func16, Tryz.ntmps16
  go_wp2_with fail
  generalize w.alloc (.cells #[.string (ofL x.ep), .slice r1 x.rel.length c1, .int .u8 x.c, .string (ofL x.n), .bool x.b, .string (ofL x.m), .bool x.d, .string (ofL x.k), .slice q1 x.loc.length d1] 24) = W0 at *
  obtain ⟨s0, s1, s2, s3, s4, s5, s6, s7, s8⟩ := S0.seen
  refine (F.out _ S0.rr S0.ll).mono ?_
  rintro e' v1 ⟨rfl, b1⟩
  have S1 := S0.next b1
  obtain ⟨t0, t1, t2, t3, t4, t5, t6, t7, t8⟩ := S1.seen
  rw [HB.out] at t4
  rw [HD.out] at t6
  go_wp2_with fail
  refine (J1.out _ S1.rr).mono ?_
  rintro e' v2 ⟨rfl, b2⟩
  have S2 := S1.next b2
  obtain ⟨i0, i1, i2, i3, i4, i5, i6, i7, i8⟩ := S2.seen
  rw [HB.out] at i4
  rw [HD.out] at i6
  go_wp2_with fail
  have D2 := S2.next (Below.refl _ v2).drew
  go_region_with (go_at_call 47; refine (PW.out _).mono ?_; rintro e' v3 ⟨rfl, b3⟩; have S3 := D2.next b3; obtain ⟨j0, j1, j2, j3, j4, j5, j6, j7, j8⟩ := S3.seen; rw [HB.out] at j4; rw [HD.out] at j6)
  all_goals go_wp2_with fail
  all_goals go_ret
  all_goals exact ⟨ret_s (by first | exact HL.out | rw [← HL.out]), S3.bel⟩

set_option maxRecDepth 100000 in
set_option maxHeartbeats 4000000 in
theorem Text_e1011 (x : PepL) (r1 q1 : Option Addr) (c1 d1 : Nat) (w : World) (rr : Txt w (.slice r1 x.rel.length c1) x.rel) (ll : Txt w (.slice q1 x.loc.length d1) x.loc) (k1 : x.rel.length ≤ c1) (k2 : x.loc.length ≤ d1) (hx : SmallP x) (hf : FitT x) (he : x.ep ≠ [48]) (hc : x.c ≠ 0) (hb : x.b = false) (hd : x.d = true) (hl : x.loc ≠ []) :
    Calls Tryz.prog 16 #[.agg #[.string (ofL x.ep), .slice r1 x.rel.length c1, .int .u8 x.c, .string (ofL x.n), .bool x.b, .string (ofL x.m), .bool x.d, .string (ofL x.k), .slice q1 x.loc.length d1]] w fun e w' => e = .returned (.string (ofL (textP x))) ∧ Below w.heap.size w w' := by
  have F := fun w rr ll => Fit_true x r1 q1 c1 d1 w rr ll hx hf
  have J1 := fun w h => Join_any (.slice r1 x.rel.length c1) x.rel w h (by rintro a n c h; cases h; exact k1) (by have := hx.rI; omega)
  have J2 := fun w h => Join_any (.slice q1 x.loc.length d1) x.loc w h (by rintro a n c h; cases h; exact k2) (by have := hx.lI; omega)
  have hlb : (0 : Int) < (x.loc.length : Int) := by have := List.length_pos_iff.2 hl; omega
  have heb := eq48' x.ep false (by simpa using he)
  have S0 := TB.start rr ll
  have z1 := hx.e
  have z2 := hx.n
  have z3 := hx.m
  have z3' := hx.k
  have z4 := Nat.le_trans (joinL_len x.rel) (hx.rI)
  have z5 := Nat.le_trans (joinL_len x.loc) (hx.lI)
  have o1 := ofL_size x.ep
  have o2 := ofL_size x.n
  have o3 := ofL_size x.m
  have o6 := ofL_size x.k
  have o4 := ofL_size (joinL x.rel)
  have o5 := ofL_size (joinL x.loc)
  have jd := ofL_data (joinL x.rel)
  obtain ⟨u1, T0, a0, g0, s0, s0', d0'⟩ : ∃ u1 T0 : ByteArray, ofL x.ep ++ ⟨#[33]⟩ = u1 ∧ u1 ++ ofL (joinL x.rel) = T0 ∧ u1.size = x.ep.length + 1 ∧ T0.size = x.ep.length + 1 + (joinL x.rel).length ∧ T0.data.toList = x.ep ++ [33] ++ joinL x.rel := by
    obtain ⟨u1, e1, s1, d1⟩ := cat_step (ofL x.ep) ⟨#[33]⟩
    obtain ⟨u2, e2, s2, d2⟩ := cat_step u1 (ofL (joinL x.rel))
    exact ⟨u1, u2, e1, e2, by rw [s1, ofL_size]; rfl, by rw [s2, s1, ofL_size, ofL_size]; rfl, by rw [d2, d1, ofL_data, ofL_data]⟩
  have D0 : T0.data.toList = baseL x.ep x.rel := by rw [d0']; unfold baseL; rw [if_neg he]
  generalize ofL (joinL x.rel) = JB at *
  have y0 : T0.size ≤ 5100000 := by omega
  have y0' : u1.size ≤ 5100000 := by omega
  clear d0' s0 s0'
  obtain ⟨a1, T1, e1, f1, s1, g1, d1⟩ := catB T0 (ofL (preW x.c)) x.n
  have qz1 : (ofL (preW x.c)).size ≤ 2 := by rw [ofL_size]; exact preW_len _
  have D1 : T1.data.toList = T0.data.toList ++ preT x := by rw [d1, ofL_data]; unfold preT; rw [if_neg hc]
  have y1 : T1.size ≤ 11100000 := by omega
  have y1' : a1.size ≤ 6000000 := by omega
  clear s1 g1 d1
  have D2 : postT x = [] := by unfold postT; rw [hb]; rfl
  obtain ⟨a3, T3, e3, f3, s3, g3, d3⟩ := catB T1 ⟨#[46, 100, 101, 118]⟩ x.k
  have qz3 : (⟨#[46, 100, 101, 118]⟩ : ByteArray).size = 4 := rfl
  have D3 : T3.data.toList = T1.data.toList ++ devT x := by rw [d3]; unfold devT; rw [hd]; rfl
  have y3 : T3.size ≤ 23100000 := by omega
  have y3' : a3.size ≤ 6000000 := by omega
  clear s3 g3 d3 qz3
  obtain ⟨a4, T4, e4, f4, s4, g4, d4⟩ := catB T3 ⟨#[43]⟩ (joinL x.loc)
  have qz4 : (⟨#[43]⟩ : ByteArray).size = 1 := rfl
  have D4 : T4.data.toList = T3.data.toList ++ locT x := by rw [d4]; unfold locT; rw [if_neg hl]; rfl
  have y4 : T4.size ≤ 29100000 := by omega
  have y4' : a4.size ≤ 6000000 := by omega
  clear s4 g4 d4 qz4
  have HL : Hid (T4 = ofL (textP x)) := by
    show _ = _
    apply ba_ext
    rw [ofL_data, D4, D3, D1, D0]
    unfold textP tailT
    rw [D2]
    simp
  have F := hide F
  have J1 := hide J1
  have J2 := hide J2
  have hcb : (x.c != 0) = true := by simpa using hc
  have PW := hide (fun w => preWord_any x.c (by rcases hf.f4 with h | h | h | h <;> omega) w)
  generalize ofL (preW x.c) = PB at *
  have HB := hide hb
  have HD := hide hd
  clear he hl hc hb hd D0 D1 D2 D3 D4 jd hf hx
  go_enter Tryz.func16, Tryz.ntmps16
  go_wp2_with fail
  generalize w.alloc (.cells #[.string (ofL x.ep), .slice r1 x.rel.length c1, .int .u8 x.c, .string (ofL x.n), .bool x.b, .string (ofL x.m), .bool x.d, .string (ofL x.k), .slice q1 x.loc.length d1] 24) = W0 at *
  obtain ⟨s0, s1, s2, s3, s4, s5, s6, s7, s8⟩ := S0.seen
  refine (F.out _ S0.rr S0.ll).mono ?_
  rintro e' v1 ⟨rfl, b1⟩
  have S1 := S0.next b1
  obtain ⟨t0, t1, t2, t3, t4, t5, t6, t7, t8⟩ := S1.seen
  rw [HB.out] at t4
  rw [HD.out] at t6
  go_wp2_with fail
  refine (J1.out _ S1.rr).mono ?_
  rintro e' v2 ⟨rfl, b2⟩
  have S2 := S1.next b2
  obtain ⟨i0, i1, i2, i3, i4, i5, i6, i7, i8⟩ := S2.seen
  rw [HB.out] at i4
  rw [HD.out] at i6
  go_wp2_with fail
  have D2 := S2.next (Below.refl _ v2).drew
  go_region_with (go_at_call 47; refine (PW.out _).mono ?_; rintro e' v3 ⟨rfl, b3⟩; have S3 := D2.next b3; obtain ⟨j0, j1, j2, j3, j4, j5, j6, j7, j8⟩ := S3.seen; rw [HB.out] at j4; rw [HD.out] at j6)
  all_goals go_wp2_with fail
  all_goals (refine (J2.out _ S3.ll).mono ?_; rintro e' v4 ⟨rfl, b4⟩; have S4 := S3.next b4; go_wp2_with fail)
  all_goals go_ret
  all_goals exact ⟨ret_s (by first | exact HL.out | rw [← HL.out]), S4.bel⟩

set_option maxRecDepth 100000 in
set_option maxHeartbeats 4000000 in
theorem Text_e1100 (x : PepL) (r1 q1 : Option Addr) (c1 d1 : Nat) (w : World) (rr : Txt w (.slice r1 x.rel.length c1) x.rel) (ll : Txt w (.slice q1 x.loc.length d1) x.loc) (k1 : x.rel.length ≤ c1) (k2 : x.loc.length ≤ d1) (hx : SmallP x) (hf : FitT x) (he : x.ep ≠ [48]) (hc : x.c ≠ 0) (hb : x.b = true) (hd : x.d = false) (hl : x.loc = []) :
    Calls Tryz.prog 16 #[.agg #[.string (ofL x.ep), .slice r1 x.rel.length c1, .int .u8 x.c, .string (ofL x.n), .bool x.b, .string (ofL x.m), .bool x.d, .string (ofL x.k), .slice q1 x.loc.length d1]] w fun e w' => e = .returned (.string (ofL (textP x))) ∧ Below w.heap.size w w' := by
  have F := fun w rr ll => Fit_true x r1 q1 c1 d1 w rr ll hx hf
  have J1 := fun w h => Join_any (.slice r1 x.rel.length c1) x.rel w h (by rintro a n c h; cases h; exact k1) (by have := hx.rI; omega)
  have hlb : ¬ (0 : Int) < (x.loc.length : Int) := by rw [hl]; simp
  have heb := eq48' x.ep false (by simpa using he)
  have S0 := TB.start rr ll
  have z1 := hx.e
  have z2 := hx.n
  have z3 := hx.m
  have z3' := hx.k
  have z4 := Nat.le_trans (joinL_len x.rel) (hx.rI)
  have z5 := Nat.le_trans (joinL_len x.loc) (hx.lI)
  have o1 := ofL_size x.ep
  have o2 := ofL_size x.n
  have o3 := ofL_size x.m
  have o6 := ofL_size x.k
  have o4 := ofL_size (joinL x.rel)
  have o5 := ofL_size (joinL x.loc)
  have jd := ofL_data (joinL x.rel)
  obtain ⟨u1, T0, a0, g0, s0, s0', d0'⟩ : ∃ u1 T0 : ByteArray, ofL x.ep ++ ⟨#[33]⟩ = u1 ∧ u1 ++ ofL (joinL x.rel) = T0 ∧ u1.size = x.ep.length + 1 ∧ T0.size = x.ep.length + 1 + (joinL x.rel).length ∧ T0.data.toList = x.ep ++ [33] ++ joinL x.rel := by
    obtain ⟨u1, e1, s1, d1⟩ := cat_step (ofL x.ep) ⟨#[33]⟩
    obtain ⟨u2, e2, s2, d2⟩ := cat_step u1 (ofL (joinL x.rel))
    exact ⟨u1, u2, e1, e2, by rw [s1, ofL_size]; rfl, by rw [s2, s1, ofL_size, ofL_size]; rfl, by rw [d2, d1, ofL_data, ofL_data]⟩
  have D0 : T0.data.toList = baseL x.ep x.rel := by rw [d0']; unfold baseL; rw [if_neg he]
  generalize ofL (joinL x.rel) = JB at *
  have y0 : T0.size ≤ 5100000 := by omega
  have y0' : u1.size ≤ 5100000 := by omega
  clear d0' s0 s0'
  obtain ⟨a1, T1, e1, f1, s1, g1, d1⟩ := catB T0 (ofL (preW x.c)) x.n
  have qz1 : (ofL (preW x.c)).size ≤ 2 := by rw [ofL_size]; exact preW_len _
  have D1 : T1.data.toList = T0.data.toList ++ preT x := by rw [d1, ofL_data]; unfold preT; rw [if_neg hc]
  have y1 : T1.size ≤ 11100000 := by omega
  have y1' : a1.size ≤ 6000000 := by omega
  clear s1 g1 d1
  obtain ⟨a2, T2, e2, f2, s2, g2, d2⟩ := catB T1 ⟨#[46, 112, 111, 115, 116]⟩ x.m
  have qz2 : (⟨#[46, 112, 111, 115, 116]⟩ : ByteArray).size = 5 := rfl
  have D2 : T2.data.toList = T1.data.toList ++ postT x := by rw [d2]; unfold postT; rw [hb]; rfl
  have y2 : T2.size ≤ 17100000 := by omega
  have y2' : a2.size ≤ 6000000 := by omega
  clear s2 g2 d2 qz2
  have D3 : devT x = [] := by unfold devT; rw [hd]; rfl
  have D4 : locT x = [] := by unfold locT; rw [if_pos hl]
  have HL : Hid (T2 = ofL (textP x)) := by
    show _ = _
    apply ba_ext
    rw [ofL_data, D2, D1, D0]
    unfold textP tailT
    rw [D3, D4]
    simp
  have F := hide F
  have J1 := hide J1
  have hcb : (x.c != 0) = true := by simpa using hc
  have PW := hide (fun w => preWord_any x.c (by rcases hf.f4 with h | h | h | h <;> omega) w)
  generalize ofL (preW x.c) = PB at *
  have HB := hide hb
  have HD := hide hd
  clear he hl hc hb hd D0 D1 D2 D3 D4 jd hf hx
  go_enter Tryz.func16, Tryz.ntmps16
  go_wp2_with fail
  generalize w.alloc (.cells #[.string (ofL x.ep), .slice r1 x.rel.length c1, .int .u8 x.c, .string (ofL x.n), .bool x.b, .string (ofL x.m), .bool x.d, .string (ofL x.k), .slice q1 x.loc.length d1] 24) = W0 at *
  obtain ⟨s0, s1, s2, s3, s4, s5, s6, s7, s8⟩ := S0.seen
  refine (F.out _ S0.rr S0.ll).mono ?_
  rintro e' v1 ⟨rfl, b1⟩
  have S1 := S0.next b1
  obtain ⟨t0, t1, t2, t3, t4, t5, t6, t7, t8⟩ := S1.seen
  rw [HB.out] at t4
  rw [HD.out] at t6
  go_wp2_with fail
  refine (J1.out _ S1.rr).mono ?_
  rintro e' v2 ⟨rfl, b2⟩
  have S2 := S1.next b2
  obtain ⟨i0, i1, i2, i3, i4, i5, i6, i7, i8⟩ := S2.seen
  rw [HB.out] at i4
  rw [HD.out] at i6
  go_wp2_with fail
  have D2 := S2.next (Below.refl _ v2).drew
  go_region_with (go_at_call 47; refine (PW.out _).mono ?_; rintro e' v3 ⟨rfl, b3⟩; have S3 := D2.next b3; obtain ⟨j0, j1, j2, j3, j4, j5, j6, j7, j8⟩ := S3.seen; rw [HB.out] at j4; rw [HD.out] at j6)
  all_goals go_wp2_with fail
  all_goals go_ret
  all_goals exact ⟨ret_s (by first | exact HL.out | rw [← HL.out]), S3.bel⟩

set_option maxRecDepth 100000 in
set_option maxHeartbeats 4000000 in
theorem Text_e1101 (x : PepL) (r1 q1 : Option Addr) (c1 d1 : Nat) (w : World) (rr : Txt w (.slice r1 x.rel.length c1) x.rel) (ll : Txt w (.slice q1 x.loc.length d1) x.loc) (k1 : x.rel.length ≤ c1) (k2 : x.loc.length ≤ d1) (hx : SmallP x) (hf : FitT x) (he : x.ep ≠ [48]) (hc : x.c ≠ 0) (hb : x.b = true) (hd : x.d = false) (hl : x.loc ≠ []) :
    Calls Tryz.prog 16 #[.agg #[.string (ofL x.ep), .slice r1 x.rel.length c1, .int .u8 x.c, .string (ofL x.n), .bool x.b, .string (ofL x.m), .bool x.d, .string (ofL x.k), .slice q1 x.loc.length d1]] w fun e w' => e = .returned (.string (ofL (textP x))) ∧ Below w.heap.size w w' := by
  have F := fun w rr ll => Fit_true x r1 q1 c1 d1 w rr ll hx hf
  have J1 := fun w h => Join_any (.slice r1 x.rel.length c1) x.rel w h (by rintro a n c h; cases h; exact k1) (by have := hx.rI; omega)
  have J2 := fun w h => Join_any (.slice q1 x.loc.length d1) x.loc w h (by rintro a n c h; cases h; exact k2) (by have := hx.lI; omega)
  have hlb : (0 : Int) < (x.loc.length : Int) := by have := List.length_pos_iff.2 hl; omega
  have heb := eq48' x.ep false (by simpa using he)
  have S0 := TB.start rr ll
  have z1 := hx.e
  have z2 := hx.n
  have z3 := hx.m
  have z3' := hx.k
  have z4 := Nat.le_trans (joinL_len x.rel) (hx.rI)
  have z5 := Nat.le_trans (joinL_len x.loc) (hx.lI)
  have o1 := ofL_size x.ep
  have o2 := ofL_size x.n
  have o3 := ofL_size x.m
  have o6 := ofL_size x.k
  have o4 := ofL_size (joinL x.rel)
  have o5 := ofL_size (joinL x.loc)
  have jd := ofL_data (joinL x.rel)
  obtain ⟨u1, T0, a0, g0, s0, s0', d0'⟩ : ∃ u1 T0 : ByteArray, ofL x.ep ++ ⟨#[33]⟩ = u1 ∧ u1 ++ ofL (joinL x.rel) = T0 ∧ u1.size = x.ep.length + 1 ∧ T0.size = x.ep.length + 1 + (joinL x.rel).length ∧ T0.data.toList = x.ep ++ [33] ++ joinL x.rel := by
    obtain ⟨u1, e1, s1, d1⟩ := cat_step (ofL x.ep) ⟨#[33]⟩
    obtain ⟨u2, e2, s2, d2⟩ := cat_step u1 (ofL (joinL x.rel))
    exact ⟨u1, u2, e1, e2, by rw [s1, ofL_size]; rfl, by rw [s2, s1, ofL_size, ofL_size]; rfl, by rw [d2, d1, ofL_data, ofL_data]⟩
  have D0 : T0.data.toList = baseL x.ep x.rel := by rw [d0']; unfold baseL; rw [if_neg he]
  generalize ofL (joinL x.rel) = JB at *
  have y0 : T0.size ≤ 5100000 := by omega
  have y0' : u1.size ≤ 5100000 := by omega
  clear d0' s0 s0'
  obtain ⟨a1, T1, e1, f1, s1, g1, d1⟩ := catB T0 (ofL (preW x.c)) x.n
  have qz1 : (ofL (preW x.c)).size ≤ 2 := by rw [ofL_size]; exact preW_len _
  have D1 : T1.data.toList = T0.data.toList ++ preT x := by rw [d1, ofL_data]; unfold preT; rw [if_neg hc]
  have y1 : T1.size ≤ 11100000 := by omega
  have y1' : a1.size ≤ 6000000 := by omega
  clear s1 g1 d1
  obtain ⟨a2, T2, e2, f2, s2, g2, d2⟩ := catB T1 ⟨#[46, 112, 111, 115, 116]⟩ x.m
  have qz2 : (⟨#[46, 112, 111, 115, 116]⟩ : ByteArray).size = 5 := rfl
  have D2 : T2.data.toList = T1.data.toList ++ postT x := by rw [d2]; unfold postT; rw [hb]; rfl
  have y2 : T2.size ≤ 17100000 := by omega
  have y2' : a2.size ≤ 6000000 := by omega
  clear s2 g2 d2 qz2
  have D3 : devT x = [] := by unfold devT; rw [hd]; rfl
  obtain ⟨a4, T4, e4, f4, s4, g4, d4⟩ := catB T2 ⟨#[43]⟩ (joinL x.loc)
  have qz4 : (⟨#[43]⟩ : ByteArray).size = 1 := rfl
  have D4 : T4.data.toList = T2.data.toList ++ locT x := by rw [d4]; unfold locT; rw [if_neg hl]; rfl
  have y4 : T4.size ≤ 29100000 := by omega
  have y4' : a4.size ≤ 6000000 := by omega
  clear s4 g4 d4 qz4
  have HL : Hid (T4 = ofL (textP x)) := by
    show _ = _
    apply ba_ext
    rw [ofL_data, D4, D2, D1, D0]
    unfold textP tailT
    rw [D3]
    simp
  have F := hide F
  have J1 := hide J1
  have J2 := hide J2
  have hcb : (x.c != 0) = true := by simpa using hc
  have PW := hide (fun w => preWord_any x.c (by rcases hf.f4 with h | h | h | h <;> omega) w)
  generalize ofL (preW x.c) = PB at *
  have HB := hide hb
  have HD := hide hd
  clear he hl hc hb hd D0 D1 D2 D3 D4 jd hf hx
  go_enter Tryz.func16, Tryz.ntmps16
  go_wp2_with fail
  generalize w.alloc (.cells #[.string (ofL x.ep), .slice r1 x.rel.length c1, .int .u8 x.c, .string (ofL x.n), .bool x.b, .string (ofL x.m), .bool x.d, .string (ofL x.k), .slice q1 x.loc.length d1] 24) = W0 at *
  obtain ⟨s0, s1, s2, s3, s4, s5, s6, s7, s8⟩ := S0.seen
  refine (F.out _ S0.rr S0.ll).mono ?_
  rintro e' v1 ⟨rfl, b1⟩
  have S1 := S0.next b1
  obtain ⟨t0, t1, t2, t3, t4, t5, t6, t7, t8⟩ := S1.seen
  rw [HB.out] at t4
  rw [HD.out] at t6
  go_wp2_with fail
  refine (J1.out _ S1.rr).mono ?_
  rintro e' v2 ⟨rfl, b2⟩
  have S2 := S1.next b2
  obtain ⟨i0, i1, i2, i3, i4, i5, i6, i7, i8⟩ := S2.seen
  rw [HB.out] at i4
  rw [HD.out] at i6
  go_wp2_with fail
  have D2 := S2.next (Below.refl _ v2).drew
  go_region_with (go_at_call 47; refine (PW.out _).mono ?_; rintro e' v3 ⟨rfl, b3⟩; have S3 := D2.next b3; obtain ⟨j0, j1, j2, j3, j4, j5, j6, j7, j8⟩ := S3.seen; rw [HB.out] at j4; rw [HD.out] at j6)
  all_goals go_wp2_with fail
  all_goals (refine (J2.out _ S3.ll).mono ?_; rintro e' v4 ⟨rfl, b4⟩; have S4 := S3.next b4; go_wp2_with fail)
  all_goals go_ret
  all_goals exact ⟨ret_s (by first | exact HL.out | rw [← HL.out]), S4.bel⟩

set_option maxRecDepth 100000 in
set_option maxHeartbeats 4000000 in
theorem Text_e1110 (x : PepL) (r1 q1 : Option Addr) (c1 d1 : Nat) (w : World) (rr : Txt w (.slice r1 x.rel.length c1) x.rel) (ll : Txt w (.slice q1 x.loc.length d1) x.loc) (k1 : x.rel.length ≤ c1) (k2 : x.loc.length ≤ d1) (hx : SmallP x) (hf : FitT x) (he : x.ep ≠ [48]) (hc : x.c ≠ 0) (hb : x.b = true) (hd : x.d = true) (hl : x.loc = []) :
    Calls Tryz.prog 16 #[.agg #[.string (ofL x.ep), .slice r1 x.rel.length c1, .int .u8 x.c, .string (ofL x.n), .bool x.b, .string (ofL x.m), .bool x.d, .string (ofL x.k), .slice q1 x.loc.length d1]] w fun e w' => e = .returned (.string (ofL (textP x))) ∧ Below w.heap.size w w' := by
  have F := fun w rr ll => Fit_true x r1 q1 c1 d1 w rr ll hx hf
  have J1 := fun w h => Join_any (.slice r1 x.rel.length c1) x.rel w h (by rintro a n c h; cases h; exact k1) (by have := hx.rI; omega)
  have hlb : ¬ (0 : Int) < (x.loc.length : Int) := by rw [hl]; simp
  have heb := eq48' x.ep false (by simpa using he)
  have S0 := TB.start rr ll
  have z1 := hx.e
  have z2 := hx.n
  have z3 := hx.m
  have z3' := hx.k
  have z4 := Nat.le_trans (joinL_len x.rel) (hx.rI)
  have z5 := Nat.le_trans (joinL_len x.loc) (hx.lI)
  have o1 := ofL_size x.ep
  have o2 := ofL_size x.n
  have o3 := ofL_size x.m
  have o6 := ofL_size x.k
  have o4 := ofL_size (joinL x.rel)
  have o5 := ofL_size (joinL x.loc)
  have jd := ofL_data (joinL x.rel)
  obtain ⟨u1, T0, a0, g0, s0, s0', d0'⟩ : ∃ u1 T0 : ByteArray, ofL x.ep ++ ⟨#[33]⟩ = u1 ∧ u1 ++ ofL (joinL x.rel) = T0 ∧ u1.size = x.ep.length + 1 ∧ T0.size = x.ep.length + 1 + (joinL x.rel).length ∧ T0.data.toList = x.ep ++ [33] ++ joinL x.rel := by
    obtain ⟨u1, e1, s1, d1⟩ := cat_step (ofL x.ep) ⟨#[33]⟩
    obtain ⟨u2, e2, s2, d2⟩ := cat_step u1 (ofL (joinL x.rel))
    exact ⟨u1, u2, e1, e2, by rw [s1, ofL_size]; rfl, by rw [s2, s1, ofL_size, ofL_size]; rfl, by rw [d2, d1, ofL_data, ofL_data]⟩
  have D0 : T0.data.toList = baseL x.ep x.rel := by rw [d0']; unfold baseL; rw [if_neg he]
  generalize ofL (joinL x.rel) = JB at *
  have y0 : T0.size ≤ 5100000 := by omega
  have y0' : u1.size ≤ 5100000 := by omega
  clear d0' s0 s0'
  obtain ⟨a1, T1, e1, f1, s1, g1, d1⟩ := catB T0 (ofL (preW x.c)) x.n
  have qz1 : (ofL (preW x.c)).size ≤ 2 := by rw [ofL_size]; exact preW_len _
  have D1 : T1.data.toList = T0.data.toList ++ preT x := by rw [d1, ofL_data]; unfold preT; rw [if_neg hc]
  have y1 : T1.size ≤ 11100000 := by omega
  have y1' : a1.size ≤ 6000000 := by omega
  clear s1 g1 d1
  obtain ⟨a2, T2, e2, f2, s2, g2, d2⟩ := catB T1 ⟨#[46, 112, 111, 115, 116]⟩ x.m
  have qz2 : (⟨#[46, 112, 111, 115, 116]⟩ : ByteArray).size = 5 := rfl
  have D2 : T2.data.toList = T1.data.toList ++ postT x := by rw [d2]; unfold postT; rw [hb]; rfl
  have y2 : T2.size ≤ 17100000 := by omega
  have y2' : a2.size ≤ 6000000 := by omega
  clear s2 g2 d2 qz2
  obtain ⟨a3, T3, e3, f3, s3, g3, d3⟩ := catB T2 ⟨#[46, 100, 101, 118]⟩ x.k
  have qz3 : (⟨#[46, 100, 101, 118]⟩ : ByteArray).size = 4 := rfl
  have D3 : T3.data.toList = T2.data.toList ++ devT x := by rw [d3]; unfold devT; rw [hd]; rfl
  have y3 : T3.size ≤ 23100000 := by omega
  have y3' : a3.size ≤ 6000000 := by omega
  clear s3 g3 d3 qz3
  have D4 : locT x = [] := by unfold locT; rw [if_pos hl]
  have HL : Hid (T3 = ofL (textP x)) := by
    show _ = _
    apply ba_ext
    rw [ofL_data, D3, D2, D1, D0]
    unfold textP tailT
    rw [D4]
    simp
  have F := hide F
  have J1 := hide J1
  have hcb : (x.c != 0) = true := by simpa using hc
  have PW := hide (fun w => preWord_any x.c (by rcases hf.f4 with h | h | h | h <;> omega) w)
  generalize ofL (preW x.c) = PB at *
  have HB := hide hb
  have HD := hide hd
  clear he hl hc hb hd D0 D1 D2 D3 D4 jd hf hx
  go_enter Tryz.func16, Tryz.ntmps16
  go_wp2_with fail
  generalize w.alloc (.cells #[.string (ofL x.ep), .slice r1 x.rel.length c1, .int .u8 x.c, .string (ofL x.n), .bool x.b, .string (ofL x.m), .bool x.d, .string (ofL x.k), .slice q1 x.loc.length d1] 24) = W0 at *
  obtain ⟨s0, s1, s2, s3, s4, s5, s6, s7, s8⟩ := S0.seen
  refine (F.out _ S0.rr S0.ll).mono ?_
  rintro e' v1 ⟨rfl, b1⟩
  have S1 := S0.next b1
  obtain ⟨t0, t1, t2, t3, t4, t5, t6, t7, t8⟩ := S1.seen
  rw [HB.out] at t4
  rw [HD.out] at t6
  go_wp2_with fail
  refine (J1.out _ S1.rr).mono ?_
  rintro e' v2 ⟨rfl, b2⟩
  have S2 := S1.next b2
  obtain ⟨i0, i1, i2, i3, i4, i5, i6, i7, i8⟩ := S2.seen
  rw [HB.out] at i4
  rw [HD.out] at i6
  go_wp2_with fail
  have D2 := S2.next (Below.refl _ v2).drew
  go_region_with (go_at_call 47; refine (PW.out _).mono ?_; rintro e' v3 ⟨rfl, b3⟩; have S3 := D2.next b3; obtain ⟨j0, j1, j2, j3, j4, j5, j6, j7, j8⟩ := S3.seen; rw [HB.out] at j4; rw [HD.out] at j6)
  all_goals go_wp2_with fail
  all_goals go_ret
  all_goals exact ⟨ret_s (by first | exact HL.out | rw [← HL.out]), S3.bel⟩

set_option maxRecDepth 100000 in
set_option maxHeartbeats 4000000 in
theorem Text_e1111 (x : PepL) (r1 q1 : Option Addr) (c1 d1 : Nat) (w : World) (rr : Txt w (.slice r1 x.rel.length c1) x.rel) (ll : Txt w (.slice q1 x.loc.length d1) x.loc) (k1 : x.rel.length ≤ c1) (k2 : x.loc.length ≤ d1) (hx : SmallP x) (hf : FitT x) (he : x.ep ≠ [48]) (hc : x.c ≠ 0) (hb : x.b = true) (hd : x.d = true) (hl : x.loc ≠ []) :
    Calls Tryz.prog 16 #[.agg #[.string (ofL x.ep), .slice r1 x.rel.length c1, .int .u8 x.c, .string (ofL x.n), .bool x.b, .string (ofL x.m), .bool x.d, .string (ofL x.k), .slice q1 x.loc.length d1]] w fun e w' => e = .returned (.string (ofL (textP x))) ∧ Below w.heap.size w w' := by
  have F := fun w rr ll => Fit_true x r1 q1 c1 d1 w rr ll hx hf
  have J1 := fun w h => Join_any (.slice r1 x.rel.length c1) x.rel w h (by rintro a n c h; cases h; exact k1) (by have := hx.rI; omega)
  have J2 := fun w h => Join_any (.slice q1 x.loc.length d1) x.loc w h (by rintro a n c h; cases h; exact k2) (by have := hx.lI; omega)
  have hlb : (0 : Int) < (x.loc.length : Int) := by have := List.length_pos_iff.2 hl; omega
  have heb := eq48' x.ep false (by simpa using he)
  have S0 := TB.start rr ll
  have z1 := hx.e
  have z2 := hx.n
  have z3 := hx.m
  have z3' := hx.k
  have z4 := Nat.le_trans (joinL_len x.rel) (hx.rI)
  have z5 := Nat.le_trans (joinL_len x.loc) (hx.lI)
  have o1 := ofL_size x.ep
  have o2 := ofL_size x.n
  have o3 := ofL_size x.m
  have o6 := ofL_size x.k
  have o4 := ofL_size (joinL x.rel)
  have o5 := ofL_size (joinL x.loc)
  have jd := ofL_data (joinL x.rel)
  obtain ⟨u1, T0, a0, g0, s0, s0', d0'⟩ : ∃ u1 T0 : ByteArray, ofL x.ep ++ ⟨#[33]⟩ = u1 ∧ u1 ++ ofL (joinL x.rel) = T0 ∧ u1.size = x.ep.length + 1 ∧ T0.size = x.ep.length + 1 + (joinL x.rel).length ∧ T0.data.toList = x.ep ++ [33] ++ joinL x.rel := by
    obtain ⟨u1, e1, s1, d1⟩ := cat_step (ofL x.ep) ⟨#[33]⟩
    obtain ⟨u2, e2, s2, d2⟩ := cat_step u1 (ofL (joinL x.rel))
    exact ⟨u1, u2, e1, e2, by rw [s1, ofL_size]; rfl, by rw [s2, s1, ofL_size, ofL_size]; rfl, by rw [d2, d1, ofL_data, ofL_data]⟩
  have D0 : T0.data.toList = baseL x.ep x.rel := by rw [d0']; unfold baseL; rw [if_neg he]
  generalize ofL (joinL x.rel) = JB at *
  have y0 : T0.size ≤ 5100000 := by omega
  have y0' : u1.size ≤ 5100000 := by omega
  clear d0' s0 s0'
  obtain ⟨a1, T1, e1, f1, s1, g1, d1⟩ := catB T0 (ofL (preW x.c)) x.n
  have qz1 : (ofL (preW x.c)).size ≤ 2 := by rw [ofL_size]; exact preW_len _
  have D1 : T1.data.toList = T0.data.toList ++ preT x := by rw [d1, ofL_data]; unfold preT; rw [if_neg hc]
  have y1 : T1.size ≤ 11100000 := by omega
  have y1' : a1.size ≤ 6000000 := by omega
  clear s1 g1 d1
  obtain ⟨a2, T2, e2, f2, s2, g2, d2⟩ := catB T1 ⟨#[46, 112, 111, 115, 116]⟩ x.m
  have qz2 : (⟨#[46, 112, 111, 115, 116]⟩ : ByteArray).size = 5 := rfl
  have D2 : T2.data.toList = T1.data.toList ++ postT x := by rw [d2]; unfold postT; rw [hb]; rfl
  have y2 : T2.size ≤ 17100000 := by omega
  have y2' : a2.size ≤ 6000000 := by omega
  clear s2 g2 d2 qz2
  obtain ⟨a3, T3, e3, f3, s3, g3, d3⟩ := catB T2 ⟨#[46, 100, 101, 118]⟩ x.k
  have qz3 : (⟨#[46, 100, 101, 118]⟩ : ByteArray).size = 4 := rfl
  have D3 : T3.data.toList = T2.data.toList ++ devT x := by rw [d3]; unfold devT; rw [hd]; rfl
  have y3 : T3.size ≤ 23100000 := by omega
  have y3' : a3.size ≤ 6000000 := by omega
  clear s3 g3 d3 qz3
  obtain ⟨a4, T4, e4, f4, s4, g4, d4⟩ := catB T3 ⟨#[43]⟩ (joinL x.loc)
  have qz4 : (⟨#[43]⟩ : ByteArray).size = 1 := rfl
  have D4 : T4.data.toList = T3.data.toList ++ locT x := by rw [d4]; unfold locT; rw [if_neg hl]; rfl
  have y4 : T4.size ≤ 29100000 := by omega
  have y4' : a4.size ≤ 6000000 := by omega
  clear s4 g4 d4 qz4
  have HL : Hid (T4 = ofL (textP x)) := by
    show _ = _
    apply ba_ext
    rw [ofL_data, D4, D3, D2, D1, D0]
    unfold textP tailT
    skip
    simp
  have F := hide F
  have J1 := hide J1
  have J2 := hide J2
  have hcb : (x.c != 0) = true := by simpa using hc
  have PW := hide (fun w => preWord_any x.c (by rcases hf.f4 with h | h | h | h <;> omega) w)
  generalize ofL (preW x.c) = PB at *
  have HB := hide hb
  have HD := hide hd
  clear he hl hc hb hd D0 D1 D2 D3 D4 jd hf hx
  go_enter Tryz.func16, Tryz.ntmps16
  go_wp2_with fail
  generalize w.alloc (.cells #[.string (ofL x.ep), .slice r1 x.rel.length c1, .int .u8 x.c, .string (ofL x.n), .bool x.b, .string (ofL x.m), .bool x.d, .string (ofL x.k), .slice q1 x.loc.length d1] 24) = W0 at *
  obtain ⟨s0, s1, s2, s3, s4, s5, s6, s7, s8⟩ := S0.seen
  refine (F.out _ S0.rr S0.ll).mono ?_
  rintro e' v1 ⟨rfl, b1⟩
  have S1 := S0.next b1
  obtain ⟨t0, t1, t2, t3, t4, t5, t6, t7, t8⟩ := S1.seen
  rw [HB.out] at t4
  rw [HD.out] at t6
  go_wp2_with fail
  refine (J1.out _ S1.rr).mono ?_
  rintro e' v2 ⟨rfl, b2⟩
  have S2 := S1.next b2
  obtain ⟨i0, i1, i2, i3, i4, i5, i6, i7, i8⟩ := S2.seen
  rw [HB.out] at i4
  rw [HD.out] at i6
  go_wp2_with fail
  have D2 := S2.next (Below.refl _ v2).drew
  go_region_with (go_at_call 47; refine (PW.out _).mono ?_; rintro e' v3 ⟨rfl, b3⟩; have S3 := D2.next b3; obtain ⟨j0, j1, j2, j3, j4, j5, j6, j7, j8⟩ := S3.seen; rw [HB.out] at j4; rw [HD.out] at j6)
  all_goals go_wp2_with fail
  all_goals (refine (J2.out _ S3.ll).mono ?_; rintro e' v4 ⟨rfl, b4⟩; have S4 := S3.next b4; go_wp2_with fail)
  all_goals go_ret
  all_goals exact ⟨ret_s (by first | exact HL.out | rw [← HL.out]), S4.bel⟩

end Go.Proofs.YtagnikhkmaplpaaGreat

/-
  Walks: the texts of fit versions, normal forms.
-/
namespace Go.Proofs.YtagnikhkmaplpaaGreat
open Go.RowKit Go.Shelf
set_option linter.unusedVariables false

theorem Text_any (x : PepL) (r1 q1 : Option Addr) (c1 d1 : Nat) (w : World) (rr : Txt w (.slice r1 x.rel.length c1) x.rel) (ll : Txt w (.slice q1 x.loc.length d1) x.loc) (k1 : x.rel.length ≤ c1) (k2 : x.loc.length ≤ d1) (hx : SmallP x) (hf : FitT x) :
    Calls Tryz.prog 16 #[.agg #[.string (ofL x.ep), .slice r1 x.rel.length c1, .int .u8 x.c, .string (ofL x.n), .bool x.b, .string (ofL x.m), .bool x.d, .string (ofL x.k), .slice q1 x.loc.length d1]] w fun e w' => e = .returned (.string (ofL (textP x))) ∧ Below w.heap.size w w' := by
  by_cases he : x.ep = [48]
  · by_cases hc : x.c = 0
    · cases hb : x.b
      · cases hd : x.d
        · by_cases hl : x.loc = []
          · exact (by simpa only [hb, hd] using Text_z0000 x r1 q1 c1 d1 w rr ll k1 k2 hx hf he hc hb hd hl)
          · exact (by simpa only [hb, hd] using Text_z0001 x r1 q1 c1 d1 w rr ll k1 k2 hx hf he hc hb hd hl)
        · by_cases hl : x.loc = []
          · exact (by simpa only [hb, hd] using Text_z0010 x r1 q1 c1 d1 w rr ll k1 k2 hx hf he hc hb hd hl)
          · exact (by simpa only [hb, hd] using Text_z0011 x r1 q1 c1 d1 w rr ll k1 k2 hx hf he hc hb hd hl)
      · cases hd : x.d
        · by_cases hl : x.loc = []
          · exact (by simpa only [hb, hd] using Text_z0100 x r1 q1 c1 d1 w rr ll k1 k2 hx hf he hc hb hd hl)
          · exact (by simpa only [hb, hd] using Text_z0101 x r1 q1 c1 d1 w rr ll k1 k2 hx hf he hc hb hd hl)
        · by_cases hl : x.loc = []
          · exact (by simpa only [hb, hd] using Text_z0110 x r1 q1 c1 d1 w rr ll k1 k2 hx hf he hc hb hd hl)
          · exact (by simpa only [hb, hd] using Text_z0111 x r1 q1 c1 d1 w rr ll k1 k2 hx hf he hc hb hd hl)
    · cases hb : x.b
      · cases hd : x.d
        · by_cases hl : x.loc = []
          · exact (by simpa only [hb, hd] using Text_z1000 x r1 q1 c1 d1 w rr ll k1 k2 hx hf he hc hb hd hl)
          · exact (by simpa only [hb, hd] using Text_z1001 x r1 q1 c1 d1 w rr ll k1 k2 hx hf he hc hb hd hl)
        · by_cases hl : x.loc = []
          · exact (by simpa only [hb, hd] using Text_z1010 x r1 q1 c1 d1 w rr ll k1 k2 hx hf he hc hb hd hl)
          · exact (by simpa only [hb, hd] using Text_z1011 x r1 q1 c1 d1 w rr ll k1 k2 hx hf he hc hb hd hl)
      · cases hd : x.d
        · by_cases hl : x.loc = []
          · exact (by simpa only [hb, hd] using Text_z1100 x r1 q1 c1 d1 w rr ll k1 k2 hx hf he hc hb hd hl)
          · exact (by simpa only [hb, hd] using Text_z1101 x r1 q1 c1 d1 w rr ll k1 k2 hx hf he hc hb hd hl)
        · by_cases hl : x.loc = []
          · exact (by simpa only [hb, hd] using Text_z1110 x r1 q1 c1 d1 w rr ll k1 k2 hx hf he hc hb hd hl)
          · exact (by simpa only [hb, hd] using Text_z1111 x r1 q1 c1 d1 w rr ll k1 k2 hx hf he hc hb hd hl)
  · by_cases hc : x.c = 0
    · cases hb : x.b
      · cases hd : x.d
        · by_cases hl : x.loc = []
          · exact (by simpa only [hb, hd] using Text_e0000 x r1 q1 c1 d1 w rr ll k1 k2 hx hf he hc hb hd hl)
          · exact (by simpa only [hb, hd] using Text_e0001 x r1 q1 c1 d1 w rr ll k1 k2 hx hf he hc hb hd hl)
        · by_cases hl : x.loc = []
          · exact (by simpa only [hb, hd] using Text_e0010 x r1 q1 c1 d1 w rr ll k1 k2 hx hf he hc hb hd hl)
          · exact (by simpa only [hb, hd] using Text_e0011 x r1 q1 c1 d1 w rr ll k1 k2 hx hf he hc hb hd hl)
      · cases hd : x.d
        · by_cases hl : x.loc = []
          · exact (by simpa only [hb, hd] using Text_e0100 x r1 q1 c1 d1 w rr ll k1 k2 hx hf he hc hb hd hl)
          · exact (by simpa only [hb, hd] using Text_e0101 x r1 q1 c1 d1 w rr ll k1 k2 hx hf he hc hb hd hl)
        · by_cases hl : x.loc = []
          · exact (by simpa only [hb, hd] using Text_e0110 x r1 q1 c1 d1 w rr ll k1 k2 hx hf he hc hb hd hl)
          · exact (by simpa only [hb, hd] using Text_e0111 x r1 q1 c1 d1 w rr ll k1 k2 hx hf he hc hb hd hl)
    · cases hb : x.b
      · cases hd : x.d
        · by_cases hl : x.loc = []
          · exact (by simpa only [hb, hd] using Text_e1000 x r1 q1 c1 d1 w rr ll k1 k2 hx hf he hc hb hd hl)
          · exact (by simpa only [hb, hd] using Text_e1001 x r1 q1 c1 d1 w rr ll k1 k2 hx hf he hc hb hd hl)
        · by_cases hl : x.loc = []
          · exact (by simpa only [hb, hd] using Text_e1010 x r1 q1 c1 d1 w rr ll k1 k2 hx hf he hc hb hd hl)
          · exact (by simpa only [hb, hd] using Text_e1011 x r1 q1 c1 d1 w rr ll k1 k2 hx hf he hc hb hd hl)
      · cases hd : x.d
        · by_cases hl : x.loc = []
          · exact (by simpa only [hb, hd] using Text_e1100 x r1 q1 c1 d1 w rr ll k1 k2 hx hf he hc hb hd hl)
          · exact (by simpa only [hb, hd] using Text_e1101 x r1 q1 c1 d1 w rr ll k1 k2 hx hf he hc hb hd hl)
        · by_cases hl : x.loc = []
          · exact (by simpa only [hb, hd] using Text_e1110 x r1 q1 c1 d1 w rr ll k1 k2 hx hf he hc hb hd hl)
          · exact (by simpa only [hb, hd] using Text_e1111 x r1 q1 c1 d1 w rr ll k1 k2 hx hf he hc hb hd hl)

theorem low_ok {l : List UInt8} (h : okP l = true) : (verX (lowL l)).1 = 0 ∧ l.length ≤ 64 := by
  unfold okP at h
  simp only [Bool.and_eq_true, decide_eq_true_eq] at h
  exact ⟨h.2, h.1⟩
theorem ok_fit {l : List UInt8} (h : okP l = true) : FitT (pepOf (lowL l)) := read_fit _ (low_idem l) (low_ok h).1

set_option maxRecDepth 100000 in
set_option maxHeartbeats 2000000 in
theorem Normal_ok (s : ByteArray) (X : PepL) (w : World) (h : okP s.data.toList = true) (hX : pepOf (lowL s.data.toList) = X) :
    Calls Tryz.prog 8 #[.string s] w fun e w' => e = .returned (.string (ofL (textP X))) ∧ Below w.heap.size w w' := by
  have P1 := fun w => Parse_ok s w h
  have SX : SmallP X := by
    rw [← hX]
    exact pep_small _ (by rw [lowL_len]; exact (low_ok h).2)
  have hf : FitT X := by rw [← hX]; exact ok_fit h
  rw [hX] at P1
  have TX := fun r1 q1 c1 d1 w rr ll k1 k2 => Text_any X r1 q1 c1 d1 w rr ll k1 k2 SX hf
  have P1 := hide P1
  have TX := hide TX
  generalize textP X = RS at *
  clear h hX SX hf
  go_enter Tryz.func8, Tryz.ntmps8
  go_wp2_with fail
  refine (P1.out _).mono ?_
  rintro e w1 ⟨vr, vl, rfl, t1, t2, k1, k2, b1⟩
  obtain ⟨r1, c1, rfl, _⟩ := id t1
  obtain ⟨q1, d1, rfl, _⟩ := id t2
  have k1 := k1 _ _ _ rfl
  have k2 := k2 _ _ _ rfl
  have bb : Below w1.heap.size w1 ((w1.alloc (.cells #[.string (ofL X.ep), .slice r1 X.rel.length c1, .int .u8 X.c, .string (ofL X.n), .bool X.b, .string (ofL X.m), .bool X.d, .string (ofL X.k), .slice q1 X.loc.length d1] 24)).alloc (.cells #[.int .i64 0, .int .i64 0] 27)) := ((Below.refl _ w1).alloc (Nat.le_refl _) _).alloc (by simp) _
  have T2 := hide (TX.out r1 q1 c1 d1 _ (t1.below bb) (t2.below bb) k1 k2)
  have B1 := b1.trans (bb.mono b1.size)
  clear t1 t2 b1
  try unfold pepV
  go_wp2_with fail
  refine T2.out.mono ?_
  rintro e w2 ⟨rfl, b2⟩
  go_wp2_with fail
  go_ret
  exact ⟨rfl, B1.trans (b2.mono B1.size)⟩

theorem trimB_nil : trimB [] = false := rfl
set_option maxRecDepth 100000 in
set_option maxHeartbeats 1000000 in
theorem Fit_zero (w : World) : Calls Tryz.prog 14 #[.agg pepZ] w fun e w' => e = .returned (.bool false) ∧ Below w.heap.size w w' := by
  have C1 := fun w => isTrimmed_any [] w (by simp)
  rw [trimB_nil] at C1
  have C1 := hide C1
  unfold pepZ
  go_enter Tryz.func14, Tryz.ntmps14
  go_wp2_with fail
  refine (C1.out _).mono ?_
  rintro e w' ⟨rfl, hw'⟩
  rw [hw']
  clear hw' w'
  go_wp2_with fail
  go_ret
  exact ⟨rfl, (Below.refl _ w).alloc (Nat.le_refl _) _⟩
set_option maxRecDepth 100000 in
set_option maxHeartbeats 1000000 in
theorem Text_zero (w : World) : Calls Tryz.prog 16 #[.agg pepZ] w fun e w' => e = .returned (.string ⟨#[]⟩) ∧ Below w.heap.size w w' := by
  have F := hide (fun w => Fit_zero w)
  unfold pepZ at *
  go_enter Tryz.func16, Tryz.ntmps16
  go_wp2_with fail
  refine (F.out _).mono ?_
  rintro e w1 ⟨rfl, b1⟩
  go_wp2_with fail
  go_ret
  exact ⟨rfl, ((Below.refl _ w).alloc (Nat.le_refl _) _).trans (b1.mono (by simp))⟩
set_option maxRecDepth 100000 in
set_option maxHeartbeats 1000000 in
theorem Normal_no (s : ByteArray) (w : World) (hs : s.size ≤ 140737488351232) (h : okP s.data.toList = false) :
    Calls Tryz.prog 8 #[.string s] w fun e w' => e = .returned (.string ⟨#[]⟩) ∧ Below w.heap.size w w' := by
  have P1 := hide (fun w => Parse_no s w hs h)
  have TX := hide (fun w => Text_zero w)
  generalize (errX s.data.toList).1 = E1 at *
  generalize ((errX s.data.toList).2 : Int) = E2 at *
  unfold pepZ at *
  clear h
  go_enter Tryz.func8, Tryz.ntmps8
  go_wp2_with fail
  refine (P1.out _).mono ?_
  rintro e w1 ⟨rfl, b1⟩
  go_wp2_with fail
  refine (TX.out _).mono ?_
  rintro e w2 ⟨rfl, b2⟩
  go_wp2_with fail
  go_ret
  exact ⟨rfl, b1.trans ((((Below.refl _ w1).alloc (Nat.le_refl _) _).alloc (by simp) _).trans (b2.mono (by simp; omega)) |>.mono b1.size)⟩

end Go.Proofs.YtagnikhkmaplpaaGreat
