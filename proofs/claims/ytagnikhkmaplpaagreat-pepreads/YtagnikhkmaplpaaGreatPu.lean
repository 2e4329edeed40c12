/-
  Walks: a version's text.
-/
import Derived.Test.YtagnikhkmaplpaaGreatPt
import Derived.Deep.RegionWith
namespace Go.Proofs.YtagnikhkmaplpaaGreat
open Go.RowKit Go.Shelf
set_option linter.unusedVariables false

/-- The word of a pre-release's letter. -/
def preWd (c : Int) : List UInt8 := if c = 114 then [114, 99] else [c.toNat.toUInt8]
set_option maxRecDepth 100000 in
set_option maxHeartbeats 400000 in
theorem preWord_97 (w : World) : Calls Tryz.prog 47 #[.int .u8 97] w fun e w' => e = .returned (.string ⟨#[97]⟩) ∧ Below w.heap.size w w' := by
  have bb := (Below.refl _ w).alloc (Nat.le_refl _) (.cells #[.int .u8 97] 5)
  have hy : Bys (w.alloc (.cells #[.int .u8 97] 5)) w.heap.size [97] := by
    have e := World.alloc_heap_new w (.cells #[.int .u8 97] 5)
    refine ⟨fun i hi => ?_, fun i hi => one_free i e⟩
    match i, hi with
    | 0, _ => exact cell_at 0 e rfl
  have hback := hy.back (P := Tryz.prog) 66 9 5 1 Tryz.underlying66 Tryz.underlying5 Tryz.underlying9
  have hlen : ([97] : List UInt8).length = 1 := rfl
  rw [hlen] at hback
  go_enter Tryz.func47, Tryz.ntmps47
  go_wp2_with fail
  go_ret
  exact ⟨rfl, bb⟩

theorem catL (x : List UInt8) (lit : ByteArray) (r : List UInt8) : ∃ t1 t2 : ByteArray, lit ++ ofL r = t1 ∧ ofL x ++ t1 = t2 ∧ t2 = ofL (x ++ (lit.data.toList ++ r)) ∧ t1.size = lit.size + r.length ∧ t2.size = x.length + (lit.size + r.length) := by
  obtain ⟨t1, e1, s1, d1⟩ := cat_step lit (ofL r)
  obtain ⟨t2, e2, s2, d2⟩ := cat_step (ofL x) t1
  refine ⟨t1, t2, e1, e2, ba_ext ?_, ?_, ?_⟩
  · rw [d2, d1, ofL_data, ofL_data, ofL_data]
  · rw [s1, ofL_size]
  · rw [s2, s1, ofL_size, ofL_size]
theorem catE (a b : List UInt8) : ∃ t1 t2 : ByteArray, ofL a ++ (⟨#[33]⟩ : ByteArray) = t1 ∧ t1 ++ ofL b = t2 ∧ t2 = ofL (a ++ 33 :: b) ∧ t1.size = a.length + 1 ∧ t2.size = a.length + 1 + b.length := by
  obtain ⟨t1, e1, s1, d1⟩ := cat_step (ofL a) ⟨#[33]⟩
  obtain ⟨t2, e2, s2, d2⟩ := cat_step t1 (ofL b)
  refine ⟨t1, t2, e1, e2, ba_ext ?_, ?_, ?_⟩
  · rw [d2, d1, ofL_data, ofL_data, ofL_data]; simp
  · rw [s1, ofL_size]; rfl
  · rw [s2, s1, ofL_size, ofL_size]; rfl
theorem lenI_small {ts : List (List UInt8)} (h : ts.length ≤ 65 ∧ ∀ t ∈ ts, t.length ≤ 65) : lenI ts ≤ 5000 := by
  have : ∀ us : List (List UInt8), (∀ t ∈ us, t.length ≤ 65) → lenI us ≤ 66 * us.length := by
    intro us
    induction us with
    | nil => intro _; simp [lenI]
    | cons t r ih =>
      intro hh
      have h1 := hh t List.mem_cons_self
      have h2 := ih (fun u hu => hh u (List.mem_cons_of_mem _ hu))
      simp only [lenI, List.length_cons]
      omega
  have := this ts h.2
  omega
theorem eq48' (l : List UInt8) (b : Bool) (h : (l == [48]) = b) : ((ofL l).toList == [48]) = b := by rw [toL, ofL_data]; exact h

set_option maxRecDepth 100000 in
set_option maxHeartbeats 4000000 in
theorem Text_pre (x : PepL) (r1 q1 : Option Addr) (c1 d1 : Nat) (w : World) (rr : Txt w (.slice r1 x.rel.length c1) x.rel) (ll : Txt w (.slice q1 x.loc.length d1) x.loc) (k1 : x.rel.length ≤ c1) (k2 : x.loc.length ≤ d1) (hx : SmallP x) (hf : FitT x) (he : x.ep = [48]) (hc : x.c = 97) (hb : x.b = false) (hd : x.d = false) (hl : x.loc = []) :
    Calls Tryz.prog 16 #[.agg #[.string (ofL x.ep), .slice r1 x.rel.length c1, .int .u8 x.c, .string (ofL x.n), .bool x.b, .string (ofL x.m), .bool x.d, .string (ofL x.k), .slice q1 x.loc.length d1]] w fun e w' => e = .returned (.string (ofL ((joinL x.rel) ++ ((⟨#[97]⟩ : ByteArray).data.toList ++ x.n)))) ∧ Below w.heap.size w w' := by
  have F := fun w rr ll => Fit_true x r1 q1 c1 d1 w rr ll hx hf
  have J1 := fun w h => Join_any (.slice r1 x.rel.length c1) x.rel w h (by rintro a n c h; cases h; exact k1) (by have := hx.rI; omega)
  have hlb : ¬ (0 : Int) < (x.loc.length : Int) := by rw [hl]; simp
  have heb := eq48' x.ep true (by rw [he]; rfl)
  have S0 := TB.start rr ll
  have z1 := hx.e
  have z2 := hx.n
  have z3 := hx.m
  have z4 := Nat.le_trans (joinL_len x.rel) (hx.rI)
  have z5 := Nat.le_trans (joinL_len x.loc) (hx.lI)
  have o1 := ofL_size x.ep
  have o2 := ofL_size x.n
  have o3 := ofL_size x.m
  have o4 := ofL_size (joinL x.rel)
  have o5 := ofL_size (joinL x.loc)
  obtain ⟨b11, b12, h11, h12, hh1, w11, w12⟩ := catL (joinL x.rel) ⟨#[97]⟩ x.n
  have u1 : b12.size ≤ 50000000 := by rw [hh1, ofL_size]; simp only [List.length_append, List.length_cons, List.length_nil]; simp; omega
  have t1 : b11.size ≤ 50000000 := by rw [w11]; simp [ByteArray.size]; omega
  have HL := hide hh1
  have F := hide F
  have J1 := hide J1
  have PW := hide (fun w => preWord_97 w)
  have HC := hide hc
  have HB := hide hb
  have HD := hide hd
  clear he hl hc hb hd
  clear hh1
  go_enter Tryz.func16, Tryz.ntmps16
  go_wp2_with fail
  generalize w.alloc (.cells #[.string (ofL x.ep), .slice r1 x.rel.length c1, .int .u8 x.c, .string (ofL x.n), .bool x.b, .string (ofL x.m), .bool x.d, .string (ofL x.k), .slice q1 x.loc.length d1] 24) = W0 at *
  obtain ⟨s0, s1, s2, s3, s4, s5, s6, s7, s8⟩ := S0.seen
  refine (F.out _ S0.rr S0.ll).mono ?_
  rintro e' v1 ⟨rfl, b1⟩
  have S1 := S0.next b1
  obtain ⟨t0, t1, t2, t3, t4, t5, t6, t7, t8⟩ := S1.seen
  rw [HC.out] at t2
  rw [HB.out] at t4
  rw [HD.out] at t6
  go_wp2_with fail
  refine (J1.out _ S1.rr).mono ?_
  rintro e' v2 ⟨rfl, b2⟩
  have S2 := S1.next b2
  obtain ⟨i0, i1, i2, i3, i4, i5, i6, i7, i8⟩ := S2.seen
  rw [HC.out] at i2
  rw [HB.out] at i4
  rw [HD.out] at i6
  go_wp2_with fail
  have D2 := S2.next (Below.refl _ v2).drew
  go_region_with (go_at_call 47; refine (PW.out _).mono ?_; rintro e' v3 ⟨rfl, b3⟩; have S3 := D2.next b3; obtain ⟨j0, j1, j2, j3, j4, j5, j6, j7, j8⟩ := S3.seen; rw [HC.out] at j2; rw [HB.out] at j4; rw [HD.out] at j6)
  all_goals go_wp2_with fail
  all_goals go_ret
  all_goals exact ⟨ret_s (by first | exact HL.out | rw [← HL.out]), S3.bel⟩

set_option maxRecDepth 100000 in
set_option maxHeartbeats 4000000 in
theorem Text_post (x : PepL) (r1 q1 : Option Addr) (c1 d1 : Nat) (w : World) (rr : Txt w (.slice r1 x.rel.length c1) x.rel) (ll : Txt w (.slice q1 x.loc.length d1) x.loc) (k1 : x.rel.length ≤ c1) (k2 : x.loc.length ≤ d1) (hx : SmallP x) (hf : FitT x) (he : x.ep ≠ [48]) (hc : x.c = 0) (hb : x.b = true) (hd : x.d = false) (hl : x.loc = []) :
    Calls Tryz.prog 16 #[.agg #[.string (ofL x.ep), .slice r1 x.rel.length c1, .int .u8 x.c, .string (ofL x.n), .bool x.b, .string (ofL x.m), .bool x.d, .string (ofL x.k), .slice q1 x.loc.length d1]] w fun e w' => e = .returned (.string (ofL ((x.ep ++ 33 :: joinL x.rel) ++ ((⟨#[46, 112, 111, 115, 116]⟩ : ByteArray).data.toList ++ x.m)))) ∧ Below w.heap.size w w' := by
  have F := fun w rr ll => Fit_true x r1 q1 c1 d1 w rr ll hx hf
  have J1 := fun w h => Join_any (.slice r1 x.rel.length c1) x.rel w h (by rintro a n c h; cases h; exact k1) (by have := hx.rI; omega)
  have hlb : ¬ (0 : Int) < (x.loc.length : Int) := by rw [hl]; simp
  have heb := eq48' x.ep false (by simpa using he)
  have S0 := TB.start rr ll
  have z1 := hx.e
  have z2 := hx.n
  have z3 := hx.m
  have z4 := Nat.le_trans (joinL_len x.rel) (hx.rI)
  have z5 := Nat.le_trans (joinL_len x.loc) (hx.lI)
  have o1 := ofL_size x.ep
  have o2 := ofL_size x.n
  have o3 := ofL_size x.m
  have o4 := ofL_size (joinL x.rel)
  have o5 := ofL_size (joinL x.loc)
  obtain ⟨a1, a2, g1, g2, ga, y1, y2⟩ := catE x.ep (joinL x.rel)
  obtain ⟨b21, b22, h21, h22, hh2, w21, w22⟩ := catL (x.ep ++ 33 :: joinL x.rel) ⟨#[46, 112, 111, 115, 116]⟩ x.m
  rw [← ga] at h22
  have u2 : b22.size ≤ 50000000 := by rw [hh2, ofL_size]; simp only [List.length_append, List.length_cons, List.length_nil]; simp; omega
  have t2 : b21.size ≤ 50000000 := by rw [w21]; simp [ByteArray.size]; omega
  have HL := hide hh2
  have F := hide F
  have J1 := hide J1
  have PW := hide (fun w => preWord_97 w)
  have HC := hide hc
  have HB := hide hb
  have HD := hide hd
  clear he hl hc hb hd
  clear hh2
  clear ga
  go_enter Tryz.func16, Tryz.ntmps16
  go_wp2_with fail
  generalize w.alloc (.cells #[.string (ofL x.ep), .slice r1 x.rel.length c1, .int .u8 x.c, .string (ofL x.n), .bool x.b, .string (ofL x.m), .bool x.d, .string (ofL x.k), .slice q1 x.loc.length d1] 24) = W0 at *
  obtain ⟨s0, s1, s2, s3, s4, s5, s6, s7, s8⟩ := S0.seen
  refine (F.out _ S0.rr S0.ll).mono ?_
  rintro e' v1 ⟨rfl, b1⟩
  have S1 := S0.next b1
  obtain ⟨t0, t1, t2, t3, t4, t5, t6, t7, t8⟩ := S1.seen
  rw [HC.out] at t2
  rw [HB.out] at t4
  rw [HD.out] at t6
  go_wp2_with fail
  refine (J1.out _ S1.rr).mono ?_
  rintro e' v2 ⟨rfl, b2⟩
  have S2 := S1.next b2
  obtain ⟨i0, i1, i2, i3, i4, i5, i6, i7, i8⟩ := S2.seen
  rw [HC.out] at i2
  rw [HB.out] at i4
  rw [HD.out] at i6
  go_wp2_with fail
  go_ret
  exact ⟨ret_s (by first | exact HL.out | rw [← HL.out]), S2.bel⟩

set_option maxRecDepth 100000 in
set_option maxHeartbeats 4000000 in
theorem Text_loc (x : PepL) (r1 q1 : Option Addr) (c1 d1 : Nat) (w : World) (rr : Txt w (.slice r1 x.rel.length c1) x.rel) (ll : Txt w (.slice q1 x.loc.length d1) x.loc) (k1 : x.rel.length ≤ c1) (k2 : x.loc.length ≤ d1) (hx : SmallP x) (hf : FitT x) (he : x.ep = [48]) (hc : x.c = 0) (hb : x.b = false) (hd : x.d = false) (hl : x.loc ≠ []) :
    Calls Tryz.prog 16 #[.agg #[.string (ofL x.ep), .slice r1 x.rel.length c1, .int .u8 x.c, .string (ofL x.n), .bool x.b, .string (ofL x.m), .bool x.d, .string (ofL x.k), .slice q1 x.loc.length d1]] w fun e w' => e = .returned (.string (ofL ((joinL x.rel) ++ ((⟨#[43]⟩ : ByteArray).data.toList ++ (joinL x.loc))))) ∧ Below w.heap.size w w' := by
  have F := fun w rr ll => Fit_true x r1 q1 c1 d1 w rr ll hx hf
  have J1 := fun w h => Join_any (.slice r1 x.rel.length c1) x.rel w h (by rintro a n c h; cases h; exact k1) (by have := hx.rI; omega)
  have J2 := fun w h => Join_any (.slice q1 x.loc.length d1) x.loc w h (by rintro a n c h; cases h; exact k2) (by have := hx.lI; omega)
  have J2 := hide J2
  have hlb : (0 : Int) < (x.loc.length : Int) := by have := List.length_pos_iff.2 hl; omega
  have heb := eq48' x.ep true (by rw [he]; rfl)
  have S0 := TB.start rr ll
  have z1 := hx.e
  have z2 := hx.n
  have z3 := hx.m
  have z4 := Nat.le_trans (joinL_len x.rel) (hx.rI)
  have z5 := Nat.le_trans (joinL_len x.loc) (hx.lI)
  have o1 := ofL_size x.ep
  have o2 := ofL_size x.n
  have o3 := ofL_size x.m
  have o4 := ofL_size (joinL x.rel)
  have o5 := ofL_size (joinL x.loc)
  obtain ⟨b41, b42, h41, h42, hh4, w41, w42⟩ := catL (joinL x.rel) ⟨#[43]⟩ (joinL x.loc)
  have u4 : b42.size ≤ 50000000 := by rw [hh4, ofL_size]; simp only [List.length_append, List.length_cons, List.length_nil]; simp; omega
  have t4 : b41.size ≤ 50000000 := by rw [w41]; simp [ByteArray.size]; omega
  have HL := hide hh4
  have F := hide F
  have J1 := hide J1
  have PW := hide (fun w => preWord_97 w)
  have HC := hide hc
  have HB := hide hb
  have HD := hide hd
  clear he hl hc hb hd
  clear hh4
  go_enter Tryz.func16, Tryz.ntmps16
  go_wp2_with fail
  generalize w.alloc (.cells #[.string (ofL x.ep), .slice r1 x.rel.length c1, .int .u8 x.c, .string (ofL x.n), .bool x.b, .string (ofL x.m), .bool x.d, .string (ofL x.k), .slice q1 x.loc.length d1] 24) = W0 at *
  obtain ⟨s0, s1, s2, s3, s4, s5, s6, s7, s8⟩ := S0.seen
  refine (F.out _ S0.rr S0.ll).mono ?_
  rintro e' v1 ⟨rfl, b1⟩
  have S1 := S0.next b1
  obtain ⟨t0, t1, t2, t3, t4, t5, t6, t7, t8⟩ := S1.seen
  rw [HC.out] at t2
  rw [HB.out] at t4
  rw [HD.out] at t6
  go_wp2_with fail
  refine (J1.out _ S1.rr).mono ?_
  rintro e' v2 ⟨rfl, b2⟩
  have S2 := S1.next b2
  obtain ⟨i0, i1, i2, i3, i4, i5, i6, i7, i8⟩ := S2.seen
  rw [HC.out] at i2
  rw [HB.out] at i4
  rw [HD.out] at i6
  go_wp2_with fail
  refine (J2.out _ S2.ll).mono ?_
  rintro e' v4 ⟨rfl, b4⟩
  have S4 := S2.next b4
  go_wp2_with fail
  go_ret
  exact ⟨ret_s (by first | exact HL.out | rw [← HL.out]), S4.bel⟩


end Go.Proofs.YtagnikhkmaplpaaGreat
