/-
  Walks: fit versions, their texts.
-/
import Derived.Test.YtagnikhkmaplpaaGreatPs
namespace Go.Proofs.YtagnikhkmaplpaaGreat
open Go.RowKit Go.Shelf
set_option linter.unusedVariables false

/-- A version in its box. -/
structure TB (w : World) (x : PepL) (r1 q1 : Option Addr) (c1 d1 : Nat) (W : World) : Prop where
  bel : Below w.heap.size w W
  ea : W.heap[w.heap.size]? = some (.cells #[.string (ofL x.ep), .slice r1 x.rel.length c1, .int .u8 x.c, .string (ofL x.n), .bool x.b, .string (ofL x.m), .bool x.d, .string (ofL x.k), .slice q1 x.loc.length d1] 24 (0, 0))
  rr : Txt W (.slice r1 x.rel.length c1) x.rel
  ll : Txt W (.slice q1 x.loc.length d1) x.loc
theorem TB.next {w W W' : World} {x : PepL} {r1 q1 : Option Addr} {c1 d1 : Nat} (h : TB w x r1 q1 c1 d1 W) (hb : Below W.heap.size W W') : TB w x r1 q1 c1 d1 W' :=
  ⟨h.bel.trans (hb.mono h.bel.size), (hb.block _ (Array.getElem?_eq_some_iff.1 h.ea).1).trans h.ea, h.rr.below hb, h.ll.below hb⟩
theorem TB.seen {w W : World} {x : PepL} {r1 q1 : Option Addr} {c1 d1 : Nat} (h : TB w x r1 q1 c1 d1 W) : W.cell? ⟨w.heap.size, 0, none⟩ = some (.string (ofL x.ep)) ∧ W.cell? ⟨w.heap.size, 1, none⟩ = some (.slice r1 x.rel.length c1) ∧ W.cell? ⟨w.heap.size, 2, none⟩ = some (.int .u8 x.c) ∧ W.cell? ⟨w.heap.size, 3, none⟩ = some (.string (ofL x.n)) ∧ W.cell? ⟨w.heap.size, 4, none⟩ = some (.bool x.b) ∧ W.cell? ⟨w.heap.size, 5, none⟩ = some (.string (ofL x.m)) ∧ W.cell? ⟨w.heap.size, 6, none⟩ = some (.bool x.d) ∧ W.cell? ⟨w.heap.size, 7, none⟩ = some (.string (ofL x.k)) ∧ W.cell? ⟨w.heap.size, 8, none⟩ = some (.slice q1 x.loc.length d1) :=
  ⟨cell_at 0 h.ea rfl, cell_at 1 h.ea rfl, cell_at 2 h.ea rfl, cell_at 3 h.ea rfl, cell_at 4 h.ea rfl, cell_at 5 h.ea rfl, cell_at 6 h.ea rfl, cell_at 7 h.ea rfl, cell_at 8 h.ea rfl⟩
theorem TB.start {w : World} {x : PepL} {r1 q1 : Option Addr} {c1 d1 : Nat} (rr : Txt w (.slice r1 x.rel.length c1) x.rel) (ll : Txt w (.slice q1 x.loc.length d1) x.loc) : TB w x r1 q1 c1 d1 (w.alloc (.cells #[.string (ofL x.ep), .slice r1 x.rel.length c1, .int .u8 x.c, .string (ofL x.n), .bool x.b, .string (ofL x.m), .bool x.d, .string (ofL x.k), .slice q1 x.loc.length d1] 24)) := by
  have bb : Below w.heap.size w (w.alloc (.cells #[.string (ofL x.ep), .slice r1 x.rel.length c1, .int .u8 x.c, .string (ofL x.n), .bool x.b, .string (ofL x.m), .bool x.d, .string (ofL x.k), .slice q1 x.loc.length d1] 24)) := (Below.refl _ w).alloc (Nat.le_refl _) _
  exact ⟨bb, World.alloc_heap_new w _, rr.below bb, ll.below bb⟩

/-- A pre-release's letter, or none. -/
def letB (c : Int) : Bool := c == 0 || c == 97 || c == 98 || c == 114
/-- Which versions are fit. -/
structure FitT (x : PepL) : Prop where
  f1 : trimB x.ep = true
  f2 : x.rel ≠ []
  f3 : x.rel.all trimB = true
  f4 : x.c = 0 ∨ x.c = 97 ∨ x.c = 98 ∨ x.c = 114
  f5 : numB x.n (x.c != 0) = true
  f6 : numB x.m x.b = true
  f7 : numB x.k x.d = true
  f8 : x.loc.all locB = true

set_option maxRecDepth 100000 in
set_option maxHeartbeats 2000000 in
theorem Fit_0 (x : PepL) (r1 q1 : Option Addr) (c1 d1 : Nat) (w : World) (rr : Txt w (.slice r1 x.rel.length c1) x.rel) (ll : Txt w (.slice q1 x.loc.length d1) x.loc) (hx : SmallP x) (hf : FitT x) (hc : x.c = 0) :
    Calls Tryz.prog 14 #[.agg #[.string (ofL x.ep), .slice r1 x.rel.length c1, .int .u8 x.c, .string (ofL x.n), .bool x.b, .string (ofL x.m), .bool x.d, .string (ofL x.k), .slice q1 x.loc.length d1]] w fun e w' => e = .returned (.bool true) ∧ Below w.heap.size w w' := by
  have C1 := fun w => isTrimmed_any x.ep w (by have := hx.e; omega)
  rw [hf.f1] at C1
  have C2 := fun w h => all42_any (.slice r1 x.rel.length c1) x.rel w h hx.r
  rw [hf.f3] at C2
  have C3 := fun w => fitsNumber_any x.n false w (by have := hx.n; omega)
  have f5 := hf.f5
  rw [hc, show ((0 : Int) != 0) = false from rfl] at f5
  rw [f5] at C3
  have C4 := fun w => fitsNumber_any x.m x.b w (by have := hx.m; omega)
  rw [hf.f6] at C4
  have C5 := fun w => fitsNumber_any x.k x.d w (by have := hx.k; omega)
  rw [hf.f7] at C5
  have C6 := fun w h => all45_any (.slice q1 x.loc.length d1) x.loc w h hx.l
  rw [hf.f8] at C6
  have S0 := TB.start rr ll
  have hp : 0 < x.rel.length := List.length_pos_iff.2 hf.f2
  have hp' : (0 : Int) < (x.rel.length : Int) := by omega
  have C1 := hide C1
  have C2 := hide C2
  have C3 := hide C3
  have C4 := hide C4
  have C5 := hide C5
  have C6 := hide C6
  have HC := hide hc
  clear hf rr ll f5 hc
  obtain ⟨s0, s1, s2, s3, s4, s5, s6, s7, s8⟩ := S0.seen
  have sb := S0.bel
  go_enter Tryz.func14, Tryz.ntmps14
  go_wp2_with fail
  generalize hW0 : w.alloc (.cells #[.string (ofL x.ep), .slice r1 x.rel.length c1, .int .u8 x.c, .string (ofL x.n), .bool x.b, .string (ofL x.m), .bool x.d, .string (ofL x.k), .slice q1 x.loc.length d1] 24) = W0 at *
  refine (C1.out _).mono ?_
  rintro e w' ⟨rfl, hw'⟩
  rw [hw']
  clear hw' w'
  go_wp2_with fail
  refine (C2.out _ S0.rr).mono ?_
  rintro e w2 ⟨rfl, b2⟩
  have S2 := S0.next b2
  obtain ⟨t0, t1, t2, t3, t4, t5, t6, t7, t8⟩ := S2.seen
  rw [HC.out] at t2
  go_wp2_with fail
  refine (C3.out _).mono ?_
  rintro e w' ⟨rfl, hw'⟩
  rw [hw']
  clear hw' w'
  go_wp2_with fail
  refine (C4.out _).mono ?_
  rintro e w' ⟨rfl, hw'⟩
  rw [hw']
  clear hw' w'
  go_wp2_with fail
  refine (C5.out _).mono ?_
  rintro e w' ⟨rfl, hw'⟩
  rw [hw']
  clear hw' w'
  go_wp2_with fail
  refine (C6.out _ S2.ll).mono ?_
  rintro e w3 ⟨rfl, b3⟩
  go_wp2_with fail
  go_ret
  exact ⟨rfl, S2.bel.trans (b3.mono S2.bel.size)⟩

set_option maxRecDepth 100000 in
set_option maxHeartbeats 2000000 in
theorem Fit_97 (x : PepL) (r1 q1 : Option Addr) (c1 d1 : Nat) (w : World) (rr : Txt w (.slice r1 x.rel.length c1) x.rel) (ll : Txt w (.slice q1 x.loc.length d1) x.loc) (hx : SmallP x) (hf : FitT x) (hc : x.c = 97) :
    Calls Tryz.prog 14 #[.agg #[.string (ofL x.ep), .slice r1 x.rel.length c1, .int .u8 x.c, .string (ofL x.n), .bool x.b, .string (ofL x.m), .bool x.d, .string (ofL x.k), .slice q1 x.loc.length d1]] w fun e w' => e = .returned (.bool true) ∧ Below w.heap.size w w' := by
  have C1 := fun w => isTrimmed_any x.ep w (by have := hx.e; omega)
  rw [hf.f1] at C1
  have C2 := fun w h => all42_any (.slice r1 x.rel.length c1) x.rel w h hx.r
  rw [hf.f3] at C2
  have C3 := fun w => fitsNumber_any x.n true w (by have := hx.n; omega)
  have f5 := hf.f5
  rw [hc, show ((97 : Int) != 0) = true from rfl] at f5
  rw [f5] at C3
  have C4 := fun w => fitsNumber_any x.m x.b w (by have := hx.m; omega)
  rw [hf.f6] at C4
  have C5 := fun w => fitsNumber_any x.k x.d w (by have := hx.k; omega)
  rw [hf.f7] at C5
  have C6 := fun w h => all45_any (.slice q1 x.loc.length d1) x.loc w h hx.l
  rw [hf.f8] at C6
  have S0 := TB.start rr ll
  have hp : 0 < x.rel.length := List.length_pos_iff.2 hf.f2
  have hp' : (0 : Int) < (x.rel.length : Int) := by omega
  have C1 := hide C1
  have C2 := hide C2
  have C3 := hide C3
  have C4 := hide C4
  have C5 := hide C5
  have C6 := hide C6
  have HC := hide hc
  clear hf rr ll f5 hc
  obtain ⟨s0, s1, s2, s3, s4, s5, s6, s7, s8⟩ := S0.seen
  have sb := S0.bel
  go_enter Tryz.func14, Tryz.ntmps14
  go_wp2_with fail
  generalize hW0 : w.alloc (.cells #[.string (ofL x.ep), .slice r1 x.rel.length c1, .int .u8 x.c, .string (ofL x.n), .bool x.b, .string (ofL x.m), .bool x.d, .string (ofL x.k), .slice q1 x.loc.length d1] 24) = W0 at *
  refine (C1.out _).mono ?_
  rintro e w' ⟨rfl, hw'⟩
  rw [hw']
  clear hw' w'
  go_wp2_with fail
  refine (C2.out _ S0.rr).mono ?_
  rintro e w2 ⟨rfl, b2⟩
  have S2 := S0.next b2
  obtain ⟨t0, t1, t2, t3, t4, t5, t6, t7, t8⟩ := S2.seen
  rw [HC.out] at t2
  go_wp2_with fail
  refine (C3.out _).mono ?_
  rintro e w' ⟨rfl, hw'⟩
  rw [hw']
  clear hw' w'
  go_wp2_with fail
  refine (C4.out _).mono ?_
  rintro e w' ⟨rfl, hw'⟩
  rw [hw']
  clear hw' w'
  go_wp2_with fail
  refine (C5.out _).mono ?_
  rintro e w' ⟨rfl, hw'⟩
  rw [hw']
  clear hw' w'
  go_wp2_with fail
  refine (C6.out _ S2.ll).mono ?_
  rintro e w3 ⟨rfl, b3⟩
  go_wp2_with fail
  go_ret
  exact ⟨rfl, S2.bel.trans (b3.mono S2.bel.size)⟩

set_option maxRecDepth 100000 in
set_option maxHeartbeats 2000000 in
theorem Fit_98 (x : PepL) (r1 q1 : Option Addr) (c1 d1 : Nat) (w : World) (rr : Txt w (.slice r1 x.rel.length c1) x.rel) (ll : Txt w (.slice q1 x.loc.length d1) x.loc) (hx : SmallP x) (hf : FitT x) (hc : x.c = 98) :
    Calls Tryz.prog 14 #[.agg #[.string (ofL x.ep), .slice r1 x.rel.length c1, .int .u8 x.c, .string (ofL x.n), .bool x.b, .string (ofL x.m), .bool x.d, .string (ofL x.k), .slice q1 x.loc.length d1]] w fun e w' => e = .returned (.bool true) ∧ Below w.heap.size w w' := by
  have C1 := fun w => isTrimmed_any x.ep w (by have := hx.e; omega)
  rw [hf.f1] at C1
  have C2 := fun w h => all42_any (.slice r1 x.rel.length c1) x.rel w h hx.r
  rw [hf.f3] at C2
  have C3 := fun w => fitsNumber_any x.n true w (by have := hx.n; omega)
  have f5 := hf.f5
  rw [hc, show ((98 : Int) != 0) = true from rfl] at f5
  rw [f5] at C3
  have C4 := fun w => fitsNumber_any x.m x.b w (by have := hx.m; omega)
  rw [hf.f6] at C4
  have C5 := fun w => fitsNumber_any x.k x.d w (by have := hx.k; omega)
  rw [hf.f7] at C5
  have C6 := fun w h => all45_any (.slice q1 x.loc.length d1) x.loc w h hx.l
  rw [hf.f8] at C6
  have S0 := TB.start rr ll
  have hp : 0 < x.rel.length := List.length_pos_iff.2 hf.f2
  have hp' : (0 : Int) < (x.rel.length : Int) := by omega
  have C1 := hide C1
  have C2 := hide C2
  have C3 := hide C3
  have C4 := hide C4
  have C5 := hide C5
  have C6 := hide C6
  have HC := hide hc
  clear hf rr ll f5 hc
  obtain ⟨s0, s1, s2, s3, s4, s5, s6, s7, s8⟩ := S0.seen
  have sb := S0.bel
  go_enter Tryz.func14, Tryz.ntmps14
  go_wp2_with fail
  generalize hW0 : w.alloc (.cells #[.string (ofL x.ep), .slice r1 x.rel.length c1, .int .u8 x.c, .string (ofL x.n), .bool x.b, .string (ofL x.m), .bool x.d, .string (ofL x.k), .slice q1 x.loc.length d1] 24) = W0 at *
  refine (C1.out _).mono ?_
  rintro e w' ⟨rfl, hw'⟩
  rw [hw']
  clear hw' w'
  go_wp2_with fail
  refine (C2.out _ S0.rr).mono ?_
  rintro e w2 ⟨rfl, b2⟩
  have S2 := S0.next b2
  obtain ⟨t0, t1, t2, t3, t4, t5, t6, t7, t8⟩ := S2.seen
  rw [HC.out] at t2
  go_wp2_with fail
  refine (C3.out _).mono ?_
  rintro e w' ⟨rfl, hw'⟩
  rw [hw']
  clear hw' w'
  go_wp2_with fail
  refine (C4.out _).mono ?_
  rintro e w' ⟨rfl, hw'⟩
  rw [hw']
  clear hw' w'
  go_wp2_with fail
  refine (C5.out _).mono ?_
  rintro e w' ⟨rfl, hw'⟩
  rw [hw']
  clear hw' w'
  go_wp2_with fail
  refine (C6.out _ S2.ll).mono ?_
  rintro e w3 ⟨rfl, b3⟩
  go_wp2_with fail
  go_ret
  exact ⟨rfl, S2.bel.trans (b3.mono S2.bel.size)⟩

set_option maxRecDepth 100000 in
set_option maxHeartbeats 2000000 in
theorem Fit_114 (x : PepL) (r1 q1 : Option Addr) (c1 d1 : Nat) (w : World) (rr : Txt w (.slice r1 x.rel.length c1) x.rel) (ll : Txt w (.slice q1 x.loc.length d1) x.loc) (hx : SmallP x) (hf : FitT x) (hc : x.c = 114) :
    Calls Tryz.prog 14 #[.agg #[.string (ofL x.ep), .slice r1 x.rel.length c1, .int .u8 x.c, .string (ofL x.n), .bool x.b, .string (ofL x.m), .bool x.d, .string (ofL x.k), .slice q1 x.loc.length d1]] w fun e w' => e = .returned (.bool true) ∧ Below w.heap.size w w' := by
  have C1 := fun w => isTrimmed_any x.ep w (by have := hx.e; omega)
  rw [hf.f1] at C1
  have C2 := fun w h => all42_any (.slice r1 x.rel.length c1) x.rel w h hx.r
  rw [hf.f3] at C2
  have C3 := fun w => fitsNumber_any x.n true w (by have := hx.n; omega)
  have f5 := hf.f5
  rw [hc, show ((114 : Int) != 0) = true from rfl] at f5
  rw [f5] at C3
  have C4 := fun w => fitsNumber_any x.m x.b w (by have := hx.m; omega)
  rw [hf.f6] at C4
  have C5 := fun w => fitsNumber_any x.k x.d w (by have := hx.k; omega)
  rw [hf.f7] at C5
  have C6 := fun w h => all45_any (.slice q1 x.loc.length d1) x.loc w h hx.l
  rw [hf.f8] at C6
  have S0 := TB.start rr ll
  have hp : 0 < x.rel.length := List.length_pos_iff.2 hf.f2
  have hp' : (0 : Int) < (x.rel.length : Int) := by omega
  have C1 := hide C1
  have C2 := hide C2
  have C3 := hide C3
  have C4 := hide C4
  have C5 := hide C5
  have C6 := hide C6
  have HC := hide hc
  clear hf rr ll f5 hc
  obtain ⟨s0, s1, s2, s3, s4, s5, s6, s7, s8⟩ := S0.seen
  have sb := S0.bel
  go_enter Tryz.func14, Tryz.ntmps14
  go_wp2_with fail
  generalize hW0 : w.alloc (.cells #[.string (ofL x.ep), .slice r1 x.rel.length c1, .int .u8 x.c, .string (ofL x.n), .bool x.b, .string (ofL x.m), .bool x.d, .string (ofL x.k), .slice q1 x.loc.length d1] 24) = W0 at *
  refine (C1.out _).mono ?_
  rintro e w' ⟨rfl, hw'⟩
  rw [hw']
  clear hw' w'
  go_wp2_with fail
  refine (C2.out _ S0.rr).mono ?_
  rintro e w2 ⟨rfl, b2⟩
  have S2 := S0.next b2
  obtain ⟨t0, t1, t2, t3, t4, t5, t6, t7, t8⟩ := S2.seen
  rw [HC.out] at t2
  go_wp2_with fail
  refine (C3.out _).mono ?_
  rintro e w' ⟨rfl, hw'⟩
  rw [hw']
  clear hw' w'
  go_wp2_with fail
  refine (C4.out _).mono ?_
  rintro e w' ⟨rfl, hw'⟩
  rw [hw']
  clear hw' w'
  go_wp2_with fail
  refine (C5.out _).mono ?_
  rintro e w' ⟨rfl, hw'⟩
  rw [hw']
  clear hw' w'
  go_wp2_with fail
  refine (C6.out _ S2.ll).mono ?_
  rintro e w3 ⟨rfl, b3⟩
  go_wp2_with fail
  go_ret
  exact ⟨rfl, S2.bel.trans (b3.mono S2.bel.size)⟩

theorem Fit_true (x : PepL) (r1 q1 : Option Addr) (c1 d1 : Nat) (w : World) (rr : Txt w (.slice r1 x.rel.length c1) x.rel) (ll : Txt w (.slice q1 x.loc.length d1) x.loc) (hx : SmallP x) (hf : FitT x) :
    Calls Tryz.prog 14 #[.agg #[.string (ofL x.ep), .slice r1 x.rel.length c1, .int .u8 x.c, .string (ofL x.n), .bool x.b, .string (ofL x.m), .bool x.d, .string (ofL x.k), .slice q1 x.loc.length d1]] w fun e w' => e = .returned (.bool true) ∧ Below w.heap.size w w' := by
  rcases hf.f4 with hc | hc | hc | hc
  · exact Fit_0 x r1 q1 c1 d1 w rr ll hx hf hc
  · exact Fit_97 x r1 q1 c1 d1 w rr ll hx hf hc
  · exact Fit_98 x r1 q1 c1 d1 w rr ll hx hf hc
  · exact Fit_114 x r1 q1 c1 d1 w rr ll hx hf hc

end Go.Proofs.YtagnikhkmaplpaaGreat
