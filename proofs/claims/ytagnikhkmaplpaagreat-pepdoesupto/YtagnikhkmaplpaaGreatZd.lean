/-
  Walks: which versions are fit, in general.
-/
import Derived.Test.YtagnikhkmaplpaaGreatPt
import Derived.Test.YtagnikhkmaplpaaGreatQd
import Derived.Test.YtagnikhkmaplpaaGreatQo
import Derived.Test.YtagnikhkmaplpaaGreatYb
import Derived.Test.YtagnikhkmaplpaaGreatQv
namespace Go.Proofs.YtagnikhkmaplpaaGreat
open Go.RowKit Go.Shelf
set_option linter.unusedVariables false

set_option maxRecDepth 100000 in
set_option maxHeartbeats 2000000 in
theorem Fit_ep (ep : List UInt8) (rel : List (List UInt8)) (n : List UInt8) (b : Bool) (m : List UInt8) (d : Bool) (k : List UInt8) (loc : List (List UInt8)) (r1 q1 : Option Addr) (c1 d1 : Nat) (w : World) (c : Int) (rr : Txt w (.slice r1 rel.length c1) rel) (ll : Txt w (.slice q1 loc.length d1) loc) (hx : MidP ⟨ep, rel, c, n, b, m, d, k, loc⟩) (h1 : trimB ep = false) :
    Calls Tryz.prog 14 #[.agg #[.string (ofL ep), .slice r1 rel.length c1, .int .u8 c, .string (ofL n), .bool b, .string (ofL m), .bool d, .string (ofL k), .slice q1 loc.length d1]] w fun e w' => e = .returned (.bool false) ∧ Below w.heap.size w w' := by
  have C1 := fun w => isTrimmed_any ep w (by have h : ep.length ≤ 1048576 := hx.e; omega)
  rw [h1] at C1
  have S0 : TB w ⟨ep, rel, c, n, b, m, d, k, loc⟩ r1 q1 c1 d1 (w.alloc (.cells #[.string (ofL ep), .slice r1 rel.length c1, .int .u8 c, .string (ofL n), .bool b, .string (ofL m), .bool d, .string (ofL k), .slice q1 loc.length d1] 24)) := TB.start (x := ⟨ep, rel, c, n, b, m, d, k, loc⟩) rr ll
  have C1 := hide C1
  clear rr ll hx h1
  obtain ⟨s0, s1, s2, s3, s4, s5, s6, s7, s8⟩ := S0.seen
  have sb := S0.bel
  go_enter Tryz.func14, Tryz.ntmps14
  go_wp2_with fail
  generalize hW0 : w.alloc (.cells #[.string (ofL ep), .slice r1 rel.length c1, .int .u8 c, .string (ofL n), .bool b, .string (ofL m), .bool d, .string (ofL k), .slice q1 loc.length d1] 24) = W0 at *
  refine (C1.out _).mono ?_
  rintro e w' ⟨rfl, hw'⟩
  rw [hw']
  clear hw' w'
  go_wp2_with fail
  go_ret
  exact ⟨rfl, S0.bel⟩

set_option maxRecDepth 100000 in
set_option maxHeartbeats 2000000 in
theorem Fit_rel (ep : List UInt8) (rel : List (List UInt8)) (n : List UInt8) (b : Bool) (m : List UInt8) (d : Bool) (k : List UInt8) (loc : List (List UInt8)) (r1 q1 : Option Addr) (c1 d1 : Nat) (w : World) (c : Int) (rr : Txt w (.slice r1 rel.length c1) rel) (ll : Txt w (.slice q1 loc.length d1) loc) (hx : MidP ⟨ep, rel, c, n, b, m, d, k, loc⟩) (h1 : trimB ep = true) (h2 : rel = []) :
    Calls Tryz.prog 14 #[.agg #[.string (ofL ep), .slice r1 rel.length c1, .int .u8 c, .string (ofL n), .bool b, .string (ofL m), .bool d, .string (ofL k), .slice q1 loc.length d1]] w fun e w' => e = .returned (.bool false) ∧ Below w.heap.size w w' := by
  have C1 := fun w => isTrimmed_any ep w (by have h : ep.length ≤ 1048576 := hx.e; omega)
  rw [h1] at C1
  have S0 : TB w ⟨ep, rel, c, n, b, m, d, k, loc⟩ r1 q1 c1 d1 (w.alloc (.cells #[.string (ofL ep), .slice r1 rel.length c1, .int .u8 c, .string (ofL n), .bool b, .string (ofL m), .bool d, .string (ofL k), .slice q1 loc.length d1] 24)) := TB.start (x := ⟨ep, rel, c, n, b, m, d, k, loc⟩) rr ll
  have hp' : ¬ (0 : Int) < (rel.length : Int) := by rw [h2]; simp
  have C1 := hide C1
  clear rr ll hx h1 h2
  obtain ⟨s0, s1, s2, s3, s4, s5, s6, s7, s8⟩ := S0.seen
  have sb := S0.bel
  go_enter Tryz.func14, Tryz.ntmps14
  go_wp2_with fail
  generalize hW0 : w.alloc (.cells #[.string (ofL ep), .slice r1 rel.length c1, .int .u8 c, .string (ofL n), .bool b, .string (ofL m), .bool d, .string (ofL k), .slice q1 loc.length d1] 24) = W0 at *
  refine (C1.out _).mono ?_
  rintro e w' ⟨rfl, hw'⟩
  rw [hw']
  clear hw' w'
  go_wp2_with fail
  go_ret
  exact ⟨rfl, S0.bel⟩

set_option maxRecDepth 100000 in
set_option maxHeartbeats 2000000 in
theorem Fit_all (ep : List UInt8) (rel : List (List UInt8)) (n : List UInt8) (b : Bool) (m : List UInt8) (d : Bool) (k : List UInt8) (loc : List (List UInt8)) (r1 q1 : Option Addr) (c1 d1 : Nat) (w : World) (c : Int) (rr : Txt w (.slice r1 rel.length c1) rel) (ll : Txt w (.slice q1 loc.length d1) loc) (hx : MidP ⟨ep, rel, c, n, b, m, d, k, loc⟩) (h1 : trimB ep = true) (h2 : rel ≠ []) (h3 : rel.all trimB = false) :
    Calls Tryz.prog 14 #[.agg #[.string (ofL ep), .slice r1 rel.length c1, .int .u8 c, .string (ofL n), .bool b, .string (ofL m), .bool d, .string (ofL k), .slice q1 loc.length d1]] w fun e w' => e = .returned (.bool false) ∧ Below w.heap.size w w' := by
  have C1 := fun w => isTrimmed_any ep w (by have h : ep.length ≤ 1048576 := hx.e; omega)
  rw [h1] at C1
  have C2 := fun w h => all42_any (.slice r1 rel.length c1) rel w h hx.r
  rw [h3] at C2
  have S0 : TB w ⟨ep, rel, c, n, b, m, d, k, loc⟩ r1 q1 c1 d1 (w.alloc (.cells #[.string (ofL ep), .slice r1 rel.length c1, .int .u8 c, .string (ofL n), .bool b, .string (ofL m), .bool d, .string (ofL k), .slice q1 loc.length d1] 24)) := TB.start (x := ⟨ep, rel, c, n, b, m, d, k, loc⟩) rr ll
  have hp : 0 < rel.length := List.length_pos_iff.2 h2
  have hp' : (0 : Int) < (rel.length : Int) := by omega
  have C1 := hide C1
  have C2 := hide C2
  clear rr ll hx h1 h2 h3
  obtain ⟨s0, s1, s2, s3, s4, s5, s6, s7, s8⟩ := S0.seen
  have sb := S0.bel
  go_enter Tryz.func14, Tryz.ntmps14
  go_wp2_with fail
  generalize hW0 : w.alloc (.cells #[.string (ofL ep), .slice r1 rel.length c1, .int .u8 c, .string (ofL n), .bool b, .string (ofL m), .bool d, .string (ofL k), .slice q1 loc.length d1] 24) = W0 at *
  refine (C1.out _).mono ?_
  rintro e w' ⟨rfl, hw'⟩
  rw [hw']
  clear hw' w'
  go_wp2_with fail
  refine (C2.out _ S0.rr).mono ?_
  rintro e w2 ⟨rfl, b2⟩
  have S2 := S0.next b2
  obtain ⟨t0, t1, t2, t3, t4, t5, t6, t7, t8⟩ := S2.seen
  go_wp2_with fail
  go_ret
  exact ⟨rfl, S2.bel⟩

set_option maxRecDepth 100000 in
set_option maxHeartbeats 2000000 in
theorem Fit_let (ep : List UInt8) (rel : List (List UInt8)) (n : List UInt8) (b : Bool) (m : List UInt8) (d : Bool) (k : List UInt8) (loc : List (List UInt8)) (r1 q1 : Option Addr) (c1 d1 : Nat) (w : World) (c : Int) (rr : Txt w (.slice r1 rel.length c1) rel) (ll : Txt w (.slice q1 loc.length d1) loc) (hx : MidP ⟨ep, rel, c, n, b, m, d, k, loc⟩) (h1 : trimB ep = true) (h2 : rel ≠ []) (h3 : rel.all trimB = true) (h4 : letB c = false) :
    Calls Tryz.prog 14 #[.agg #[.string (ofL ep), .slice r1 rel.length c1, .int .u8 c, .string (ofL n), .bool b, .string (ofL m), .bool d, .string (ofL k), .slice q1 loc.length d1]] w fun e w' => e = .returned (.bool false) ∧ Below w.heap.size w w' := by
  have C1 := fun w => isTrimmed_any ep w (by have h : ep.length ≤ 1048576 := hx.e; omega)
  rw [h1] at C1
  have C2 := fun w h => all42_any (.slice r1 rel.length c1) rel w h hx.r
  rw [h3] at C2
  have S0 : TB w ⟨ep, rel, c, n, b, m, d, k, loc⟩ r1 q1 c1 d1 (w.alloc (.cells #[.string (ofL ep), .slice r1 rel.length c1, .int .u8 c, .string (ofL n), .bool b, .string (ofL m), .bool d, .string (ofL k), .slice q1 loc.length d1] 24)) := TB.start (x := ⟨ep, rel, c, n, b, m, d, k, loc⟩) rr ll
  have hp : 0 < rel.length := List.length_pos_iff.2 h2
  have hp' : (0 : Int) < (rel.length : Int) := by omega
  obtain ⟨g0, g1, g2, g3⟩ : (c == 0) = false ∧ (c == 97) = false ∧ (c == 98) = false ∧ (c == 114) = false := by
    unfold letB at h4
    simp at h4
    simp
    omega
  have C1 := hide C1
  have C2 := hide C2
  clear rr ll hx h1 h2 h3 h4
  obtain ⟨s0, s1, s2, s3, s4, s5, s6, s7, s8⟩ := S0.seen
  have sb := S0.bel
  go_enter Tryz.func14, Tryz.ntmps14
  go_wp2_with fail
  generalize hW0 : w.alloc (.cells #[.string (ofL ep), .slice r1 rel.length c1, .int .u8 c, .string (ofL n), .bool b, .string (ofL m), .bool d, .string (ofL k), .slice q1 loc.length d1] 24) = W0 at *
  refine (C1.out _).mono ?_
  rintro e w' ⟨rfl, hw'⟩
  rw [hw']
  clear hw' w'
  go_wp2_with fail
  refine (C2.out _ S0.rr).mono ?_
  rintro e w2 ⟨rfl, b2⟩
  have S2 := S0.next b2
  obtain ⟨t0, t1, t2, t3, t4, t5, t6, t7, t8⟩ := S2.seen
  go_wp2_with fail
  go_ret
  exact ⟨rfl, S2.bel⟩

set_option maxRecDepth 100000 in
set_option maxHeartbeats 2000000 in
theorem Fit_n_0 (ep : List UInt8) (rel : List (List UInt8)) (n : List UInt8) (b : Bool) (m : List UInt8) (d : Bool) (k : List UInt8) (loc : List (List UInt8)) (r1 q1 : Option Addr) (c1 d1 : Nat) (w : World) (rr : Txt w (.slice r1 rel.length c1) rel) (ll : Txt w (.slice q1 loc.length d1) loc) (hx : MidP ⟨ep, rel, 0, n, b, m, d, k, loc⟩) (h1 : trimB ep = true) (h2 : rel ≠ []) (h3 : rel.all trimB = true) (h5 : numB n false = false) :
    Calls Tryz.prog 14 #[.agg #[.string (ofL ep), .slice r1 rel.length c1, .int .u8 0, .string (ofL n), .bool b, .string (ofL m), .bool d, .string (ofL k), .slice q1 loc.length d1]] w fun e w' => e = .returned (.bool false) ∧ Below w.heap.size w w' := by
  have C1 := fun w => isTrimmed_any ep w (by have h : ep.length ≤ 1048576 := hx.e; omega)
  rw [h1] at C1
  have C2 := fun w h => all42_any (.slice r1 rel.length c1) rel w h hx.r
  rw [h3] at C2
  have C3 := fun w => fitsNumber_any n false w (by have h : n.length ≤ 1048576 := hx.n; omega)
  rw [h5] at C3
  have S0 : TB w ⟨ep, rel, 0, n, b, m, d, k, loc⟩ r1 q1 c1 d1 (w.alloc (.cells #[.string (ofL ep), .slice r1 rel.length c1, .int .u8 0, .string (ofL n), .bool b, .string (ofL m), .bool d, .string (ofL k), .slice q1 loc.length d1] 24)) := TB.start (x := ⟨ep, rel, 0, n, b, m, d, k, loc⟩) rr ll
  have hp : 0 < rel.length := List.length_pos_iff.2 h2
  have hp' : (0 : Int) < (rel.length : Int) := by omega
  have C1 := hide C1
  have C2 := hide C2
  have C3 := hide C3
  clear rr ll hx h1 h2 h3 h5
  obtain ⟨s0, s1, s2, s3, s4, s5, s6, s7, s8⟩ := S0.seen
  have sb := S0.bel
  go_enter Tryz.func14, Tryz.ntmps14
  go_wp2_with fail
  generalize hW0 : w.alloc (.cells #[.string (ofL ep), .slice r1 rel.length c1, .int .u8 0, .string (ofL n), .bool b, .string (ofL m), .bool d, .string (ofL k), .slice q1 loc.length d1] 24) = W0 at *
  refine (C1.out _).mono ?_
  rintro e w' ⟨rfl, hw'⟩
  rw [hw']
  clear hw' w'
  go_wp2_with fail
  refine (C2.out _ S0.rr).mono ?_
  rintro e w2 ⟨rfl, b2⟩
  have S2 := S0.next b2
  obtain ⟨t0, t1, t2, t3, t4, t5, t6, t7, t8⟩ := S2.seen
  go_wp2_with fail
  refine (C3.out _).mono ?_
  rintro e w' ⟨rfl, hw'⟩
  rw [hw']
  clear hw' w'
  go_wp2_with fail
  go_ret
  exact ⟨rfl, S2.bel⟩

set_option maxRecDepth 100000 in
set_option maxHeartbeats 2000000 in
theorem Fit_m_0 (ep : List UInt8) (rel : List (List UInt8)) (n : List UInt8) (b : Bool) (m : List UInt8) (d : Bool) (k : List UInt8) (loc : List (List UInt8)) (r1 q1 : Option Addr) (c1 d1 : Nat) (w : World) (rr : Txt w (.slice r1 rel.length c1) rel) (ll : Txt w (.slice q1 loc.length d1) loc) (hx : MidP ⟨ep, rel, 0, n, b, m, d, k, loc⟩) (h1 : trimB ep = true) (h2 : rel ≠ []) (h3 : rel.all trimB = true) (h5 : numB n false = true) (h6 : numB m b = false) :
    Calls Tryz.prog 14 #[.agg #[.string (ofL ep), .slice r1 rel.length c1, .int .u8 0, .string (ofL n), .bool b, .string (ofL m), .bool d, .string (ofL k), .slice q1 loc.length d1]] w fun e w' => e = .returned (.bool false) ∧ Below w.heap.size w w' := by
  have C1 := fun w => isTrimmed_any ep w (by have h : ep.length ≤ 1048576 := hx.e; omega)
  rw [h1] at C1
  have C2 := fun w h => all42_any (.slice r1 rel.length c1) rel w h hx.r
  rw [h3] at C2
  have C3 := fun w => fitsNumber_any n false w (by have h : n.length ≤ 1048576 := hx.n; omega)
  rw [h5] at C3
  have C4 := fun w => fitsNumber_any m b w (by have h : m.length ≤ 1048576 := hx.m; omega)
  rw [h6] at C4
  have S0 : TB w ⟨ep, rel, 0, n, b, m, d, k, loc⟩ r1 q1 c1 d1 (w.alloc (.cells #[.string (ofL ep), .slice r1 rel.length c1, .int .u8 0, .string (ofL n), .bool b, .string (ofL m), .bool d, .string (ofL k), .slice q1 loc.length d1] 24)) := TB.start (x := ⟨ep, rel, 0, n, b, m, d, k, loc⟩) rr ll
  have hp : 0 < rel.length := List.length_pos_iff.2 h2
  have hp' : (0 : Int) < (rel.length : Int) := by omega
  have C1 := hide C1
  have C2 := hide C2
  have C3 := hide C3
  have C4 := hide C4
  clear rr ll hx h1 h2 h3 h5 h6
  obtain ⟨s0, s1, s2, s3, s4, s5, s6, s7, s8⟩ := S0.seen
  have sb := S0.bel
  go_enter Tryz.func14, Tryz.ntmps14
  go_wp2_with fail
  generalize hW0 : w.alloc (.cells #[.string (ofL ep), .slice r1 rel.length c1, .int .u8 0, .string (ofL n), .bool b, .string (ofL m), .bool d, .string (ofL k), .slice q1 loc.length d1] 24) = W0 at *
  refine (C1.out _).mono ?_
  rintro e w' ⟨rfl, hw'⟩
  rw [hw']
  clear hw' w'
  go_wp2_with fail
  refine (C2.out _ S0.rr).mono ?_
  rintro e w2 ⟨rfl, b2⟩
  have S2 := S0.next b2
  obtain ⟨t0, t1, t2, t3, t4, t5, t6, t7, t8⟩ := S2.seen
  go_wp2_with fail
  refine (C3.out _).mono ?_
  rintro e w' ⟨rfl, hw'⟩
  rw [hw']
  clear hw' w'
  go_wp2_with fail
  refine (C4.out _).mono ?_
  rintro e w' ⟨rfl, hw'⟩
  rw [hw']
  clear hw' w'
  go_wp2_with fail
  go_ret
  exact ⟨rfl, S2.bel⟩

set_option maxRecDepth 100000 in
set_option maxHeartbeats 2000000 in
theorem Fit_k_0 (ep : List UInt8) (rel : List (List UInt8)) (n : List UInt8) (b : Bool) (m : List UInt8) (d : Bool) (k : List UInt8) (loc : List (List UInt8)) (r1 q1 : Option Addr) (c1 d1 : Nat) (w : World) (rr : Txt w (.slice r1 rel.length c1) rel) (ll : Txt w (.slice q1 loc.length d1) loc) (hx : MidP ⟨ep, rel, 0, n, b, m, d, k, loc⟩) (h1 : trimB ep = true) (h2 : rel ≠ []) (h3 : rel.all trimB = true) (h5 : numB n false = true) (h6 : numB m b = true) (h7 : numB k d = false) :
    Calls Tryz.prog 14 #[.agg #[.string (ofL ep), .slice r1 rel.length c1, .int .u8 0, .string (ofL n), .bool b, .string (ofL m), .bool d, .string (ofL k), .slice q1 loc.length d1]] w fun e w' => e = .returned (.bool false) ∧ Below w.heap.size w w' := by
  have C1 := fun w => isTrimmed_any ep w (by have h : ep.length ≤ 1048576 := hx.e; omega)
  rw [h1] at C1
  have C2 := fun w h => all42_any (.slice r1 rel.length c1) rel w h hx.r
  rw [h3] at C2
  have C3 := fun w => fitsNumber_any n false w (by have h : n.length ≤ 1048576 := hx.n; omega)
  rw [h5] at C3
  have C4 := fun w => fitsNumber_any m b w (by have h : m.length ≤ 1048576 := hx.m; omega)
  rw [h6] at C4
  have C5 := fun w => fitsNumber_any k d w (by have h : k.length ≤ 1048576 := hx.k; omega)
  rw [h7] at C5
  have S0 : TB w ⟨ep, rel, 0, n, b, m, d, k, loc⟩ r1 q1 c1 d1 (w.alloc (.cells #[.string (ofL ep), .slice r1 rel.length c1, .int .u8 0, .string (ofL n), .bool b, .string (ofL m), .bool d, .string (ofL k), .slice q1 loc.length d1] 24)) := TB.start (x := ⟨ep, rel, 0, n, b, m, d, k, loc⟩) rr ll
  have hp : 0 < rel.length := List.length_pos_iff.2 h2
  have hp' : (0 : Int) < (rel.length : Int) := by omega
  have C1 := hide C1
  have C2 := hide C2
  have C3 := hide C3
  have C4 := hide C4
  have C5 := hide C5
  clear rr ll hx h1 h2 h3 h5 h6 h7
  obtain ⟨s0, s1, s2, s3, s4, s5, s6, s7, s8⟩ := S0.seen
  have sb := S0.bel
  go_enter Tryz.func14, Tryz.ntmps14
  go_wp2_with fail
  generalize hW0 : w.alloc (.cells #[.string (ofL ep), .slice r1 rel.length c1, .int .u8 0, .string (ofL n), .bool b, .string (ofL m), .bool d, .string (ofL k), .slice q1 loc.length d1] 24) = W0 at *
  refine (C1.out _).mono ?_
  rintro e w' ⟨rfl, hw'⟩
  rw [hw']
  clear hw' w'
  go_wp2_with fail
  refine (C2.out _ S0.rr).mono ?_
  rintro e w2 ⟨rfl, b2⟩
  have S2 := S0.next b2
  obtain ⟨t0, t1, t2, t3, t4, t5, t6, t7, t8⟩ := S2.seen
  go_wp2_with fail
  refine (C3.out _).mono ?_
  rintro e w' ⟨rfl, hw'⟩
  rw [hw']
  clear hw' w'
  go_wp2_with fail
  refine (C4.out _).mono ?_
  rintro e w' ⟨rfl, hw'⟩
  rw [hw']
  clear hw' w'
  go_wp2_with fail
  refine (C5.out _).mono ?_
  rintro e w' ⟨rfl, hw'⟩
  rw [hw']
  clear hw' w'
  go_wp2_with fail
  go_ret
  exact ⟨rfl, S2.bel⟩

set_option maxRecDepth 100000 in
set_option maxHeartbeats 2000000 in
theorem Fit_loc_0 (ep : List UInt8) (rel : List (List UInt8)) (n : List UInt8) (b : Bool) (m : List UInt8) (d : Bool) (k : List UInt8) (loc : List (List UInt8)) (r1 q1 : Option Addr) (c1 d1 : Nat) (w : World) (rr : Txt w (.slice r1 rel.length c1) rel) (ll : Txt w (.slice q1 loc.length d1) loc) (hx : MidP ⟨ep, rel, 0, n, b, m, d, k, loc⟩) (h1 : trimB ep = true) (h2 : rel ≠ []) (h3 : rel.all trimB = true) (h5 : numB n false = true) (h6 : numB m b = true) (h7 : numB k d = true) :
    Calls Tryz.prog 14 #[.agg #[.string (ofL ep), .slice r1 rel.length c1, .int .u8 0, .string (ofL n), .bool b, .string (ofL m), .bool d, .string (ofL k), .slice q1 loc.length d1]] w fun e w' => e = .returned (.bool (loc.all locB)) ∧ Below w.heap.size w w' := by
  have C1 := fun w => isTrimmed_any ep w (by have h : ep.length ≤ 1048576 := hx.e; omega)
  rw [h1] at C1
  have C2 := fun w h => all42_any (.slice r1 rel.length c1) rel w h hx.r
  rw [h3] at C2
  have C3 := fun w => fitsNumber_any n false w (by have h : n.length ≤ 1048576 := hx.n; omega)
  rw [h5] at C3
  have C4 := fun w => fitsNumber_any m b w (by have h : m.length ≤ 1048576 := hx.m; omega)
  rw [h6] at C4
  have C5 := fun w => fitsNumber_any k d w (by have h : k.length ≤ 1048576 := hx.k; omega)
  rw [h7] at C5
  have C6 := fun w h => all45_any (.slice q1 loc.length d1) loc w h hx.l
  generalize loc.all locB = z at *
  have S0 : TB w ⟨ep, rel, 0, n, b, m, d, k, loc⟩ r1 q1 c1 d1 (w.alloc (.cells #[.string (ofL ep), .slice r1 rel.length c1, .int .u8 0, .string (ofL n), .bool b, .string (ofL m), .bool d, .string (ofL k), .slice q1 loc.length d1] 24)) := TB.start (x := ⟨ep, rel, 0, n, b, m, d, k, loc⟩) rr ll
  have hp : 0 < rel.length := List.length_pos_iff.2 h2
  have hp' : (0 : Int) < (rel.length : Int) := by omega
  have C1 := hide C1
  have C2 := hide C2
  have C3 := hide C3
  have C4 := hide C4
  have C5 := hide C5
  have C6 := hide C6
  clear rr ll hx h1 h2 h3 h5 h6 h7
  obtain ⟨s0, s1, s2, s3, s4, s5, s6, s7, s8⟩ := S0.seen
  have sb := S0.bel
  go_enter Tryz.func14, Tryz.ntmps14
  go_wp2_with fail
  generalize hW0 : w.alloc (.cells #[.string (ofL ep), .slice r1 rel.length c1, .int .u8 0, .string (ofL n), .bool b, .string (ofL m), .bool d, .string (ofL k), .slice q1 loc.length d1] 24) = W0 at *
  refine (C1.out _).mono ?_
  rintro e w' ⟨rfl, hw'⟩
  rw [hw']
  clear hw' w'
  go_wp2_with fail
  refine (C2.out _ S0.rr).mono ?_
  rintro e w2 ⟨rfl, b2⟩
  have S2 := S0.next b2
  obtain ⟨t0, t1, t2, t3, t4, t5, t6, t7, t8⟩ := S2.seen
  go_wp2_with fail
  refine (C3.out _).mono ?_
  rintro e w' ⟨rfl, hw'⟩
  rw [hw']
  clear hw' w'
  go_wp2_with fail
  refine (C4.out _).mono ?_
  rintro e w' ⟨rfl, hw'⟩
  rw [hw']
  clear hw' w'
  go_wp2_with fail
  refine (C5.out _).mono ?_
  rintro e w' ⟨rfl, hw'⟩
  rw [hw']
  clear hw' w'
  go_wp2_with fail
  refine (C6.out _ S2.ll).mono ?_
  rintro e w3 ⟨rfl, b3⟩
  go_wp2_with fail
  go_ret
  exact ⟨rfl, S2.bel.trans (b3.mono S2.bel.size)⟩

set_option maxRecDepth 100000 in
set_option maxHeartbeats 2000000 in
theorem Fit_n_97 (ep : List UInt8) (rel : List (List UInt8)) (n : List UInt8) (b : Bool) (m : List UInt8) (d : Bool) (k : List UInt8) (loc : List (List UInt8)) (r1 q1 : Option Addr) (c1 d1 : Nat) (w : World) (rr : Txt w (.slice r1 rel.length c1) rel) (ll : Txt w (.slice q1 loc.length d1) loc) (hx : MidP ⟨ep, rel, 97, n, b, m, d, k, loc⟩) (h1 : trimB ep = true) (h2 : rel ≠ []) (h3 : rel.all trimB = true) (h5 : numB n true = false) :
    Calls Tryz.prog 14 #[.agg #[.string (ofL ep), .slice r1 rel.length c1, .int .u8 97, .string (ofL n), .bool b, .string (ofL m), .bool d, .string (ofL k), .slice q1 loc.length d1]] w fun e w' => e = .returned (.bool false) ∧ Below w.heap.size w w' := by
  have C1 := fun w => isTrimmed_any ep w (by have h : ep.length ≤ 1048576 := hx.e; omega)
  rw [h1] at C1
  have C2 := fun w h => all42_any (.slice r1 rel.length c1) rel w h hx.r
  rw [h3] at C2
  have C3 := fun w => fitsNumber_any n true w (by have h : n.length ≤ 1048576 := hx.n; omega)
  rw [h5] at C3
  have S0 : TB w ⟨ep, rel, 97, n, b, m, d, k, loc⟩ r1 q1 c1 d1 (w.alloc (.cells #[.string (ofL ep), .slice r1 rel.length c1, .int .u8 97, .string (ofL n), .bool b, .string (ofL m), .bool d, .string (ofL k), .slice q1 loc.length d1] 24)) := TB.start (x := ⟨ep, rel, 97, n, b, m, d, k, loc⟩) rr ll
  have hp : 0 < rel.length := List.length_pos_iff.2 h2
  have hp' : (0 : Int) < (rel.length : Int) := by omega
  have C1 := hide C1
  have C2 := hide C2
  have C3 := hide C3
  clear rr ll hx h1 h2 h3 h5
  obtain ⟨s0, s1, s2, s3, s4, s5, s6, s7, s8⟩ := S0.seen
  have sb := S0.bel
  go_enter Tryz.func14, Tryz.ntmps14
  go_wp2_with fail
  generalize hW0 : w.alloc (.cells #[.string (ofL ep), .slice r1 rel.length c1, .int .u8 97, .string (ofL n), .bool b, .string (ofL m), .bool d, .string (ofL k), .slice q1 loc.length d1] 24) = W0 at *
  refine (C1.out _).mono ?_
  rintro e w' ⟨rfl, hw'⟩
  rw [hw']
  clear hw' w'
  go_wp2_with fail
  refine (C2.out _ S0.rr).mono ?_
  rintro e w2 ⟨rfl, b2⟩
  have S2 := S0.next b2
  obtain ⟨t0, t1, t2, t3, t4, t5, t6, t7, t8⟩ := S2.seen
  go_wp2_with fail
  refine (C3.out _).mono ?_
  rintro e w' ⟨rfl, hw'⟩
  rw [hw']
  clear hw' w'
  go_wp2_with fail
  go_ret
  exact ⟨rfl, S2.bel⟩

set_option maxRecDepth 100000 in
set_option maxHeartbeats 2000000 in
theorem Fit_m_97 (ep : List UInt8) (rel : List (List UInt8)) (n : List UInt8) (b : Bool) (m : List UInt8) (d : Bool) (k : List UInt8) (loc : List (List UInt8)) (r1 q1 : Option Addr) (c1 d1 : Nat) (w : World) (rr : Txt w (.slice r1 rel.length c1) rel) (ll : Txt w (.slice q1 loc.length d1) loc) (hx : MidP ⟨ep, rel, 97, n, b, m, d, k, loc⟩) (h1 : trimB ep = true) (h2 : rel ≠ []) (h3 : rel.all trimB = true) (h5 : numB n true = true) (h6 : numB m b = false) :
    Calls Tryz.prog 14 #[.agg #[.string (ofL ep), .slice r1 rel.length c1, .int .u8 97, .string (ofL n), .bool b, .string (ofL m), .bool d, .string (ofL k), .slice q1 loc.length d1]] w fun e w' => e = .returned (.bool false) ∧ Below w.heap.size w w' := by
  have C1 := fun w => isTrimmed_any ep w (by have h : ep.length ≤ 1048576 := hx.e; omega)
  rw [h1] at C1
  have C2 := fun w h => all42_any (.slice r1 rel.length c1) rel w h hx.r
  rw [h3] at C2
  have C3 := fun w => fitsNumber_any n true w (by have h : n.length ≤ 1048576 := hx.n; omega)
  rw [h5] at C3
  have C4 := fun w => fitsNumber_any m b w (by have h : m.length ≤ 1048576 := hx.m; omega)
  rw [h6] at C4
  have S0 : TB w ⟨ep, rel, 97, n, b, m, d, k, loc⟩ r1 q1 c1 d1 (w.alloc (.cells #[.string (ofL ep), .slice r1 rel.length c1, .int .u8 97, .string (ofL n), .bool b, .string (ofL m), .bool d, .string (ofL k), .slice q1 loc.length d1] 24)) := TB.start (x := ⟨ep, rel, 97, n, b, m, d, k, loc⟩) rr ll
  have hp : 0 < rel.length := List.length_pos_iff.2 h2
  have hp' : (0 : Int) < (rel.length : Int) := by omega
  have C1 := hide C1
  have C2 := hide C2
  have C3 := hide C3
  have C4 := hide C4
  clear rr ll hx h1 h2 h3 h5 h6
  obtain ⟨s0, s1, s2, s3, s4, s5, s6, s7, s8⟩ := S0.seen
  have sb := S0.bel
  go_enter Tryz.func14, Tryz.ntmps14
  go_wp2_with fail
  generalize hW0 : w.alloc (.cells #[.string (ofL ep), .slice r1 rel.length c1, .int .u8 97, .string (ofL n), .bool b, .string (ofL m), .bool d, .string (ofL k), .slice q1 loc.length d1] 24) = W0 at *
  refine (C1.out _).mono ?_
  rintro e w' ⟨rfl, hw'⟩
  rw [hw']
  clear hw' w'
  go_wp2_with fail
  refine (C2.out _ S0.rr).mono ?_
  rintro e w2 ⟨rfl, b2⟩
  have S2 := S0.next b2
  obtain ⟨t0, t1, t2, t3, t4, t5, t6, t7, t8⟩ := S2.seen
  go_wp2_with fail
  refine (C3.out _).mono ?_
  rintro e w' ⟨rfl, hw'⟩
  rw [hw']
  clear hw' w'
  go_wp2_with fail
  refine (C4.out _).mono ?_
  rintro e w' ⟨rfl, hw'⟩
  rw [hw']
  clear hw' w'
  go_wp2_with fail
  go_ret
  exact ⟨rfl, S2.bel⟩

set_option maxRecDepth 100000 in
set_option maxHeartbeats 2000000 in
theorem Fit_k_97 (ep : List UInt8) (rel : List (List UInt8)) (n : List UInt8) (b : Bool) (m : List UInt8) (d : Bool) (k : List UInt8) (loc : List (List UInt8)) (r1 q1 : Option Addr) (c1 d1 : Nat) (w : World) (rr : Txt w (.slice r1 rel.length c1) rel) (ll : Txt w (.slice q1 loc.length d1) loc) (hx : MidP ⟨ep, rel, 97, n, b, m, d, k, loc⟩) (h1 : trimB ep = true) (h2 : rel ≠ []) (h3 : rel.all trimB = true) (h5 : numB n true = true) (h6 : numB m b = true) (h7 : numB k d = false) :
    Calls Tryz.prog 14 #[.agg #[.string (ofL ep), .slice r1 rel.length c1, .int .u8 97, .string (ofL n), .bool b, .string (ofL m), .bool d, .string (ofL k), .slice q1 loc.length d1]] w fun e w' => e = .returned (.bool false) ∧ Below w.heap.size w w' := by
  have C1 := fun w => isTrimmed_any ep w (by have h : ep.length ≤ 1048576 := hx.e; omega)
  rw [h1] at C1
  have C2 := fun w h => all42_any (.slice r1 rel.length c1) rel w h hx.r
  rw [h3] at C2
  have C3 := fun w => fitsNumber_any n true w (by have h : n.length ≤ 1048576 := hx.n; omega)
  rw [h5] at C3
  have C4 := fun w => fitsNumber_any m b w (by have h : m.length ≤ 1048576 := hx.m; omega)
  rw [h6] at C4
  have C5 := fun w => fitsNumber_any k d w (by have h : k.length ≤ 1048576 := hx.k; omega)
  rw [h7] at C5
  have S0 : TB w ⟨ep, rel, 97, n, b, m, d, k, loc⟩ r1 q1 c1 d1 (w.alloc (.cells #[.string (ofL ep), .slice r1 rel.length c1, .int .u8 97, .string (ofL n), .bool b, .string (ofL m), .bool d, .string (ofL k), .slice q1 loc.length d1] 24)) := TB.start (x := ⟨ep, rel, 97, n, b, m, d, k, loc⟩) rr ll
  have hp : 0 < rel.length := List.length_pos_iff.2 h2
  have hp' : (0 : Int) < (rel.length : Int) := by omega
  have C1 := hide C1
  have C2 := hide C2
  have C3 := hide C3
  have C4 := hide C4
  have C5 := hide C5
  clear rr ll hx h1 h2 h3 h5 h6 h7
  obtain ⟨s0, s1, s2, s3, s4, s5, s6, s7, s8⟩ := S0.seen
  have sb := S0.bel
  go_enter Tryz.func14, Tryz.ntmps14
  go_wp2_with fail
  generalize hW0 : w.alloc (.cells #[.string (ofL ep), .slice r1 rel.length c1, .int .u8 97, .string (ofL n), .bool b, .string (ofL m), .bool d, .string (ofL k), .slice q1 loc.length d1] 24) = W0 at *
  refine (C1.out _).mono ?_
  rintro e w' ⟨rfl, hw'⟩
  rw [hw']
  clear hw' w'
  go_wp2_with fail
  refine (C2.out _ S0.rr).mono ?_
  rintro e w2 ⟨rfl, b2⟩
  have S2 := S0.next b2
  obtain ⟨t0, t1, t2, t3, t4, t5, t6, t7, t8⟩ := S2.seen
  go_wp2_with fail
  refine (C3.out _).mono ?_
  rintro e w' ⟨rfl, hw'⟩
  rw [hw']
  clear hw' w'
  go_wp2_with fail
  refine (C4.out _).mono ?_
  rintro e w' ⟨rfl, hw'⟩
  rw [hw']
  clear hw' w'
  go_wp2_with fail
  refine (C5.out _).mono ?_
  rintro e w' ⟨rfl, hw'⟩
  rw [hw']
  clear hw' w'
  go_wp2_with fail
  go_ret
  exact ⟨rfl, S2.bel⟩

set_option maxRecDepth 100000 in
set_option maxHeartbeats 2000000 in
theorem Fit_loc_97 (ep : List UInt8) (rel : List (List UInt8)) (n : List UInt8) (b : Bool) (m : List UInt8) (d : Bool) (k : List UInt8) (loc : List (List UInt8)) (r1 q1 : Option Addr) (c1 d1 : Nat) (w : World) (rr : Txt w (.slice r1 rel.length c1) rel) (ll : Txt w (.slice q1 loc.length d1) loc) (hx : MidP ⟨ep, rel, 97, n, b, m, d, k, loc⟩) (h1 : trimB ep = true) (h2 : rel ≠ []) (h3 : rel.all trimB = true) (h5 : numB n true = true) (h6 : numB m b = true) (h7 : numB k d = true) :
    Calls Tryz.prog 14 #[.agg #[.string (ofL ep), .slice r1 rel.length c1, .int .u8 97, .string (ofL n), .bool b, .string (ofL m), .bool d, .string (ofL k), .slice q1 loc.length d1]] w fun e w' => e = .returned (.bool (loc.all locB)) ∧ Below w.heap.size w w' := by
  have C1 := fun w => isTrimmed_any ep w (by have h : ep.length ≤ 1048576 := hx.e; omega)
  rw [h1] at C1
  have C2 := fun w h => all42_any (.slice r1 rel.length c1) rel w h hx.r
  rw [h3] at C2
  have C3 := fun w => fitsNumber_any n true w (by have h : n.length ≤ 1048576 := hx.n; omega)
  rw [h5] at C3
  have C4 := fun w => fitsNumber_any m b w (by have h : m.length ≤ 1048576 := hx.m; omega)
  rw [h6] at C4
  have C5 := fun w => fitsNumber_any k d w (by have h : k.length ≤ 1048576 := hx.k; omega)
  rw [h7] at C5
  have C6 := fun w h => all45_any (.slice q1 loc.length d1) loc w h hx.l
  generalize loc.all locB = z at *
  have S0 : TB w ⟨ep, rel, 97, n, b, m, d, k, loc⟩ r1 q1 c1 d1 (w.alloc (.cells #[.string (ofL ep), .slice r1 rel.length c1, .int .u8 97, .string (ofL n), .bool b, .string (ofL m), .bool d, .string (ofL k), .slice q1 loc.length d1] 24)) := TB.start (x := ⟨ep, rel, 97, n, b, m, d, k, loc⟩) rr ll
  have hp : 0 < rel.length := List.length_pos_iff.2 h2
  have hp' : (0 : Int) < (rel.length : Int) := by omega
  have C1 := hide C1
  have C2 := hide C2
  have C3 := hide C3
  have C4 := hide C4
  have C5 := hide C5
  have C6 := hide C6
  clear rr ll hx h1 h2 h3 h5 h6 h7
  obtain ⟨s0, s1, s2, s3, s4, s5, s6, s7, s8⟩ := S0.seen
  have sb := S0.bel
  go_enter Tryz.func14, Tryz.ntmps14
  go_wp2_with fail
  generalize hW0 : w.alloc (.cells #[.string (ofL ep), .slice r1 rel.length c1, .int .u8 97, .string (ofL n), .bool b, .string (ofL m), .bool d, .string (ofL k), .slice q1 loc.length d1] 24) = W0 at *
  refine (C1.out _).mono ?_
  rintro e w' ⟨rfl, hw'⟩
  rw [hw']
  clear hw' w'
  go_wp2_with fail
  refine (C2.out _ S0.rr).mono ?_
  rintro e w2 ⟨rfl, b2⟩
  have S2 := S0.next b2
  obtain ⟨t0, t1, t2, t3, t4, t5, t6, t7, t8⟩ := S2.seen
  go_wp2_with fail
  refine (C3.out _).mono ?_
  rintro e w' ⟨rfl, hw'⟩
  rw [hw']
  clear hw' w'
  go_wp2_with fail
  refine (C4.out _).mono ?_
  rintro e w' ⟨rfl, hw'⟩
  rw [hw']
  clear hw' w'
  go_wp2_with fail
  refine (C5.out _).mono ?_
  rintro e w' ⟨rfl, hw'⟩
  rw [hw']
  clear hw' w'
  go_wp2_with fail
  refine (C6.out _ S2.ll).mono ?_
  rintro e w3 ⟨rfl, b3⟩
  go_wp2_with fail
  go_ret
  exact ⟨rfl, S2.bel.trans (b3.mono S2.bel.size)⟩

set_option maxRecDepth 100000 in
set_option maxHeartbeats 2000000 in
theorem Fit_n_98 (ep : List UInt8) (rel : List (List UInt8)) (n : List UInt8) (b : Bool) (m : List UInt8) (d : Bool) (k : List UInt8) (loc : List (List UInt8)) (r1 q1 : Option Addr) (c1 d1 : Nat) (w : World) (rr : Txt w (.slice r1 rel.length c1) rel) (ll : Txt w (.slice q1 loc.length d1) loc) (hx : MidP ⟨ep, rel, 98, n, b, m, d, k, loc⟩) (h1 : trimB ep = true) (h2 : rel ≠ []) (h3 : rel.all trimB = true) (h5 : numB n true = false) :
    Calls Tryz.prog 14 #[.agg #[.string (ofL ep), .slice r1 rel.length c1, .int .u8 98, .string (ofL n), .bool b, .string (ofL m), .bool d, .string (ofL k), .slice q1 loc.length d1]] w fun e w' => e = .returned (.bool false) ∧ Below w.heap.size w w' := by
  have C1 := fun w => isTrimmed_any ep w (by have h : ep.length ≤ 1048576 := hx.e; omega)
  rw [h1] at C1
  have C2 := fun w h => all42_any (.slice r1 rel.length c1) rel w h hx.r
  rw [h3] at C2
  have C3 := fun w => fitsNumber_any n true w (by have h : n.length ≤ 1048576 := hx.n; omega)
  rw [h5] at C3
  have S0 : TB w ⟨ep, rel, 98, n, b, m, d, k, loc⟩ r1 q1 c1 d1 (w.alloc (.cells #[.string (ofL ep), .slice r1 rel.length c1, .int .u8 98, .string (ofL n), .bool b, .string (ofL m), .bool d, .string (ofL k), .slice q1 loc.length d1] 24)) := TB.start (x := ⟨ep, rel, 98, n, b, m, d, k, loc⟩) rr ll
  have hp : 0 < rel.length := List.length_pos_iff.2 h2
  have hp' : (0 : Int) < (rel.length : Int) := by omega
  have C1 := hide C1
  have C2 := hide C2
  have C3 := hide C3
  clear rr ll hx h1 h2 h3 h5
  obtain ⟨s0, s1, s2, s3, s4, s5, s6, s7, s8⟩ := S0.seen
  have sb := S0.bel
  go_enter Tryz.func14, Tryz.ntmps14
  go_wp2_with fail
  generalize hW0 : w.alloc (.cells #[.string (ofL ep), .slice r1 rel.length c1, .int .u8 98, .string (ofL n), .bool b, .string (ofL m), .bool d, .string (ofL k), .slice q1 loc.length d1] 24) = W0 at *
  refine (C1.out _).mono ?_
  rintro e w' ⟨rfl, hw'⟩
  rw [hw']
  clear hw' w'
  go_wp2_with fail
  refine (C2.out _ S0.rr).mono ?_
  rintro e w2 ⟨rfl, b2⟩
  have S2 := S0.next b2
  obtain ⟨t0, t1, t2, t3, t4, t5, t6, t7, t8⟩ := S2.seen
  go_wp2_with fail
  refine (C3.out _).mono ?_
  rintro e w' ⟨rfl, hw'⟩
  rw [hw']
  clear hw' w'
  go_wp2_with fail
  go_ret
  exact ⟨rfl, S2.bel⟩

set_option maxRecDepth 100000 in
set_option maxHeartbeats 2000000 in
theorem Fit_m_98 (ep : List UInt8) (rel : List (List UInt8)) (n : List UInt8) (b : Bool) (m : List UInt8) (d : Bool) (k : List UInt8) (loc : List (List UInt8)) (r1 q1 : Option Addr) (c1 d1 : Nat) (w : World) (rr : Txt w (.slice r1 rel.length c1) rel) (ll : Txt w (.slice q1 loc.length d1) loc) (hx : MidP ⟨ep, rel, 98, n, b, m, d, k, loc⟩) (h1 : trimB ep = true) (h2 : rel ≠ []) (h3 : rel.all trimB = true) (h5 : numB n true = true) (h6 : numB m b = false) :
    Calls Tryz.prog 14 #[.agg #[.string (ofL ep), .slice r1 rel.length c1, .int .u8 98, .string (ofL n), .bool b, .string (ofL m), .bool d, .string (ofL k), .slice q1 loc.length d1]] w fun e w' => e = .returned (.bool false) ∧ Below w.heap.size w w' := by
  have C1 := fun w => isTrimmed_any ep w (by have h : ep.length ≤ 1048576 := hx.e; omega)
  rw [h1] at C1
  have C2 := fun w h => all42_any (.slice r1 rel.length c1) rel w h hx.r
  rw [h3] at C2
  have C3 := fun w => fitsNumber_any n true w (by have h : n.length ≤ 1048576 := hx.n; omega)
  rw [h5] at C3
  have C4 := fun w => fitsNumber_any m b w (by have h : m.length ≤ 1048576 := hx.m; omega)
  rw [h6] at C4
  have S0 : TB w ⟨ep, rel, 98, n, b, m, d, k, loc⟩ r1 q1 c1 d1 (w.alloc (.cells #[.string (ofL ep), .slice r1 rel.length c1, .int .u8 98, .string (ofL n), .bool b, .string (ofL m), .bool d, .string (ofL k), .slice q1 loc.length d1] 24)) := TB.start (x := ⟨ep, rel, 98, n, b, m, d, k, loc⟩) rr ll
  have hp : 0 < rel.length := List.length_pos_iff.2 h2
  have hp' : (0 : Int) < (rel.length : Int) := by omega
  have C1 := hide C1
  have C2 := hide C2
  have C3 := hide C3
  have C4 := hide C4
  clear rr ll hx h1 h2 h3 h5 h6
  obtain ⟨s0, s1, s2, s3, s4, s5, s6, s7, s8⟩ := S0.seen
  have sb := S0.bel
  go_enter Tryz.func14, Tryz.ntmps14
  go_wp2_with fail
  generalize hW0 : w.alloc (.cells #[.string (ofL ep), .slice r1 rel.length c1, .int .u8 98, .string (ofL n), .bool b, .string (ofL m), .bool d, .string (ofL k), .slice q1 loc.length d1] 24) = W0 at *
  refine (C1.out _).mono ?_
  rintro e w' ⟨rfl, hw'⟩
  rw [hw']
  clear hw' w'
  go_wp2_with fail
  refine (C2.out _ S0.rr).mono ?_
  rintro e w2 ⟨rfl, b2⟩
  have S2 := S0.next b2
  obtain ⟨t0, t1, t2, t3, t4, t5, t6, t7, t8⟩ := S2.seen
  go_wp2_with fail
  refine (C3.out _).mono ?_
  rintro e w' ⟨rfl, hw'⟩
  rw [hw']
  clear hw' w'
  go_wp2_with fail
  refine (C4.out _).mono ?_
  rintro e w' ⟨rfl, hw'⟩
  rw [hw']
  clear hw' w'
  go_wp2_with fail
  go_ret
  exact ⟨rfl, S2.bel⟩

set_option maxRecDepth 100000 in
set_option maxHeartbeats 2000000 in
theorem Fit_k_98 (ep : List UInt8) (rel : List (List UInt8)) (n : List UInt8) (b : Bool) (m : List UInt8) (d : Bool) (k : List UInt8) (loc : List (List UInt8)) (r1 q1 : Option Addr) (c1 d1 : Nat) (w : World) (rr : Txt w (.slice r1 rel.length c1) rel) (ll : Txt w (.slice q1 loc.length d1) loc) (hx : MidP ⟨ep, rel, 98, n, b, m, d, k, loc⟩) (h1 : trimB ep = true) (h2 : rel ≠ []) (h3 : rel.all trimB = true) (h5 : numB n true = true) (h6 : numB m b = true) (h7 : numB k d = false) :
    Calls Tryz.prog 14 #[.agg #[.string (ofL ep), .slice r1 rel.length c1, .int .u8 98, .string (ofL n), .bool b, .string (ofL m), .bool d, .string (ofL k), .slice q1 loc.length d1]] w fun e w' => e = .returned (.bool false) ∧ Below w.heap.size w w' := by
  have C1 := fun w => isTrimmed_any ep w (by have h : ep.length ≤ 1048576 := hx.e; omega)
  rw [h1] at C1
  have C2 := fun w h => all42_any (.slice r1 rel.length c1) rel w h hx.r
  rw [h3] at C2
  have C3 := fun w => fitsNumber_any n true w (by have h : n.length ≤ 1048576 := hx.n; omega)
  rw [h5] at C3
  have C4 := fun w => fitsNumber_any m b w (by have h : m.length ≤ 1048576 := hx.m; omega)
  rw [h6] at C4
  have C5 := fun w => fitsNumber_any k d w (by have h : k.length ≤ 1048576 := hx.k; omega)
  rw [h7] at C5
  have S0 : TB w ⟨ep, rel, 98, n, b, m, d, k, loc⟩ r1 q1 c1 d1 (w.alloc (.cells #[.string (ofL ep), .slice r1 rel.length c1, .int .u8 98, .string (ofL n), .bool b, .string (ofL m), .bool d, .string (ofL k), .slice q1 loc.length d1] 24)) := TB.start (x := ⟨ep, rel, 98, n, b, m, d, k, loc⟩) rr ll
  have hp : 0 < rel.length := List.length_pos_iff.2 h2
  have hp' : (0 : Int) < (rel.length : Int) := by omega
  have C1 := hide C1
  have C2 := hide C2
  have C3 := hide C3
  have C4 := hide C4
  have C5 := hide C5
  clear rr ll hx h1 h2 h3 h5 h6 h7
  obtain ⟨s0, s1, s2, s3, s4, s5, s6, s7, s8⟩ := S0.seen
  have sb := S0.bel
  go_enter Tryz.func14, Tryz.ntmps14
  go_wp2_with fail
  generalize hW0 : w.alloc (.cells #[.string (ofL ep), .slice r1 rel.length c1, .int .u8 98, .string (ofL n), .bool b, .string (ofL m), .bool d, .string (ofL k), .slice q1 loc.length d1] 24) = W0 at *
  refine (C1.out _).mono ?_
  rintro e w' ⟨rfl, hw'⟩
  rw [hw']
  clear hw' w'
  go_wp2_with fail
  refine (C2.out _ S0.rr).mono ?_
  rintro e w2 ⟨rfl, b2⟩
  have S2 := S0.next b2
  obtain ⟨t0, t1, t2, t3, t4, t5, t6, t7, t8⟩ := S2.seen
  go_wp2_with fail
  refine (C3.out _).mono ?_
  rintro e w' ⟨rfl, hw'⟩
  rw [hw']
  clear hw' w'
  go_wp2_with fail
  refine (C4.out _).mono ?_
  rintro e w' ⟨rfl, hw'⟩
  rw [hw']
  clear hw' w'
  go_wp2_with fail
  refine (C5.out _).mono ?_
  rintro e w' ⟨rfl, hw'⟩
  rw [hw']
  clear hw' w'
  go_wp2_with fail
  go_ret
  exact ⟨rfl, S2.bel⟩

set_option maxRecDepth 100000 in
set_option maxHeartbeats 2000000 in
theorem Fit_loc_98 (ep : List UInt8) (rel : List (List UInt8)) (n : List UInt8) (b : Bool) (m : List UInt8) (d : Bool) (k : List UInt8) (loc : List (List UInt8)) (r1 q1 : Option Addr) (c1 d1 : Nat) (w : World) (rr : Txt w (.slice r1 rel.length c1) rel) (ll : Txt w (.slice q1 loc.length d1) loc) (hx : MidP ⟨ep, rel, 98, n, b, m, d, k, loc⟩) (h1 : trimB ep = true) (h2 : rel ≠ []) (h3 : rel.all trimB = true) (h5 : numB n true = true) (h6 : numB m b = true) (h7 : numB k d = true) :
    Calls Tryz.prog 14 #[.agg #[.string (ofL ep), .slice r1 rel.length c1, .int .u8 98, .string (ofL n), .bool b, .string (ofL m), .bool d, .string (ofL k), .slice q1 loc.length d1]] w fun e w' => e = .returned (.bool (loc.all locB)) ∧ Below w.heap.size w w' := by
  have C1 := fun w => isTrimmed_any ep w (by have h : ep.length ≤ 1048576 := hx.e; omega)
  rw [h1] at C1
  have C2 := fun w h => all42_any (.slice r1 rel.length c1) rel w h hx.r
  rw [h3] at C2
  have C3 := fun w => fitsNumber_any n true w (by have h : n.length ≤ 1048576 := hx.n; omega)
  rw [h5] at C3
  have C4 := fun w => fitsNumber_any m b w (by have h : m.length ≤ 1048576 := hx.m; omega)
  rw [h6] at C4
  have C5 := fun w => fitsNumber_any k d w (by have h : k.length ≤ 1048576 := hx.k; omega)
  rw [h7] at C5
  have C6 := fun w h => all45_any (.slice q1 loc.length d1) loc w h hx.l
  generalize loc.all locB = z at *
  have S0 : TB w ⟨ep, rel, 98, n, b, m, d, k, loc⟩ r1 q1 c1 d1 (w.alloc (.cells #[.string (ofL ep), .slice r1 rel.length c1, .int .u8 98, .string (ofL n), .bool b, .string (ofL m), .bool d, .string (ofL k), .slice q1 loc.length d1] 24)) := TB.start (x := ⟨ep, rel, 98, n, b, m, d, k, loc⟩) rr ll
  have hp : 0 < rel.length := List.length_pos_iff.2 h2
  have hp' : (0 : Int) < (rel.length : Int) := by omega
  have C1 := hide C1
  have C2 := hide C2
  have C3 := hide C3
  have C4 := hide C4
  have C5 := hide C5
  have C6 := hide C6
  clear rr ll hx h1 h2 h3 h5 h6 h7
  obtain ⟨s0, s1, s2, s3, s4, s5, s6, s7, s8⟩ := S0.seen
  have sb := S0.bel
  go_enter Tryz.func14, Tryz.ntmps14
  go_wp2_with fail
  generalize hW0 : w.alloc (.cells #[.string (ofL ep), .slice r1 rel.length c1, .int .u8 98, .string (ofL n), .bool b, .string (ofL m), .bool d, .string (ofL k), .slice q1 loc.length d1] 24) = W0 at *
  refine (C1.out _).mono ?_
  rintro e w' ⟨rfl, hw'⟩
  rw [hw']
  clear hw' w'
  go_wp2_with fail
  refine (C2.out _ S0.rr).mono ?_
  rintro e w2 ⟨rfl, b2⟩
  have S2 := S0.next b2
  obtain ⟨t0, t1, t2, t3, t4, t5, t6, t7, t8⟩ := S2.seen
  go_wp2_with fail
  refine (C3.out _).mono ?_
  rintro e w' ⟨rfl, hw'⟩
  rw [hw']
  clear hw' w'
  go_wp2_with fail
  refine (C4.out _).mono ?_
  rintro e w' ⟨rfl, hw'⟩
  rw [hw']
  clear hw' w'
  go_wp2_with fail
  refine (C5.out _).mono ?_
  rintro e w' ⟨rfl, hw'⟩
  rw [hw']
  clear hw' w'
  go_wp2_with fail
  refine (C6.out _ S2.ll).mono ?_
  rintro e w3 ⟨rfl, b3⟩
  go_wp2_with fail
  go_ret
  exact ⟨rfl, S2.bel.trans (b3.mono S2.bel.size)⟩

set_option maxRecDepth 100000 in
set_option maxHeartbeats 2000000 in
theorem Fit_n_114 (ep : List UInt8) (rel : List (List UInt8)) (n : List UInt8) (b : Bool) (m : List UInt8) (d : Bool) (k : List UInt8) (loc : List (List UInt8)) (r1 q1 : Option Addr) (c1 d1 : Nat) (w : World) (rr : Txt w (.slice r1 rel.length c1) rel) (ll : Txt w (.slice q1 loc.length d1) loc) (hx : MidP ⟨ep, rel, 114, n, b, m, d, k, loc⟩) (h1 : trimB ep = true) (h2 : rel ≠ []) (h3 : rel.all trimB = true) (h5 : numB n true = false) :
    Calls Tryz.prog 14 #[.agg #[.string (ofL ep), .slice r1 rel.length c1, .int .u8 114, .string (ofL n), .bool b, .string (ofL m), .bool d, .string (ofL k), .slice q1 loc.length d1]] w fun e w' => e = .returned (.bool false) ∧ Below w.heap.size w w' := by
  have C1 := fun w => isTrimmed_any ep w (by have h : ep.length ≤ 1048576 := hx.e; omega)
  rw [h1] at C1
  have C2 := fun w h => all42_any (.slice r1 rel.length c1) rel w h hx.r
  rw [h3] at C2
  have C3 := fun w => fitsNumber_any n true w (by have h : n.length ≤ 1048576 := hx.n; omega)
  rw [h5] at C3
  have S0 : TB w ⟨ep, rel, 114, n, b, m, d, k, loc⟩ r1 q1 c1 d1 (w.alloc (.cells #[.string (ofL ep), .slice r1 rel.length c1, .int .u8 114, .string (ofL n), .bool b, .string (ofL m), .bool d, .string (ofL k), .slice q1 loc.length d1] 24)) := TB.start (x := ⟨ep, rel, 114, n, b, m, d, k, loc⟩) rr ll
  have hp : 0 < rel.length := List.length_pos_iff.2 h2
  have hp' : (0 : Int) < (rel.length : Int) := by omega
  have C1 := hide C1
  have C2 := hide C2
  have C3 := hide C3
  clear rr ll hx h1 h2 h3 h5
  obtain ⟨s0, s1, s2, s3, s4, s5, s6, s7, s8⟩ := S0.seen
  have sb := S0.bel
  go_enter Tryz.func14, Tryz.ntmps14
  go_wp2_with fail
  generalize hW0 : w.alloc (.cells #[.string (ofL ep), .slice r1 rel.length c1, .int .u8 114, .string (ofL n), .bool b, .string (ofL m), .bool d, .string (ofL k), .slice q1 loc.length d1] 24) = W0 at *
  refine (C1.out _).mono ?_
  rintro e w' ⟨rfl, hw'⟩
  rw [hw']
  clear hw' w'
  go_wp2_with fail
  refine (C2.out _ S0.rr).mono ?_
  rintro e w2 ⟨rfl, b2⟩
  have S2 := S0.next b2
  obtain ⟨t0, t1, t2, t3, t4, t5, t6, t7, t8⟩ := S2.seen
  go_wp2_with fail
  refine (C3.out _).mono ?_
  rintro e w' ⟨rfl, hw'⟩
  rw [hw']
  clear hw' w'
  go_wp2_with fail
  go_ret
  exact ⟨rfl, S2.bel⟩

set_option maxRecDepth 100000 in
set_option maxHeartbeats 2000000 in
theorem Fit_m_114 (ep : List UInt8) (rel : List (List UInt8)) (n : List UInt8) (b : Bool) (m : List UInt8) (d : Bool) (k : List UInt8) (loc : List (List UInt8)) (r1 q1 : Option Addr) (c1 d1 : Nat) (w : World) (rr : Txt w (.slice r1 rel.length c1) rel) (ll : Txt w (.slice q1 loc.length d1) loc) (hx : MidP ⟨ep, rel, 114, n, b, m, d, k, loc⟩) (h1 : trimB ep = true) (h2 : rel ≠ []) (h3 : rel.all trimB = true) (h5 : numB n true = true) (h6 : numB m b = false) :
    Calls Tryz.prog 14 #[.agg #[.string (ofL ep), .slice r1 rel.length c1, .int .u8 114, .string (ofL n), .bool b, .string (ofL m), .bool d, .string (ofL k), .slice q1 loc.length d1]] w fun e w' => e = .returned (.bool false) ∧ Below w.heap.size w w' := by
  have C1 := fun w => isTrimmed_any ep w (by have h : ep.length ≤ 1048576 := hx.e; omega)
  rw [h1] at C1
  have C2 := fun w h => all42_any (.slice r1 rel.length c1) rel w h hx.r
  rw [h3] at C2
  have C3 := fun w => fitsNumber_any n true w (by have h : n.length ≤ 1048576 := hx.n; omega)
  rw [h5] at C3
  have C4 := fun w => fitsNumber_any m b w (by have h : m.length ≤ 1048576 := hx.m; omega)
  rw [h6] at C4
  have S0 : TB w ⟨ep, rel, 114, n, b, m, d, k, loc⟩ r1 q1 c1 d1 (w.alloc (.cells #[.string (ofL ep), .slice r1 rel.length c1, .int .u8 114, .string (ofL n), .bool b, .string (ofL m), .bool d, .string (ofL k), .slice q1 loc.length d1] 24)) := TB.start (x := ⟨ep, rel, 114, n, b, m, d, k, loc⟩) rr ll
  have hp : 0 < rel.length := List.length_pos_iff.2 h2
  have hp' : (0 : Int) < (rel.length : Int) := by omega
  have C1 := hide C1
  have C2 := hide C2
  have C3 := hide C3
  have C4 := hide C4
  clear rr ll hx h1 h2 h3 h5 h6
  obtain ⟨s0, s1, s2, s3, s4, s5, s6, s7, s8⟩ := S0.seen
  have sb := S0.bel
  go_enter Tryz.func14, Tryz.ntmps14
  go_wp2_with fail
  generalize hW0 : w.alloc (.cells #[.string (ofL ep), .slice r1 rel.length c1, .int .u8 114, .string (ofL n), .bool b, .string (ofL m), .bool d, .string (ofL k), .slice q1 loc.length d1] 24) = W0 at *
  refine (C1.out _).mono ?_
  rintro e w' ⟨rfl, hw'⟩
  rw [hw']
  clear hw' w'
  go_wp2_with fail
  refine (C2.out _ S0.rr).mono ?_
  rintro e w2 ⟨rfl, b2⟩
  have S2 := S0.next b2
  obtain ⟨t0, t1, t2, t3, t4, t5, t6, t7, t8⟩ := S2.seen
  go_wp2_with fail
  refine (C3.out _).mono ?_
  rintro e w' ⟨rfl, hw'⟩
  rw [hw']
  clear hw' w'
  go_wp2_with fail
  refine (C4.out _).mono ?_
  rintro e w' ⟨rfl, hw'⟩
  rw [hw']
  clear hw' w'
  go_wp2_with fail
  go_ret
  exact ⟨rfl, S2.bel⟩

set_option maxRecDepth 100000 in
set_option maxHeartbeats 2000000 in
theorem Fit_k_114 (ep : List UInt8) (rel : List (List UInt8)) (n : List UInt8) (b : Bool) (m : List UInt8) (d : Bool) (k : List UInt8) (loc : List (List UInt8)) (r1 q1 : Option Addr) (c1 d1 : Nat) (w : World) (rr : Txt w (.slice r1 rel.length c1) rel) (ll : Txt w (.slice q1 loc.length d1) loc) (hx : MidP ⟨ep, rel, 114, n, b, m, d, k, loc⟩) (h1 : trimB ep = true) (h2 : rel ≠ []) (h3 : rel.all trimB = true) (h5 : numB n true = true) (h6 : numB m b = true) (h7 : numB k d = false) :
    Calls Tryz.prog 14 #[.agg #[.string (ofL ep), .slice r1 rel.length c1, .int .u8 114, .string (ofL n), .bool b, .string (ofL m), .bool d, .string (ofL k), .slice q1 loc.length d1]] w fun e w' => e = .returned (.bool false) ∧ Below w.heap.size w w' := by
  have C1 := fun w => isTrimmed_any ep w (by have h : ep.length ≤ 1048576 := hx.e; omega)
  rw [h1] at C1
  have C2 := fun w h => all42_any (.slice r1 rel.length c1) rel w h hx.r
  rw [h3] at C2
  have C3 := fun w => fitsNumber_any n true w (by have h : n.length ≤ 1048576 := hx.n; omega)
  rw [h5] at C3
  have C4 := fun w => fitsNumber_any m b w (by have h : m.length ≤ 1048576 := hx.m; omega)
  rw [h6] at C4
  have C5 := fun w => fitsNumber_any k d w (by have h : k.length ≤ 1048576 := hx.k; omega)
  rw [h7] at C5
  have S0 : TB w ⟨ep, rel, 114, n, b, m, d, k, loc⟩ r1 q1 c1 d1 (w.alloc (.cells #[.string (ofL ep), .slice r1 rel.length c1, .int .u8 114, .string (ofL n), .bool b, .string (ofL m), .bool d, .string (ofL k), .slice q1 loc.length d1] 24)) := TB.start (x := ⟨ep, rel, 114, n, b, m, d, k, loc⟩) rr ll
  have hp : 0 < rel.length := List.length_pos_iff.2 h2
  have hp' : (0 : Int) < (rel.length : Int) := by omega
  have C1 := hide C1
  have C2 := hide C2
  have C3 := hide C3
  have C4 := hide C4
  have C5 := hide C5
  clear rr ll hx h1 h2 h3 h5 h6 h7
  obtain ⟨s0, s1, s2, s3, s4, s5, s6, s7, s8⟩ := S0.seen
  have sb := S0.bel
  go_enter Tryz.func14, Tryz.ntmps14
  go_wp2_with fail
  generalize hW0 : w.alloc (.cells #[.string (ofL ep), .slice r1 rel.length c1, .int .u8 114, .string (ofL n), .bool b, .string (ofL m), .bool d, .string (ofL k), .slice q1 loc.length d1] 24) = W0 at *
  refine (C1.out _).mono ?_
  rintro e w' ⟨rfl, hw'⟩
  rw [hw']
  clear hw' w'
  go_wp2_with fail
  refine (C2.out _ S0.rr).mono ?_
  rintro e w2 ⟨rfl, b2⟩
  have S2 := S0.next b2
  obtain ⟨t0, t1, t2, t3, t4, t5, t6, t7, t8⟩ := S2.seen
  go_wp2_with fail
  refine (C3.out _).mono ?_
  rintro e w' ⟨rfl, hw'⟩
  rw [hw']
  clear hw' w'
  go_wp2_with fail
  refine (C4.out _).mono ?_
  rintro e w' ⟨rfl, hw'⟩
  rw [hw']
  clear hw' w'
  go_wp2_with fail
  refine (C5.out _).mono ?_
  rintro e w' ⟨rfl, hw'⟩
  rw [hw']
  clear hw' w'
  go_wp2_with fail
  go_ret
  exact ⟨rfl, S2.bel⟩

set_option maxRecDepth 100000 in
set_option maxHeartbeats 2000000 in
theorem Fit_loc_114 (ep : List UInt8) (rel : List (List UInt8)) (n : List UInt8) (b : Bool) (m : List UInt8) (d : Bool) (k : List UInt8) (loc : List (List UInt8)) (r1 q1 : Option Addr) (c1 d1 : Nat) (w : World) (rr : Txt w (.slice r1 rel.length c1) rel) (ll : Txt w (.slice q1 loc.length d1) loc) (hx : MidP ⟨ep, rel, 114, n, b, m, d, k, loc⟩) (h1 : trimB ep = true) (h2 : rel ≠ []) (h3 : rel.all trimB = true) (h5 : numB n true = true) (h6 : numB m b = true) (h7 : numB k d = true) :
    Calls Tryz.prog 14 #[.agg #[.string (ofL ep), .slice r1 rel.length c1, .int .u8 114, .string (ofL n), .bool b, .string (ofL m), .bool d, .string (ofL k), .slice q1 loc.length d1]] w fun e w' => e = .returned (.bool (loc.all locB)) ∧ Below w.heap.size w w' := by
  have C1 := fun w => isTrimmed_any ep w (by have h : ep.length ≤ 1048576 := hx.e; omega)
  rw [h1] at C1
  have C2 := fun w h => all42_any (.slice r1 rel.length c1) rel w h hx.r
  rw [h3] at C2
  have C3 := fun w => fitsNumber_any n true w (by have h : n.length ≤ 1048576 := hx.n; omega)
  rw [h5] at C3
  have C4 := fun w => fitsNumber_any m b w (by have h : m.length ≤ 1048576 := hx.m; omega)
  rw [h6] at C4
  have C5 := fun w => fitsNumber_any k d w (by have h : k.length ≤ 1048576 := hx.k; omega)
  rw [h7] at C5
  have C6 := fun w h => all45_any (.slice q1 loc.length d1) loc w h hx.l
  generalize loc.all locB = z at *
  have S0 : TB w ⟨ep, rel, 114, n, b, m, d, k, loc⟩ r1 q1 c1 d1 (w.alloc (.cells #[.string (ofL ep), .slice r1 rel.length c1, .int .u8 114, .string (ofL n), .bool b, .string (ofL m), .bool d, .string (ofL k), .slice q1 loc.length d1] 24)) := TB.start (x := ⟨ep, rel, 114, n, b, m, d, k, loc⟩) rr ll
  have hp : 0 < rel.length := List.length_pos_iff.2 h2
  have hp' : (0 : Int) < (rel.length : Int) := by omega
  have C1 := hide C1
  have C2 := hide C2
  have C3 := hide C3
  have C4 := hide C4
  have C5 := hide C5
  have C6 := hide C6
  clear rr ll hx h1 h2 h3 h5 h6 h7
  obtain ⟨s0, s1, s2, s3, s4, s5, s6, s7, s8⟩ := S0.seen
  have sb := S0.bel
  go_enter Tryz.func14, Tryz.ntmps14
  go_wp2_with fail
  generalize hW0 : w.alloc (.cells #[.string (ofL ep), .slice r1 rel.length c1, .int .u8 114, .string (ofL n), .bool b, .string (ofL m), .bool d, .string (ofL k), .slice q1 loc.length d1] 24) = W0 at *
  refine (C1.out _).mono ?_
  rintro e w' ⟨rfl, hw'⟩
  rw [hw']
  clear hw' w'
  go_wp2_with fail
  refine (C2.out _ S0.rr).mono ?_
  rintro e w2 ⟨rfl, b2⟩
  have S2 := S0.next b2
  obtain ⟨t0, t1, t2, t3, t4, t5, t6, t7, t8⟩ := S2.seen
  go_wp2_with fail
  refine (C3.out _).mono ?_
  rintro e w' ⟨rfl, hw'⟩
  rw [hw']
  clear hw' w'
  go_wp2_with fail
  refine (C4.out _).mono ?_
  rintro e w' ⟨rfl, hw'⟩
  rw [hw']
  clear hw' w'
  go_wp2_with fail
  refine (C5.out _).mono ?_
  rintro e w' ⟨rfl, hw'⟩
  rw [hw']
  clear hw' w'
  go_wp2_with fail
  refine (C6.out _ S2.ll).mono ?_
  rintro e w3 ⟨rfl, b3⟩
  go_wp2_with fail
  go_ret
  exact ⟨rfl, S2.bel.trans (b3.mono S2.bel.size)⟩

theorem Fit_any (x : PepL) (r1 q1 : Option Addr) (c1 d1 : Nat) (w : World) (rr : Txt w (.slice r1 x.rel.length c1) x.rel) (ll : Txt w (.slice q1 x.loc.length d1) x.loc) (hx : MidP x) :
    Calls Tryz.prog 14 #[.agg #[.string (ofL x.ep), .slice r1 x.rel.length c1, .int .u8 x.c, .string (ofL x.n), .bool x.b, .string (ofL x.m), .bool x.d, .string (ofL x.k), .slice q1 x.loc.length d1]] w fun e w' => e = .returned (.bool (fitR x)) ∧ Below w.heap.size w w' := by
  obtain ⟨ep, rel, c, n, b, m, d, k, loc⟩ := x
  cases h1 : trimB ep
  · rw [show fitR ⟨ep, rel, c, n, b, m, d, k, loc⟩ = false by simp [fitR, h1]]
    exact Fit_ep ep rel n b m d k loc r1 q1 c1 d1 w c rr ll hx h1
  · by_cases h2 : rel = []
    · rw [show fitR ⟨ep, rel, c, n, b, m, d, k, loc⟩ = false by simp [fitR, h2]]
      exact Fit_rel ep rel n b m d k loc r1 q1 c1 d1 w c rr ll hx h1 h2
    · cases h3 : rel.all trimB
      · rw [show fitR ⟨ep, rel, c, n, b, m, d, k, loc⟩ = false by unfold fitR; dsimp only; rw [h3]; simp]
        exact Fit_all ep rel n b m d k loc r1 q1 c1 d1 w c rr ll hx h1 h2 h3
      · cases h4 : letB c
        · rw [show fitR ⟨ep, rel, c, n, b, m, d, k, loc⟩ = false by unfold fitR; dsimp only; rw [h4]; simp]
          exact Fit_let ep rel n b m d k loc r1 q1 c1 d1 w c rr ll hx h1 h2 h3 h4
        · have h2' : rel.isEmpty = false := by simpa using h2
          have h9 : c = 0 ∨ c = 97 ∨ c = 98 ∨ c = 114 := by
            unfold letB at h4
            simp at h4
            omega
          rcases h9 with rfl | rfl | rfl | rfl
          · cases h5 : numB n false
            · rw [show fitR ⟨ep, rel, 0, n, b, m, d, k, loc⟩ = false by unfold fitR; dsimp only; rw [h1, h2', h3, h4, show ((0 : Int) != 0) = false from rfl, h5]; simp]
              exact Fit_n_0 ep rel n b m d k loc r1 q1 c1 d1 w rr ll hx h1 h2 h3 h5
            · cases h6 : numB m b
              · rw [show fitR ⟨ep, rel, 0, n, b, m, d, k, loc⟩ = false by unfold fitR; dsimp only; rw [h1, h2', h3, h4, show ((0 : Int) != 0) = false from rfl, h6]; simp]
                exact Fit_m_0 ep rel n b m d k loc r1 q1 c1 d1 w rr ll hx h1 h2 h3 h5 h6
              · cases h7 : numB k d
                · rw [show fitR ⟨ep, rel, 0, n, b, m, d, k, loc⟩ = false by unfold fitR; dsimp only; rw [h1, h2', h3, h4, show ((0 : Int) != 0) = false from rfl, h7]; simp]
                  exact Fit_k_0 ep rel n b m d k loc r1 q1 c1 d1 w rr ll hx h1 h2 h3 h5 h6 h7
                · rw [show fitR ⟨ep, rel, 0, n, b, m, d, k, loc⟩ = loc.all locB by unfold fitR; dsimp only; rw [h1, h2', h3, h4, show ((0 : Int) != 0) = false from rfl, h5, h6, h7]; simp]
                  exact Fit_loc_0 ep rel n b m d k loc r1 q1 c1 d1 w rr ll hx h1 h2 h3 h5 h6 h7
          · cases h5 : numB n true
            · rw [show fitR ⟨ep, rel, 97, n, b, m, d, k, loc⟩ = false by unfold fitR; dsimp only; rw [h1, h2', h3, h4, show ((97 : Int) != 0) = true from rfl, h5]; simp]
              exact Fit_n_97 ep rel n b m d k loc r1 q1 c1 d1 w rr ll hx h1 h2 h3 h5
            · cases h6 : numB m b
              · rw [show fitR ⟨ep, rel, 97, n, b, m, d, k, loc⟩ = false by unfold fitR; dsimp only; rw [h1, h2', h3, h4, show ((97 : Int) != 0) = true from rfl, h6]; simp]
                exact Fit_m_97 ep rel n b m d k loc r1 q1 c1 d1 w rr ll hx h1 h2 h3 h5 h6
              · cases h7 : numB k d
                · rw [show fitR ⟨ep, rel, 97, n, b, m, d, k, loc⟩ = false by unfold fitR; dsimp only; rw [h1, h2', h3, h4, show ((97 : Int) != 0) = true from rfl, h7]; simp]
                  exact Fit_k_97 ep rel n b m d k loc r1 q1 c1 d1 w rr ll hx h1 h2 h3 h5 h6 h7
                · rw [show fitR ⟨ep, rel, 97, n, b, m, d, k, loc⟩ = loc.all locB by unfold fitR; dsimp only; rw [h1, h2', h3, h4, show ((97 : Int) != 0) = true from rfl, h5, h6, h7]; simp]
                  exact Fit_loc_97 ep rel n b m d k loc r1 q1 c1 d1 w rr ll hx h1 h2 h3 h5 h6 h7
          · cases h5 : numB n true
            · rw [show fitR ⟨ep, rel, 98, n, b, m, d, k, loc⟩ = false by unfold fitR; dsimp only; rw [h1, h2', h3, h4, show ((98 : Int) != 0) = true from rfl, h5]; simp]
              exact Fit_n_98 ep rel n b m d k loc r1 q1 c1 d1 w rr ll hx h1 h2 h3 h5
            · cases h6 : numB m b
              · rw [show fitR ⟨ep, rel, 98, n, b, m, d, k, loc⟩ = false by unfold fitR; dsimp only; rw [h1, h2', h3, h4, show ((98 : Int) != 0) = true from rfl, h6]; simp]
                exact Fit_m_98 ep rel n b m d k loc r1 q1 c1 d1 w rr ll hx h1 h2 h3 h5 h6
              · cases h7 : numB k d
                · rw [show fitR ⟨ep, rel, 98, n, b, m, d, k, loc⟩ = false by unfold fitR; dsimp only; rw [h1, h2', h3, h4, show ((98 : Int) != 0) = true from rfl, h7]; simp]
                  exact Fit_k_98 ep rel n b m d k loc r1 q1 c1 d1 w rr ll hx h1 h2 h3 h5 h6 h7
                · rw [show fitR ⟨ep, rel, 98, n, b, m, d, k, loc⟩ = loc.all locB by unfold fitR; dsimp only; rw [h1, h2', h3, h4, show ((98 : Int) != 0) = true from rfl, h5, h6, h7]; simp]
                  exact Fit_loc_98 ep rel n b m d k loc r1 q1 c1 d1 w rr ll hx h1 h2 h3 h5 h6 h7
          · cases h5 : numB n true
            · rw [show fitR ⟨ep, rel, 114, n, b, m, d, k, loc⟩ = false by unfold fitR; dsimp only; rw [h1, h2', h3, h4, show ((114 : Int) != 0) = true from rfl, h5]; simp]
              exact Fit_n_114 ep rel n b m d k loc r1 q1 c1 d1 w rr ll hx h1 h2 h3 h5
            · cases h6 : numB m b
              · rw [show fitR ⟨ep, rel, 114, n, b, m, d, k, loc⟩ = false by unfold fitR; dsimp only; rw [h1, h2', h3, h4, show ((114 : Int) != 0) = true from rfl, h6]; simp]
                exact Fit_m_114 ep rel n b m d k loc r1 q1 c1 d1 w rr ll hx h1 h2 h3 h5 h6
              · cases h7 : numB k d
                · rw [show fitR ⟨ep, rel, 114, n, b, m, d, k, loc⟩ = false by unfold fitR; dsimp only; rw [h1, h2', h3, h4, show ((114 : Int) != 0) = true from rfl, h7]; simp]
                  exact Fit_k_114 ep rel n b m d k loc r1 q1 c1 d1 w rr ll hx h1 h2 h3 h5 h6 h7
                · rw [show fitR ⟨ep, rel, 114, n, b, m, d, k, loc⟩ = loc.all locB by unfold fitR; dsimp only; rw [h1, h2', h3, h4, show ((114 : Int) != 0) = true from rfl, h5, h6, h7]; simp]
                  exact Fit_loc_114 ep rel n b m d k loc r1 q1 c1 d1 w rr ll hx h1 h2 h3 h5 h6 h7

end Go.Proofs.YtagnikhkmaplpaaGreat

/-
  Walks: the program's Text, Order at any versions, Pre.
-/
namespace Go.Proofs.YtagnikhkmaplpaaGreat
open Go.RowKit Go.Shelf
set_option linter.unusedVariables false

set_option maxRecDepth 100000 in
set_option maxHeartbeats 2000000 in
theorem Text_no (x : PepL) (r1 q1 : Option Addr) (c1 d1 : Nat) (w : World) (rr : Txt w (.slice r1 x.rel.length c1) x.rel) (ll : Txt w (.slice q1 x.loc.length d1) x.loc) (hx : MidP x) (hf : fitR x = false) :
    Calls Tryz.prog 16 #[.agg #[.string (ofL x.ep), .slice r1 x.rel.length c1, .int .u8 x.c, .string (ofL x.n), .bool x.b, .string (ofL x.m), .bool x.d, .string (ofL x.k), .slice q1 x.loc.length d1]] w fun e w' => e = .returned (.string ⟨#[]⟩) ∧ Below w.heap.size w w' := by
  have F := fun w rr ll => Fit_any x r1 q1 c1 d1 w rr ll hx
  rw [hf] at F
  have S0 := TB.start rr ll
  have F := hide F
  clear rr ll hx hf
  obtain ⟨s0, s1, s2, s3, s4, s5, s6, s7, s8⟩ := S0.seen
  have sb := S0.bel
  go_enter Tryz.func16, Tryz.ntmps16
  go_wp2_with fail
  generalize hW0 : w.alloc (.cells #[.string (ofL x.ep), .slice r1 x.rel.length c1, .int .u8 x.c, .string (ofL x.n), .bool x.b, .string (ofL x.m), .bool x.d, .string (ofL x.k), .slice q1 x.loc.length d1] 24) = W0 at *
  refine (F.out _ S0.rr S0.ll).mono ?_
  rintro e w1 ⟨rfl, b1⟩
  go_wp2_with fail
  go_ret
  exact ⟨rfl, S0.bel.trans (b1.mono S0.bel.size)⟩

set_option maxRecDepth 100000 in
set_option maxHeartbeats 1000000 in
theorem Pre_any (x : PepL) (r1 q1 : Option Addr) (c1 d1 : Nat) (w : World) (rr : Txt w (.slice r1 x.rel.length c1) x.rel) (ll : Txt w (.slice q1 x.loc.length d1) x.loc) :
    Calls Tryz.prog 20 #[.agg #[.string (ofL x.ep), .slice r1 x.rel.length c1, .int .u8 x.c, .string (ofL x.n), .bool x.b, .string (ofL x.m), .bool x.d, .string (ofL x.k), .slice q1 x.loc.length d1]] w fun e w' => e = .returned (.bool (x.c != 0 || x.d)) ∧ Below w.heap.size w w' := by
  have S0 := TB.start rr ll
  clear rr ll
  obtain ⟨s0, s1, s2, s3, s4, s5, s6, s7, s8⟩ := S0.seen
  have sb := S0.bel
  cases hc : (x.c != 0)
  · go_enter Tryz.func20, Tryz.ntmps20
    go_wp2_with fail
    go_ret
    exact ⟨rfl, sb⟩
  · go_enter Tryz.func20, Tryz.ntmps20
    go_wp2_with fail
    go_ret
    exact ⟨rfl, sb⟩

set_option maxRecDepth 100000 in
set_option maxHeartbeats 1000000 in
theorem RPre_any (x : PepL) (r1 q1 : Option Addr) (c1 d1 : Nat) (w : World) (rr : Txt w (.slice r1 x.rel.length c1) x.rel) (ll : Txt w (.slice q1 x.loc.length d1) x.loc) :
    Calls Tryz.prog 21 #[.agg #[.string (ofL x.ep), .slice r1 x.rel.length c1, .int .u8 x.c, .string (ofL x.n), .bool x.b, .string (ofL x.m), .bool x.d, .string (ofL x.k), .slice q1 x.loc.length d1]] w fun e w' => e = .returned (.bool (x.c != 0 || x.d)) ∧ Below w.heap.size w w' := by
  have S0 := TB.start rr ll
  clear rr ll
  obtain ⟨s0, s1, s2, s3, s4, s5, s6, s7, s8⟩ := S0.seen
  have sb := S0.bel
  cases hc : (x.c != 0)
  · go_enter Tryz.func21, Tryz.ntmps21
    go_wp2_with fail
    go_ret
    exact ⟨rfl, sb⟩
  · go_enter Tryz.func21, Tryz.ntmps21
    go_wp2_with fail
    go_ret
    exact ⟨rfl, sb⟩

end Go.Proofs.YtagnikhkmaplpaaGreat

/-
  Walks: Order at any two versions; the document's Order and Text.
-/
namespace Go.Proofs.YtagnikhkmaplpaaGreat
open Go.RowKit Go.Shelf
set_option linter.unusedVariables false

theorem small_mid (x : PepL) (h : lenP x ≤ 1048576) : SmallP x := by
  have m := mid_of x h
  unfold lenP at h
  exact ⟨m.e, m.n, m.m, m.k, m.r, m.l, by omega, by omega⟩

set_option maxRecDepth 100000 in
set_option maxHeartbeats 2000000 in
theorem RText_no (x : PepL) (r1 q1 : Option Addr) (c1 d1 : Nat) (w : World) (rr : Txt w (.slice r1 x.rel.length c1) x.rel) (ll : Txt w (.slice q1 x.loc.length d1) x.loc) (hx : MidP x) (hf : fitR x = false) :
    Calls Tryz.prog 17 #[.agg #[.string (ofL x.ep), .slice r1 x.rel.length c1, .int .u8 x.c, .string (ofL x.n), .bool x.b, .string (ofL x.m), .bool x.d, .string (ofL x.k), .slice q1 x.loc.length d1]] w fun e w' => e = .returned (.string ⟨#[]⟩) ∧ Below w.heap.size w w' := by
  have F := fun w rr ll => RFit_any x r1 q1 c1 d1 w rr ll hx
  rw [hf] at F
  have S0 := TB.start rr ll
  have F := hide F
  clear rr ll hx hf
  obtain ⟨s0, s1, s2, s3, s4, s5, s6, s7, s8⟩ := S0.seen
  have sb := S0.bel
  go_enter Tryz.func17, Tryz.ntmps17
  go_wp2_with fail
  generalize hW0 : w.alloc (.cells #[.string (ofL x.ep), .slice r1 x.rel.length c1, .int .u8 x.c, .string (ofL x.n), .bool x.b, .string (ofL x.m), .bool x.d, .string (ofL x.k), .slice q1 x.loc.length d1] 24) = W0 at *
  refine (F.out _ S0.rr S0.ll).mono ?_
  rintro e w1 ⟨rfl, b1⟩
  go_wp2_with fail
  go_ret
  exact ⟨rfl, S0.bel.trans (b1.mono S0.bel.size)⟩

set_option maxRecDepth 100000 in
set_option maxHeartbeats 2000000 in
theorem Order_x (x y : PepL) (r1 r2 q1 q2 : Option Addr) (c1 c2 d1 d2 : Nat) (w : World) (ra : Txt w (.slice r1 x.rel.length c1) x.rel) (rb : Txt w (.slice r2 y.rel.length c2) y.rel) (la : Txt w (.slice q1 x.loc.length d1) x.loc) (lb : Txt w (.slice q2 y.loc.length d2) y.loc) (hx : MidP x) (fx : fitR x = false) :
    Calls Tryz.prog 18 #[.agg #[.string (ofL x.ep), .slice r1 x.rel.length c1, .int .u8 x.c, .string (ofL x.n), .bool x.b, .string (ofL x.m), .bool x.d, .string (ofL x.k), .slice q1 x.loc.length d1], .agg #[.string (ofL y.ep), .slice r2 y.rel.length c2, .int .u8 y.c, .string (ofL y.n), .bool y.b, .string (ofL y.m), .bool y.d, .string (ofL y.k), .slice q2 y.loc.length d2]] w fun e w' => e = .returned (.int .i64 0) ∧ Below w.heap.size w w' := by
  have FX := fun w h1 h2 => Fit_any x r1 q1 c1 d1 w h1 h2 hx
  rw [fx] at FX
  have S0 := OB.start ra rb la lb
  have FX := hide FX
  clear ra rb la lb hx fx
  go_enter Tryz.func18, Tryz.ntmps18
  go_wp2_with fail
  generalize (w.alloc (.cells #[.string (ofL x.ep), .slice r1 x.rel.length c1, .int .u8 x.c, .string (ofL x.n), .bool x.b, .string (ofL x.m), .bool x.d, .string (ofL x.k), .slice q1 x.loc.length d1] 24)).alloc (.cells #[.string (ofL y.ep), .slice r2 y.rel.length c2, .int .u8 y.c, .string (ofL y.n), .bool y.b, .string (ofL y.m), .bool y.d, .string (ofL y.k), .slice q2 y.loc.length d2] 24) = W0 at *
  obtain ⟨s0, s1, s2, s3, s4, s5, s6, s7, s8, s9, s10, s11, s12, s13, s14, s15, s16, s17⟩ := S0.seen
  go_wp2_with fail
  refine (FX.out _ S0.ra S0.la).mono ?_
  rintro e W1 ⟨rfl, b1⟩
  have S1 := S0.next b1
  clear S0 s0 s1 s2 s3 s4 s5 s6 s7 s8 s9 s10 s11 s12 s13 s14 s15 s16 s17 b1
  obtain ⟨s0, s1, s2, s3, s4, s5, s6, s7, s8, s9, s10, s11, s12, s13, s14, s15, s16, s17⟩ := S1.seen
  try dsimp only
  go_wp2_with fail
  go_ret
  exact ⟨rfl, S1.bel⟩

set_option maxRecDepth 100000 in
set_option maxHeartbeats 2000000 in
theorem Order_y (x y : PepL) (r1 r2 q1 q2 : Option Addr) (c1 c2 d1 d2 : Nat) (w : World) (ra : Txt w (.slice r1 x.rel.length c1) x.rel) (rb : Txt w (.slice r2 y.rel.length c2) y.rel) (la : Txt w (.slice q1 x.loc.length d1) x.loc) (lb : Txt w (.slice q2 y.loc.length d2) y.loc) (hx : MidP x) (hy : MidP y) (fx : fitR x = true) (fy : fitR y = false) :
    Calls Tryz.prog 18 #[.agg #[.string (ofL x.ep), .slice r1 x.rel.length c1, .int .u8 x.c, .string (ofL x.n), .bool x.b, .string (ofL x.m), .bool x.d, .string (ofL x.k), .slice q1 x.loc.length d1], .agg #[.string (ofL y.ep), .slice r2 y.rel.length c2, .int .u8 y.c, .string (ofL y.n), .bool y.b, .string (ofL y.m), .bool y.d, .string (ofL y.k), .slice q2 y.loc.length d2]] w fun e w' => e = .returned (.int .i64 0) ∧ Below w.heap.size w w' := by
  have FX := fun w h1 h2 => Fit_any x r1 q1 c1 d1 w h1 h2 hx
  rw [fx] at FX
  have FY := fun w h1 h2 => Fit_any y r2 q2 c2 d2 w h1 h2 hy
  rw [fy] at FY
  have S0 := OB.start ra rb la lb
  have FX := hide FX
  have FY := hide FY
  clear ra rb la lb hx fx hy fy
  go_enter Tryz.func18, Tryz.ntmps18
  go_wp2_with fail
  generalize (w.alloc (.cells #[.string (ofL x.ep), .slice r1 x.rel.length c1, .int .u8 x.c, .string (ofL x.n), .bool x.b, .string (ofL x.m), .bool x.d, .string (ofL x.k), .slice q1 x.loc.length d1] 24)).alloc (.cells #[.string (ofL y.ep), .slice r2 y.rel.length c2, .int .u8 y.c, .string (ofL y.n), .bool y.b, .string (ofL y.m), .bool y.d, .string (ofL y.k), .slice q2 y.loc.length d2] 24) = W0 at *
  obtain ⟨s0, s1, s2, s3, s4, s5, s6, s7, s8, s9, s10, s11, s12, s13, s14, s15, s16, s17⟩ := S0.seen
  go_wp2_with fail
  refine (FX.out _ S0.ra S0.la).mono ?_
  rintro e W1 ⟨rfl, b1⟩
  have S1 := S0.next b1
  clear S0 s0 s1 s2 s3 s4 s5 s6 s7 s8 s9 s10 s11 s12 s13 s14 s15 s16 s17 b1
  obtain ⟨s0, s1, s2, s3, s4, s5, s6, s7, s8, s9, s10, s11, s12, s13, s14, s15, s16, s17⟩ := S1.seen
  try dsimp only
  go_wp2_with fail
  refine (FY.out _ S1.rb S1.lb).mono ?_
  rintro e W2 ⟨rfl, b2⟩
  have S2 := S1.next b2
  clear S1 s0 s1 s2 s3 s4 s5 s6 s7 s8 s9 s10 s11 s12 s13 s14 s15 s16 s17 b2
  obtain ⟨s0, s1, s2, s3, s4, s5, s6, s7, s8, s9, s10, s11, s12, s13, s14, s15, s16, s17⟩ := S2.seen
  try dsimp only
  go_wp2_with fail
  go_ret
  exact ⟨rfl, S2.bel⟩

set_option maxRecDepth 100000 in
set_option maxHeartbeats 2000000 in
theorem Order_o (x y : PepL) (r1 r2 q1 q2 : Option Addr) (c1 c2 d1 d2 : Nat) (w : World) (ra : Txt w (.slice r1 x.rel.length c1) x.rel) (rb : Txt w (.slice r2 y.rel.length c2) y.rel) (la : Txt w (.slice q1 x.loc.length d1) x.loc) (lb : Txt w (.slice q2 y.loc.length d2) y.loc) (hx : MidP x) (hy : MidP y) (sx : SmallP x) (sy : SmallP y) (fx : fitR x = true) (fy : fitR y = true) :
    Calls Tryz.prog 18 #[.agg #[.string (ofL x.ep), .slice r1 x.rel.length c1, .int .u8 x.c, .string (ofL x.n), .bool x.b, .string (ofL x.m), .bool x.d, .string (ofL x.k), .slice q1 x.loc.length d1], .agg #[.string (ofL y.ep), .slice r2 y.rel.length c2, .int .u8 y.c, .string (ofL y.n), .bool y.b, .string (ofL y.m), .bool y.d, .string (ofL y.k), .slice q2 y.loc.length d2]] w fun e w' => e = .returned (.int .i64 (ordP x y)) ∧ Below w.heap.size w w' := by
  have FX := fun w h1 h2 => Fit_any x r1 q1 c1 d1 w h1 h2 hx
  rw [fx] at FX
  have FY := fun w h1 h2 => Fit_any y r2 q2 c2 d2 w h1 h2 hy
  rw [fy] at FY
  have OR := fun va vb w (h1 : PepAt w va x) (h2 : PepAt w vb y) => order_any va vb x y w h1 h2 sx.short sy.short
  have S0 := OB.start ra rb la lb
  have FX := hide FX
  have FY := hide FY
  generalize ordP x y = OO at *
  have OR := hide OR
  clear ra rb la lb hx fx hy fy sx sy
  go_enter Tryz.func18, Tryz.ntmps18
  go_wp2_with fail
  generalize (w.alloc (.cells #[.string (ofL x.ep), .slice r1 x.rel.length c1, .int .u8 x.c, .string (ofL x.n), .bool x.b, .string (ofL x.m), .bool x.d, .string (ofL x.k), .slice q1 x.loc.length d1] 24)).alloc (.cells #[.string (ofL y.ep), .slice r2 y.rel.length c2, .int .u8 y.c, .string (ofL y.n), .bool y.b, .string (ofL y.m), .bool y.d, .string (ofL y.k), .slice q2 y.loc.length d2] 24) = W0 at *
  obtain ⟨s0, s1, s2, s3, s4, s5, s6, s7, s8, s9, s10, s11, s12, s13, s14, s15, s16, s17⟩ := S0.seen
  go_wp2_with fail
  refine (FX.out _ S0.ra S0.la).mono ?_
  rintro e W1 ⟨rfl, b1⟩
  have S1 := S0.next b1
  clear S0 s0 s1 s2 s3 s4 s5 s6 s7 s8 s9 s10 s11 s12 s13 s14 s15 s16 s17 b1
  obtain ⟨s0, s1, s2, s3, s4, s5, s6, s7, s8, s9, s10, s11, s12, s13, s14, s15, s16, s17⟩ := S1.seen
  try dsimp only
  go_wp2_with fail
  refine (FY.out _ S1.rb S1.lb).mono ?_
  rintro e W2 ⟨rfl, b2⟩
  have S2 := S1.next b2
  clear S1 s0 s1 s2 s3 s4 s5 s6 s7 s8 s9 s10 s11 s12 s13 s14 s15 s16 s17 b2
  obtain ⟨s0, s1, s2, s3, s4, s5, s6, s7, s8, s9, s10, s11, s12, s13, s14, s15, s16, s17⟩ := S2.seen
  try dsimp only
  go_wp2_with fail
  refine (OR.out _ _ _ ⟨_, _, rfl, S2.ra, S2.la⟩ ⟨_, _, rfl, S2.rb, S2.lb⟩).mono ?_
  rintro e W3 ⟨rfl, b3⟩
  have S3 := S2.next b3
  try dsimp only
  go_wp2_with fail
  go_ret
  exact ⟨rfl, S3.bel⟩

set_option maxRecDepth 100000 in
set_option maxHeartbeats 2000000 in
theorem ROrder_x (x y : PepL) (r1 r2 q1 q2 : Option Addr) (c1 c2 d1 d2 : Nat) (w : World) (ra : Txt w (.slice r1 x.rel.length c1) x.rel) (rb : Txt w (.slice r2 y.rel.length c2) y.rel) (la : Txt w (.slice q1 x.loc.length d1) x.loc) (lb : Txt w (.slice q2 y.loc.length d2) y.loc) (hx : MidP x) (fx : fitR x = false) :
    Calls Tryz.prog 19 #[.agg #[.string (ofL x.ep), .slice r1 x.rel.length c1, .int .u8 x.c, .string (ofL x.n), .bool x.b, .string (ofL x.m), .bool x.d, .string (ofL x.k), .slice q1 x.loc.length d1], .agg #[.string (ofL y.ep), .slice r2 y.rel.length c2, .int .u8 y.c, .string (ofL y.n), .bool y.b, .string (ofL y.m), .bool y.d, .string (ofL y.k), .slice q2 y.loc.length d2]] w fun e w' => e = .returned (.int .i64 0) ∧ Below w.heap.size w w' := by
  have FX := fun w h1 h2 => RFit_any x r1 q1 c1 d1 w h1 h2 hx
  rw [fx] at FX
  have S0 := OB.start ra rb la lb
  have FX := hide FX
  clear ra rb la lb hx fx
  go_enter Tryz.func19, Tryz.ntmps19
  go_wp2_with fail
  generalize (w.alloc (.cells #[.string (ofL x.ep), .slice r1 x.rel.length c1, .int .u8 x.c, .string (ofL x.n), .bool x.b, .string (ofL x.m), .bool x.d, .string (ofL x.k), .slice q1 x.loc.length d1] 24)).alloc (.cells #[.string (ofL y.ep), .slice r2 y.rel.length c2, .int .u8 y.c, .string (ofL y.n), .bool y.b, .string (ofL y.m), .bool y.d, .string (ofL y.k), .slice q2 y.loc.length d2] 24) = W0 at *
  obtain ⟨s0, s1, s2, s3, s4, s5, s6, s7, s8, s9, s10, s11, s12, s13, s14, s15, s16, s17⟩ := S0.seen
  go_wp2_with fail
  refine (FX.out _ S0.ra S0.la).mono ?_
  rintro e W1 ⟨rfl, b1⟩
  have S1 := S0.next b1
  clear S0 s0 s1 s2 s3 s4 s5 s6 s7 s8 s9 s10 s11 s12 s13 s14 s15 s16 s17 b1
  obtain ⟨s0, s1, s2, s3, s4, s5, s6, s7, s8, s9, s10, s11, s12, s13, s14, s15, s16, s17⟩ := S1.seen
  try dsimp only
  go_wp2_with fail
  go_ret
  exact ⟨rfl, S1.bel⟩

set_option maxRecDepth 100000 in
set_option maxHeartbeats 2000000 in
theorem ROrder_y (x y : PepL) (r1 r2 q1 q2 : Option Addr) (c1 c2 d1 d2 : Nat) (w : World) (ra : Txt w (.slice r1 x.rel.length c1) x.rel) (rb : Txt w (.slice r2 y.rel.length c2) y.rel) (la : Txt w (.slice q1 x.loc.length d1) x.loc) (lb : Txt w (.slice q2 y.loc.length d2) y.loc) (hx : MidP x) (hy : MidP y) (fx : fitR x = true) (fy : fitR y = false) :
    Calls Tryz.prog 19 #[.agg #[.string (ofL x.ep), .slice r1 x.rel.length c1, .int .u8 x.c, .string (ofL x.n), .bool x.b, .string (ofL x.m), .bool x.d, .string (ofL x.k), .slice q1 x.loc.length d1], .agg #[.string (ofL y.ep), .slice r2 y.rel.length c2, .int .u8 y.c, .string (ofL y.n), .bool y.b, .string (ofL y.m), .bool y.d, .string (ofL y.k), .slice q2 y.loc.length d2]] w fun e w' => e = .returned (.int .i64 0) ∧ Below w.heap.size w w' := by
  have FX := fun w h1 h2 => RFit_any x r1 q1 c1 d1 w h1 h2 hx
  rw [fx] at FX
  have FY := fun w h1 h2 => RFit_any y r2 q2 c2 d2 w h1 h2 hy
  rw [fy] at FY
  have S0 := OB.start ra rb la lb
  have FX := hide FX
  have FY := hide FY
  clear ra rb la lb hx fx hy fy
  go_enter Tryz.func19, Tryz.ntmps19
  go_wp2_with fail
  generalize (w.alloc (.cells #[.string (ofL x.ep), .slice r1 x.rel.length c1, .int .u8 x.c, .string (ofL x.n), .bool x.b, .string (ofL x.m), .bool x.d, .string (ofL x.k), .slice q1 x.loc.length d1] 24)).alloc (.cells #[.string (ofL y.ep), .slice r2 y.rel.length c2, .int .u8 y.c, .string (ofL y.n), .bool y.b, .string (ofL y.m), .bool y.d, .string (ofL y.k), .slice q2 y.loc.length d2] 24) = W0 at *
  obtain ⟨s0, s1, s2, s3, s4, s5, s6, s7, s8, s9, s10, s11, s12, s13, s14, s15, s16, s17⟩ := S0.seen
  go_wp2_with fail
  refine (FX.out _ S0.ra S0.la).mono ?_
  rintro e W1 ⟨rfl, b1⟩
  have S1 := S0.next b1
  clear S0 s0 s1 s2 s3 s4 s5 s6 s7 s8 s9 s10 s11 s12 s13 s14 s15 s16 s17 b1
  obtain ⟨s0, s1, s2, s3, s4, s5, s6, s7, s8, s9, s10, s11, s12, s13, s14, s15, s16, s17⟩ := S1.seen
  try dsimp only
  go_wp2_with fail
  refine (FY.out _ S1.rb S1.lb).mono ?_
  rintro e W2 ⟨rfl, b2⟩
  have S2 := S1.next b2
  clear S1 s0 s1 s2 s3 s4 s5 s6 s7 s8 s9 s10 s11 s12 s13 s14 s15 s16 s17 b2
  obtain ⟨s0, s1, s2, s3, s4, s5, s6, s7, s8, s9, s10, s11, s12, s13, s14, s15, s16, s17⟩ := S2.seen
  try dsimp only
  go_wp2_with fail
  go_ret
  exact ⟨rfl, S2.bel⟩

end Go.Proofs.YtagnikhkmaplpaaGreat
