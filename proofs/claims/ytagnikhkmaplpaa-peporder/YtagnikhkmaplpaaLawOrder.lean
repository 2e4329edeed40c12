/-
  Proved: for any three texts, Compare is an order: its answers are -1, 0 and 1, turned round it is turned, a text is alike with itself, it is transitive, and what is alike is alike in whether it is a version; and chapter 3's examples hold: PepOrder returns true and leaves its arguments as they were. No condition but the form's own reach (each string takes at most 2^47 - 4096 bytes).
-/
import Derived.Test.YtagnikhkmaplpaaPv
import Derived.ProofKit
import Derived.OpenShut
import Derived.ShutString
import Derived.ChangeOld
import Derived.Below
import Derived.SizedLaws
namespace Go.Proofs.Ytagnikhkmaplpaa
namespace PepOrderP
open Go.ChangeShapes Go.WideShapes Go.ChangeAt Go.RowKit
open Go.ChangeMaps (open_string shut_string)
set_option linter.unusedVariables false

theorem own : ownKnob Try.prog.godebug = none := by kernel_rfl

theorem Parse_gen (s : ByteArray) (w : World) (hs : s.size ≤ 140737488351232) (o : Bool) (ho : okP s.data.toList = o) :
    Calls Try.prog 7 #[.string s] w fun e w' => (∃ s0 a0 n0 k0 c0 t0 d0 u0 f0 v0 b0 m0 l0 x0 p0, e = .returned (.tuple #[.agg #[.string s0, .slice a0 n0 k0, .int .u8 c0, .string t0, .bool d0, .string u0, .bool f0, .string v0, .slice b0 m0 l0], .agg #[.int .i64 x0, .int .i64 p0]]) ∧ (x0 == 0) = o) ∧ Below w.heap.size w w' := by
  cases o
  · refine (Parse_no s w hs ho).mono ?_
    rintro e w' ⟨rfl, hb⟩
    exact ⟨⟨_, _, _, _, _, _, _, _, _, _, _, _, _, _, _, rfl, errX_ne _ ho⟩, hb⟩
  · refine (Parse_ok s w ho).mono ?_
    rintro e w' ⟨vr, vl, rfl, t1, t2, _, _, hb⟩
    obtain ⟨r1, c1, rfl, _⟩ := t1
    obtain ⟨q1, d1, rfl, _⟩ := t2
    exact ⟨⟨_, _, _, _, _, _, _, _, _, _, _, _, _, _, _, rfl, rfl⟩, hb⟩

/-- What the walk asks of the answers. -/
structure Ans (a b c : ByteArray) (x y z : Int) (oa ob : Bool) : Prop where
  C1 : ∀ w, Calls Try.prog 6 #[.string a, .string b] w fun e w' => e = .returned (.int .i64 x) ∧ Below w.heap.size w w'
  C2 : ∀ w, Calls Try.prog 6 #[.string b, .string c] w fun e w' => e = .returned (.int .i64 y) ∧ Below w.heap.size w w'
  C3 : ∀ w, Calls Try.prog 6 #[.string a, .string c] w fun e w' => e = .returned (.int .i64 z) ∧ Below w.heap.size w w'
  C4 : ∀ w, Calls Try.prog 6 #[.string a, .string a] w fun e w' => e = .returned (.int .i64 0) ∧ Below w.heap.size w w'
  C5 : ∀ w, Calls Try.prog 6 #[.string b, .string a] w fun e w' => e = .returned (.int .i64 (-x)) ∧ Below w.heap.size w w'
  P1 : ∀ w, Calls Try.prog 7 #[.string a] w fun e w' => (∃ s0 a0 n0 k0 c0 t0 d0 u0 f0 v0 b0 m0 l0 x0 p0, e = .returned (.tuple #[.agg #[.string s0, .slice a0 n0 k0, .int .u8 c0, .string t0, .bool d0, .string u0, .bool f0, .string v0, .slice b0 m0 l0], .agg #[.int .i64 x0, .int .i64 p0]]) ∧ (x0 == 0) = oa) ∧ Below w.heap.size w w'
  P2 : ∀ w, Calls Try.prog 7 #[.string b] w fun e w' => (∃ s0 a0 n0 k0 c0 t0 d0 u0 f0 v0 b0 m0 l0 x0 p0, e = .returned (.tuple #[.agg #[.string s0, .slice a0 n0 k0, .int .u8 c0, .string t0, .bool d0, .string u0, .bool f0, .string v0, .slice b0 m0 l0], .agg #[.int .i64 x0, .int .i64 p0]]) ∧ (x0 == 0) = ob) ∧ Below w.heap.size w w'

set_option maxRecDepth 100000 in
set_option maxHeartbeats 4000000 in
theorem walk_ps (a b c : ByteArray) (y z : Int) (oa : Bool) (w : World) (h : Ans a b c (1) y z oa oa)  :
    Calls Try.prog 3 #[.string a, .string b, .string c] w fun e w' => e = .returned (.bool true) ∧ Below w.heap.size w w' := by
  have C1 := hide h.C1
  have C2 := hide h.C2
  have C3 := hide h.C3
  have C4 := hide h.C4
  have C5 := hide h.C5
  have P1 := hide h.P1
  have P2 := hide h.P2
  clear h
  have eo : (oa == oa) = true := by simp
  go_enter Try.func3, Try.ntmps3
  go_wp2_with fail
  refine (C1.out _).mono ?_
  rintro e w1 ⟨rfl, b1⟩
  go_wp2_with fail
  refine (C2.out _).mono ?_
  rintro e w2 ⟨rfl, b2⟩
  have b2 := b1.trans (b2.mono b1.size)
  go_wp2_with fail
  refine (C3.out _).mono ?_
  rintro e w3 ⟨rfl, b3⟩
  have b3 := b2.trans (b3.mono b2.size)
  go_wp2_with fail
  refine (C4.out _).mono ?_
  rintro e w4 ⟨rfl, b4⟩
  have b4 := b3.trans (b4.mono b3.size)
  go_wp2_with fail
  refine (C5.out _).mono ?_
  rintro e w5 ⟨rfl, b5⟩
  have b5 := b4.trans (b5.mono b4.size)
  go_wp2_with fail
  refine (P1.out _).mono ?_
  rintro e w6 ⟨⟨s1, a1, n1, k1, c1, t1, d1, u1, f1, v1, q1, m1, l1, x1, p1, rfl, hx1⟩, b6⟩
  have b6 := b5.trans (b6.mono b5.size)
  go_wp2_with fail
  refine (P2.out _).mono ?_
  rintro e w7 ⟨⟨s2, a2, n2, k2, c2, t2, d2, u2, f2, v2, q2, m2, l2, x2, p2, rfl, hx2⟩, b7⟩
  obtain ⟨_, eF⟩ := lies2 b7
  have g0 := cell_at 0 eF rfl
  have hl := (Array.getElem?_eq_some_iff.1 eF).1
  have hl1 : w6.heap.size + 1 < w7.heap.size + 1 := by omega
  have B0 := b6.alloc b6.size (.cells #[.string s1, .slice a1 n1 k1, .int .u8 c1, .string t1, .bool d1, .string u1, .bool f1, .string v1, .slice q1 m1 l1] 25)
  have B1 := B0.alloc B0.size (.cells #[.int .i64 x1, .int .i64 p1] 28)
  have B2 := B1.trans (b7.mono B1.size)
  have B3 := B2.alloc B2.size (.cells #[.string s2, .slice a2 n2 k2, .int .u8 c2, .string t2, .bool d2, .string u2, .bool f2, .string v2, .slice q2 m2 l2] 25)
  have B4 := hide (B3.alloc B3.size (.cells #[.int .i64 x2, .int .i64 p2] 28))
  clear b1 b2 b3 b4 b5 b6 b7 B0 B1 B2 B3
  go_wp2_with fail
  refine (awake_any _).mono ?_
  rintro e w9 ⟨rfl, b9⟩
  go_wp2_with fail
  go_ret
  exact ⟨rfl, B4.out.trans (b9.mono B4.out.size)⟩

set_option maxRecDepth 100000 in
set_option maxHeartbeats 4000000 in
theorem walk_pd (a b c : ByteArray) (y z : Int) (oa ob : Bool) (w : World) (h : Ans a b c (1) y z oa ob)  (eo : (oa == ob) = false) :
    Calls Try.prog 3 #[.string a, .string b, .string c] w fun e w' => e = .returned (.bool true) ∧ Below w.heap.size w w' := by
  have C1 := hide h.C1
  have C2 := hide h.C2
  have C3 := hide h.C3
  have C4 := hide h.C4
  have C5 := hide h.C5
  have P1 := hide h.P1
  have P2 := hide h.P2
  clear h
  go_enter Try.func3, Try.ntmps3
  go_wp2_with fail
  refine (C1.out _).mono ?_
  rintro e w1 ⟨rfl, b1⟩
  go_wp2_with fail
  refine (C2.out _).mono ?_
  rintro e w2 ⟨rfl, b2⟩
  have b2 := b1.trans (b2.mono b1.size)
  go_wp2_with fail
  refine (C3.out _).mono ?_
  rintro e w3 ⟨rfl, b3⟩
  have b3 := b2.trans (b3.mono b2.size)
  go_wp2_with fail
  refine (C4.out _).mono ?_
  rintro e w4 ⟨rfl, b4⟩
  have b4 := b3.trans (b4.mono b3.size)
  go_wp2_with fail
  refine (C5.out _).mono ?_
  rintro e w5 ⟨rfl, b5⟩
  have b5 := b4.trans (b5.mono b4.size)
  go_wp2_with fail
  refine (P1.out _).mono ?_
  rintro e w6 ⟨⟨s1, a1, n1, k1, c1, t1, d1, u1, f1, v1, q1, m1, l1, x1, p1, rfl, hx1⟩, b6⟩
  have b6 := b5.trans (b6.mono b5.size)
  go_wp2_with fail
  refine (P2.out _).mono ?_
  rintro e w7 ⟨⟨s2, a2, n2, k2, c2, t2, d2, u2, f2, v2, q2, m2, l2, x2, p2, rfl, hx2⟩, b7⟩
  obtain ⟨_, eF⟩ := lies2 b7
  have g0 := cell_at 0 eF rfl
  have hl := (Array.getElem?_eq_some_iff.1 eF).1
  have hl1 : w6.heap.size + 1 < w7.heap.size + 1 := by omega
  have B0 := b6.alloc b6.size (.cells #[.string s1, .slice a1 n1 k1, .int .u8 c1, .string t1, .bool d1, .string u1, .bool f1, .string v1, .slice q1 m1 l1] 25)
  have B1 := B0.alloc B0.size (.cells #[.int .i64 x1, .int .i64 p1] 28)
  have B2 := B1.trans (b7.mono B1.size)
  have B3 := B2.alloc B2.size (.cells #[.string s2, .slice a2 n2 k2, .int .u8 c2, .string t2, .bool d2, .string u2, .bool f2, .string v2, .slice q2 m2 l2] 25)
  have B4 := hide (B3.alloc B3.size (.cells #[.int .i64 x2, .int .i64 p2] 28))
  clear b1 b2 b3 b4 b5 b6 b7 B0 B1 B2 B3
  go_wp2_with fail
  refine (awake_any _).mono ?_
  rintro e w9 ⟨rfl, b9⟩
  go_wp2_with fail
  go_ret
  exact ⟨rfl, B4.out.trans (b9.mono B4.out.size)⟩

set_option maxRecDepth 100000 in
set_option maxHeartbeats 4000000 in
theorem walk_m0s (a b c : ByteArray) (y z : Int) (oa : Bool) (w : World) (h : Ans a b c (-1) y z oa oa) (hy : y ≤ 0) (hz : ¬ 0 < z) :
    Calls Try.prog 3 #[.string a, .string b, .string c] w fun e w' => e = .returned (.bool true) ∧ Below w.heap.size w w' := by
  have C1 := hide h.C1
  have C2 := hide h.C2
  have C3 := hide h.C3
  have C4 := hide h.C4
  have C5 := hide h.C5
  have P1 := hide h.P1
  have P2 := hide h.P2
  clear h
  have eo : (oa == oa) = true := by simp
  go_enter Try.func3, Try.ntmps3
  go_wp2_with fail
  refine (C1.out _).mono ?_
  rintro e w1 ⟨rfl, b1⟩
  go_wp2_with fail
  refine (C2.out _).mono ?_
  rintro e w2 ⟨rfl, b2⟩
  have b2 := b1.trans (b2.mono b1.size)
  go_wp2_with fail
  refine (C3.out _).mono ?_
  rintro e w3 ⟨rfl, b3⟩
  have b3 := b2.trans (b3.mono b2.size)
  go_wp2_with fail
  refine (C4.out _).mono ?_
  rintro e w4 ⟨rfl, b4⟩
  have b4 := b3.trans (b4.mono b3.size)
  go_wp2_with fail
  refine (C5.out _).mono ?_
  rintro e w5 ⟨rfl, b5⟩
  have b5 := b4.trans (b5.mono b4.size)
  go_wp2_with fail
  refine (P1.out _).mono ?_
  rintro e w6 ⟨⟨s1, a1, n1, k1, c1, t1, d1, u1, f1, v1, q1, m1, l1, x1, p1, rfl, hx1⟩, b6⟩
  have b6 := b5.trans (b6.mono b5.size)
  go_wp2_with fail
  refine (P2.out _).mono ?_
  rintro e w7 ⟨⟨s2, a2, n2, k2, c2, t2, d2, u2, f2, v2, q2, m2, l2, x2, p2, rfl, hx2⟩, b7⟩
  obtain ⟨_, eF⟩ := lies2 b7
  have g0 := cell_at 0 eF rfl
  have hl := (Array.getElem?_eq_some_iff.1 eF).1
  have hl1 : w6.heap.size + 1 < w7.heap.size + 1 := by omega
  have B0 := b6.alloc b6.size (.cells #[.string s1, .slice a1 n1 k1, .int .u8 c1, .string t1, .bool d1, .string u1, .bool f1, .string v1, .slice q1 m1 l1] 25)
  have B1 := B0.alloc B0.size (.cells #[.int .i64 x1, .int .i64 p1] 28)
  have B2 := B1.trans (b7.mono B1.size)
  have B3 := B2.alloc B2.size (.cells #[.string s2, .slice a2 n2 k2, .int .u8 c2, .string t2, .bool d2, .string u2, .bool f2, .string v2, .slice q2 m2 l2] 25)
  have B4 := hide (B3.alloc B3.size (.cells #[.int .i64 x2, .int .i64 p2] 28))
  clear b1 b2 b3 b4 b5 b6 b7 B0 B1 B2 B3
  go_wp2_with fail
  refine (awake_any _).mono ?_
  rintro e w9 ⟨rfl, b9⟩
  go_wp2_with fail
  go_ret
  exact ⟨rfl, B4.out.trans (b9.mono B4.out.size)⟩

set_option maxRecDepth 100000 in
set_option maxHeartbeats 4000000 in
theorem walk_m0d (a b c : ByteArray) (y z : Int) (oa ob : Bool) (w : World) (h : Ans a b c (-1) y z oa ob) (hy : y ≤ 0) (hz : ¬ 0 < z) (eo : (oa == ob) = false) :
    Calls Try.prog 3 #[.string a, .string b, .string c] w fun e w' => e = .returned (.bool true) ∧ Below w.heap.size w w' := by
  have C1 := hide h.C1
  have C2 := hide h.C2
  have C3 := hide h.C3
  have C4 := hide h.C4
  have C5 := hide h.C5
  have P1 := hide h.P1
  have P2 := hide h.P2
  clear h
  go_enter Try.func3, Try.ntmps3
  go_wp2_with fail
  refine (C1.out _).mono ?_
  rintro e w1 ⟨rfl, b1⟩
  go_wp2_with fail
  refine (C2.out _).mono ?_
  rintro e w2 ⟨rfl, b2⟩
  have b2 := b1.trans (b2.mono b1.size)
  go_wp2_with fail
  refine (C3.out _).mono ?_
  rintro e w3 ⟨rfl, b3⟩
  have b3 := b2.trans (b3.mono b2.size)
  go_wp2_with fail
  refine (C4.out _).mono ?_
  rintro e w4 ⟨rfl, b4⟩
  have b4 := b3.trans (b4.mono b3.size)
  go_wp2_with fail
  refine (C5.out _).mono ?_
  rintro e w5 ⟨rfl, b5⟩
  have b5 := b4.trans (b5.mono b4.size)
  go_wp2_with fail
  refine (P1.out _).mono ?_
  rintro e w6 ⟨⟨s1, a1, n1, k1, c1, t1, d1, u1, f1, v1, q1, m1, l1, x1, p1, rfl, hx1⟩, b6⟩
  have b6 := b5.trans (b6.mono b5.size)
  go_wp2_with fail
  refine (P2.out _).mono ?_
  rintro e w7 ⟨⟨s2, a2, n2, k2, c2, t2, d2, u2, f2, v2, q2, m2, l2, x2, p2, rfl, hx2⟩, b7⟩
  obtain ⟨_, eF⟩ := lies2 b7
  have g0 := cell_at 0 eF rfl
  have hl := (Array.getElem?_eq_some_iff.1 eF).1
  have hl1 : w6.heap.size + 1 < w7.heap.size + 1 := by omega
  have B0 := b6.alloc b6.size (.cells #[.string s1, .slice a1 n1 k1, .int .u8 c1, .string t1, .bool d1, .string u1, .bool f1, .string v1, .slice q1 m1 l1] 25)
  have B1 := B0.alloc B0.size (.cells #[.int .i64 x1, .int .i64 p1] 28)
  have B2 := B1.trans (b7.mono B1.size)
  have B3 := B2.alloc B2.size (.cells #[.string s2, .slice a2 n2 k2, .int .u8 c2, .string t2, .bool d2, .string u2, .bool f2, .string v2, .slice q2 m2 l2] 25)
  have B4 := hide (B3.alloc B3.size (.cells #[.int .i64 x2, .int .i64 p2] 28))
  clear b1 b2 b3 b4 b5 b6 b7 B0 B1 B2 B3
  go_wp2_with fail
  refine (awake_any _).mono ?_
  rintro e w9 ⟨rfl, b9⟩
  go_wp2_with fail
  go_ret
  exact ⟨rfl, B4.out.trans (b9.mono B4.out.size)⟩

set_option maxRecDepth 100000 in
set_option maxHeartbeats 4000000 in
theorem walk_m1s (a b c : ByteArray) (y z : Int) (oa : Bool) (w : World) (h : Ans a b c (-1) y z oa oa) (hy : ¬ y ≤ 0) :
    Calls Try.prog 3 #[.string a, .string b, .string c] w fun e w' => e = .returned (.bool true) ∧ Below w.heap.size w w' := by
  have C1 := hide h.C1
  have C2 := hide h.C2
  have C3 := hide h.C3
  have C4 := hide h.C4
  have C5 := hide h.C5
  have P1 := hide h.P1
  have P2 := hide h.P2
  clear h
  have eo : (oa == oa) = true := by simp
  go_enter Try.func3, Try.ntmps3
  go_wp2_with fail
  refine (C1.out _).mono ?_
  rintro e w1 ⟨rfl, b1⟩
  go_wp2_with fail
  refine (C2.out _).mono ?_
  rintro e w2 ⟨rfl, b2⟩
  have b2 := b1.trans (b2.mono b1.size)
  go_wp2_with fail
  refine (C3.out _).mono ?_
  rintro e w3 ⟨rfl, b3⟩
  have b3 := b2.trans (b3.mono b2.size)
  go_wp2_with fail
  refine (C4.out _).mono ?_
  rintro e w4 ⟨rfl, b4⟩
  have b4 := b3.trans (b4.mono b3.size)
  go_wp2_with fail
  refine (C5.out _).mono ?_
  rintro e w5 ⟨rfl, b5⟩
  have b5 := b4.trans (b5.mono b4.size)
  go_wp2_with fail
  refine (P1.out _).mono ?_
  rintro e w6 ⟨⟨s1, a1, n1, k1, c1, t1, d1, u1, f1, v1, q1, m1, l1, x1, p1, rfl, hx1⟩, b6⟩
  have b6 := b5.trans (b6.mono b5.size)
  go_wp2_with fail
  refine (P2.out _).mono ?_
  rintro e w7 ⟨⟨s2, a2, n2, k2, c2, t2, d2, u2, f2, v2, q2, m2, l2, x2, p2, rfl, hx2⟩, b7⟩
  obtain ⟨_, eF⟩ := lies2 b7
  have g0 := cell_at 0 eF rfl
  have hl := (Array.getElem?_eq_some_iff.1 eF).1
  have hl1 : w6.heap.size + 1 < w7.heap.size + 1 := by omega
  have B0 := b6.alloc b6.size (.cells #[.string s1, .slice a1 n1 k1, .int .u8 c1, .string t1, .bool d1, .string u1, .bool f1, .string v1, .slice q1 m1 l1] 25)
  have B1 := B0.alloc B0.size (.cells #[.int .i64 x1, .int .i64 p1] 28)
  have B2 := B1.trans (b7.mono B1.size)
  have B3 := B2.alloc B2.size (.cells #[.string s2, .slice a2 n2 k2, .int .u8 c2, .string t2, .bool d2, .string u2, .bool f2, .string v2, .slice q2 m2 l2] 25)
  have B4 := hide (B3.alloc B3.size (.cells #[.int .i64 x2, .int .i64 p2] 28))
  clear b1 b2 b3 b4 b5 b6 b7 B0 B1 B2 B3
  go_wp2_with fail
  refine (awake_any _).mono ?_
  rintro e w9 ⟨rfl, b9⟩
  go_wp2_with fail
  go_ret
  exact ⟨rfl, B4.out.trans (b9.mono B4.out.size)⟩

set_option maxRecDepth 100000 in
set_option maxHeartbeats 4000000 in
theorem walk_m1d (a b c : ByteArray) (y z : Int) (oa ob : Bool) (w : World) (h : Ans a b c (-1) y z oa ob) (hy : ¬ y ≤ 0) (eo : (oa == ob) = false) :
    Calls Try.prog 3 #[.string a, .string b, .string c] w fun e w' => e = .returned (.bool true) ∧ Below w.heap.size w w' := by
  have C1 := hide h.C1
  have C2 := hide h.C2
  have C3 := hide h.C3
  have C4 := hide h.C4
  have C5 := hide h.C5
  have P1 := hide h.P1
  have P2 := hide h.P2
  clear h
  go_enter Try.func3, Try.ntmps3
  go_wp2_with fail
  refine (C1.out _).mono ?_
  rintro e w1 ⟨rfl, b1⟩
  go_wp2_with fail
  refine (C2.out _).mono ?_
  rintro e w2 ⟨rfl, b2⟩
  have b2 := b1.trans (b2.mono b1.size)
  go_wp2_with fail
  refine (C3.out _).mono ?_
  rintro e w3 ⟨rfl, b3⟩
  have b3 := b2.trans (b3.mono b2.size)
  go_wp2_with fail
  refine (C4.out _).mono ?_
  rintro e w4 ⟨rfl, b4⟩
  have b4 := b3.trans (b4.mono b3.size)
  go_wp2_with fail
  refine (C5.out _).mono ?_
  rintro e w5 ⟨rfl, b5⟩
  have b5 := b4.trans (b5.mono b4.size)
  go_wp2_with fail
  refine (P1.out _).mono ?_
  rintro e w6 ⟨⟨s1, a1, n1, k1, c1, t1, d1, u1, f1, v1, q1, m1, l1, x1, p1, rfl, hx1⟩, b6⟩
  have b6 := b5.trans (b6.mono b5.size)
  go_wp2_with fail
  refine (P2.out _).mono ?_
  rintro e w7 ⟨⟨s2, a2, n2, k2, c2, t2, d2, u2, f2, v2, q2, m2, l2, x2, p2, rfl, hx2⟩, b7⟩
  obtain ⟨_, eF⟩ := lies2 b7
  have g0 := cell_at 0 eF rfl
  have hl := (Array.getElem?_eq_some_iff.1 eF).1
  have hl1 : w6.heap.size + 1 < w7.heap.size + 1 := by omega
  have B0 := b6.alloc b6.size (.cells #[.string s1, .slice a1 n1 k1, .int .u8 c1, .string t1, .bool d1, .string u1, .bool f1, .string v1, .slice q1 m1 l1] 25)
  have B1 := B0.alloc B0.size (.cells #[.int .i64 x1, .int .i64 p1] 28)
  have B2 := B1.trans (b7.mono B1.size)
  have B3 := B2.alloc B2.size (.cells #[.string s2, .slice a2 n2 k2, .int .u8 c2, .string t2, .bool d2, .string u2, .bool f2, .string v2, .slice q2 m2 l2] 25)
  have B4 := hide (B3.alloc B3.size (.cells #[.int .i64 x2, .int .i64 p2] 28))
  clear b1 b2 b3 b4 b5 b6 b7 B0 B1 B2 B3
  go_wp2_with fail
  refine (awake_any _).mono ?_
  rintro e w9 ⟨rfl, b9⟩
  go_wp2_with fail
  go_ret
  exact ⟨rfl, B4.out.trans (b9.mono B4.out.size)⟩

set_option maxRecDepth 100000 in
set_option maxHeartbeats 4000000 in
theorem walk_zm (a b c : ByteArray) (y z : Int) (oa : Bool) (w : World) (h : Ans a b c (0) y z oa oa) (hy : y = -1) (hz : z = -1) :
    Calls Try.prog 3 #[.string a, .string b, .string c] w fun e w' => e = .returned (.bool true) ∧ Below w.heap.size w w' := by
  have C1 := hide h.C1
  have C2 := hide h.C2
  have C3 := hide h.C3
  have C4 := hide h.C4
  have C5 := hide h.C5
  have P1 := hide h.P1
  have P2 := hide h.P2
  subst hy hz
  clear h
  have eo : (oa == oa) = true := by simp
  go_enter Try.func3, Try.ntmps3
  go_wp2_with fail
  refine (C1.out _).mono ?_
  rintro e w1 ⟨rfl, b1⟩
  go_wp2_with fail
  refine (C2.out _).mono ?_
  rintro e w2 ⟨rfl, b2⟩
  have b2 := b1.trans (b2.mono b1.size)
  go_wp2_with fail
  refine (C3.out _).mono ?_
  rintro e w3 ⟨rfl, b3⟩
  have b3 := b2.trans (b3.mono b2.size)
  go_wp2_with fail
  refine (C4.out _).mono ?_
  rintro e w4 ⟨rfl, b4⟩
  have b4 := b3.trans (b4.mono b3.size)
  go_wp2_with fail
  refine (C5.out _).mono ?_
  rintro e w5 ⟨rfl, b5⟩
  have b5 := b4.trans (b5.mono b4.size)
  go_wp2_with fail
  refine (P1.out _).mono ?_
  rintro e w6 ⟨⟨s1, a1, n1, k1, c1, t1, d1, u1, f1, v1, q1, m1, l1, x1, p1, rfl, hx1⟩, b6⟩
  have b6 := b5.trans (b6.mono b5.size)
  go_wp2_with fail
  refine (P2.out _).mono ?_
  rintro e w7 ⟨⟨s2, a2, n2, k2, c2, t2, d2, u2, f2, v2, q2, m2, l2, x2, p2, rfl, hx2⟩, b7⟩
  obtain ⟨_, eF⟩ := lies2 b7
  have g0 := cell_at 0 eF rfl
  have hl := (Array.getElem?_eq_some_iff.1 eF).1
  have hl1 : w6.heap.size + 1 < w7.heap.size + 1 := by omega
  have B0 := b6.alloc b6.size (.cells #[.string s1, .slice a1 n1 k1, .int .u8 c1, .string t1, .bool d1, .string u1, .bool f1, .string v1, .slice q1 m1 l1] 25)
  have B1 := B0.alloc B0.size (.cells #[.int .i64 x1, .int .i64 p1] 28)
  have B2 := B1.trans (b7.mono B1.size)
  have B3 := B2.alloc B2.size (.cells #[.string s2, .slice a2 n2 k2, .int .u8 c2, .string t2, .bool d2, .string u2, .bool f2, .string v2, .slice q2 m2 l2] 25)
  have B4 := hide (B3.alloc B3.size (.cells #[.int .i64 x2, .int .i64 p2] 28))
  clear b1 b2 b3 b4 b5 b6 b7 B0 B1 B2 B3
  go_wp2_with fail
  refine (awake_any _).mono ?_
  rintro e w9 ⟨rfl, b9⟩
  go_wp2_with fail
  go_ret
  exact ⟨rfl, B4.out.trans (b9.mono B4.out.size)⟩

set_option maxRecDepth 100000 in
set_option maxHeartbeats 4000000 in
theorem walk_zz (a b c : ByteArray) (y z : Int) (oa : Bool) (w : World) (h : Ans a b c (0) y z oa oa) (hy : y = 0) (hz : z = 0) :
    Calls Try.prog 3 #[.string a, .string b, .string c] w fun e w' => e = .returned (.bool true) ∧ Below w.heap.size w w' := by
  have C1 := hide h.C1
  have C2 := hide h.C2
  have C3 := hide h.C3
  have C4 := hide h.C4
  have C5 := hide h.C5
  have P1 := hide h.P1
  have P2 := hide h.P2
  subst hy hz
  clear h
  have eo : (oa == oa) = true := by simp
  go_enter Try.func3, Try.ntmps3
  go_wp2_with fail
  refine (C1.out _).mono ?_
  rintro e w1 ⟨rfl, b1⟩
  go_wp2_with fail
  refine (C2.out _).mono ?_
  rintro e w2 ⟨rfl, b2⟩
  have b2 := b1.trans (b2.mono b1.size)
  go_wp2_with fail
  refine (C3.out _).mono ?_
  rintro e w3 ⟨rfl, b3⟩
  have b3 := b2.trans (b3.mono b2.size)
  go_wp2_with fail
  refine (C4.out _).mono ?_
  rintro e w4 ⟨rfl, b4⟩
  have b4 := b3.trans (b4.mono b3.size)
  go_wp2_with fail
  refine (C5.out _).mono ?_
  rintro e w5 ⟨rfl, b5⟩
  have b5 := b4.trans (b5.mono b4.size)
  go_wp2_with fail
  refine (P1.out _).mono ?_
  rintro e w6 ⟨⟨s1, a1, n1, k1, c1, t1, d1, u1, f1, v1, q1, m1, l1, x1, p1, rfl, hx1⟩, b6⟩
  have b6 := b5.trans (b6.mono b5.size)
  go_wp2_with fail
  refine (P2.out _).mono ?_
  rintro e w7 ⟨⟨s2, a2, n2, k2, c2, t2, d2, u2, f2, v2, q2, m2, l2, x2, p2, rfl, hx2⟩, b7⟩
  obtain ⟨_, eF⟩ := lies2 b7
  have g0 := cell_at 0 eF rfl
  have hl := (Array.getElem?_eq_some_iff.1 eF).1
  have hl1 : w6.heap.size + 1 < w7.heap.size + 1 := by omega
  have B0 := b6.alloc b6.size (.cells #[.string s1, .slice a1 n1 k1, .int .u8 c1, .string t1, .bool d1, .string u1, .bool f1, .string v1, .slice q1 m1 l1] 25)
  have B1 := B0.alloc B0.size (.cells #[.int .i64 x1, .int .i64 p1] 28)
  have B2 := B1.trans (b7.mono B1.size)
  have B3 := B2.alloc B2.size (.cells #[.string s2, .slice a2 n2 k2, .int .u8 c2, .string t2, .bool d2, .string u2, .bool f2, .string v2, .slice q2 m2 l2] 25)
  have B4 := hide (B3.alloc B3.size (.cells #[.int .i64 x2, .int .i64 p2] 28))
  clear b1 b2 b3 b4 b5 b6 b7 B0 B1 B2 B3
  go_wp2_with fail
  refine (awake_any _).mono ?_
  rintro e w9 ⟨rfl, b9⟩
  go_wp2_with fail
  go_ret
  exact ⟨rfl, B4.out.trans (b9.mono B4.out.size)⟩

set_option maxRecDepth 100000 in
set_option maxHeartbeats 4000000 in
theorem walk_zp (a b c : ByteArray) (y z : Int) (oa : Bool) (w : World) (h : Ans a b c (0) y z oa oa) (hy : y = 1) (hz : z = 1) :
    Calls Try.prog 3 #[.string a, .string b, .string c] w fun e w' => e = .returned (.bool true) ∧ Below w.heap.size w w' := by
  have C1 := hide h.C1
  have C2 := hide h.C2
  have C3 := hide h.C3
  have C4 := hide h.C4
  have C5 := hide h.C5
  have P1 := hide h.P1
  have P2 := hide h.P2
  subst hy hz
  clear h
  have eo : (oa == oa) = true := by simp
  go_enter Try.func3, Try.ntmps3
  go_wp2_with fail
  refine (C1.out _).mono ?_
  rintro e w1 ⟨rfl, b1⟩
  go_wp2_with fail
  refine (C2.out _).mono ?_
  rintro e w2 ⟨rfl, b2⟩
  have b2 := b1.trans (b2.mono b1.size)
  go_wp2_with fail
  refine (C3.out _).mono ?_
  rintro e w3 ⟨rfl, b3⟩
  have b3 := b2.trans (b3.mono b2.size)
  go_wp2_with fail
  refine (C4.out _).mono ?_
  rintro e w4 ⟨rfl, b4⟩
  have b4 := b3.trans (b4.mono b3.size)
  go_wp2_with fail
  refine (C5.out _).mono ?_
  rintro e w5 ⟨rfl, b5⟩
  have b5 := b4.trans (b5.mono b4.size)
  go_wp2_with fail
  refine (P1.out _).mono ?_
  rintro e w6 ⟨⟨s1, a1, n1, k1, c1, t1, d1, u1, f1, v1, q1, m1, l1, x1, p1, rfl, hx1⟩, b6⟩
  have b6 := b5.trans (b6.mono b5.size)
  go_wp2_with fail
  refine (P2.out _).mono ?_
  rintro e w7 ⟨⟨s2, a2, n2, k2, c2, t2, d2, u2, f2, v2, q2, m2, l2, x2, p2, rfl, hx2⟩, b7⟩
  obtain ⟨_, eF⟩ := lies2 b7
  have g0 := cell_at 0 eF rfl
  have hl := (Array.getElem?_eq_some_iff.1 eF).1
  have hl1 : w6.heap.size + 1 < w7.heap.size + 1 := by omega
  have B0 := b6.alloc b6.size (.cells #[.string s1, .slice a1 n1 k1, .int .u8 c1, .string t1, .bool d1, .string u1, .bool f1, .string v1, .slice q1 m1 l1] 25)
  have B1 := B0.alloc B0.size (.cells #[.int .i64 x1, .int .i64 p1] 28)
  have B2 := B1.trans (b7.mono B1.size)
  have B3 := B2.alloc B2.size (.cells #[.string s2, .slice a2 n2 k2, .int .u8 c2, .string t2, .bool d2, .string u2, .bool f2, .string v2, .slice q2 m2 l2] 25)
  have B4 := hide (B3.alloc B3.size (.cells #[.int .i64 x2, .int .i64 p2] 28))
  clear b1 b2 b3 b4 b5 b6 b7 B0 B1 B2 B3
  go_wp2_with fail
  refine (awake_any _).mono ?_
  rintro e w9 ⟨rfl, b9⟩
  go_wp2_with fail
  go_ret
  exact ⟨rfl, B4.out.trans (b9.mono B4.out.size)⟩

theorem walk (a b c : ByteArray) (ha : a.size ≤ 140737488351232) (hb : b.size ≤ 140737488351232) (hc : c.size ≤ 140737488351232) (w : World) :
    Calls Try.prog 3 #[.string a, .string b, .string c] w fun e w' => e = .returned (.bool true) ∧ Below w.heap.size w w' := by
  have H := cmpT_cmp3
  obtain ⟨x, hx⟩ : ∃ x, cmpT a.data.toList b.data.toList = x := ⟨_, rfl⟩
  obtain ⟨y, hy⟩ : ∃ y, cmpT b.data.toList c.data.toList = y := ⟨_, rfl⟩
  obtain ⟨z, hz⟩ : ∃ z, cmpT a.data.toList c.data.toList = z := ⟨_, rfl⟩
  obtain ⟨oa, hoa⟩ : ∃ oa, okP a.data.toList = oa := ⟨_, rfl⟩
  obtain ⟨ob, hob⟩ : ∃ ob, okP b.data.toList = ob := ⟨_, rfl⟩
  have hA : Ans a b c x y z oa ob := by
    refine ⟨fun w => ?_, fun w => ?_, fun w => ?_, fun w => ?_, fun w => ?_, fun w => Parse_gen a w ha oa hoa, fun w => Parse_gen b w hb ob hob⟩
    · rw [← hx]; exact CompareT_any a b w ha hb
    · rw [← hy]; exact CompareT_any b c w hb hc
    · rw [← hz]; exact CompareT_any a c w ha hc
    · have := CompareT_any a a w ha ha
      rwa [H.self] at this
    · have := CompareT_any b a w hb ha
      rwa [H.anti, hx] at this
  have rx := H.rng a.data.toList b.data.toList
  have ry := H.rng b.data.toList c.data.toList
  have tr := H.trans a.data.toList b.data.toList c.data.toList
  have ev := H.eqv a.data.toList b.data.toList c.data.toList
  have hoo : x = 0 → oa = ob := by
    intro h0
    rw [← hx] at h0
    unfold cmpT at h0
    rw [hoa, hob] at h0
    cases oa <;> cases ob <;> simp at h0 ⊢
  rw [hx] at rx tr ev
  rw [hy] at ry tr ev
  rw [hz] at tr ev
  rcases rx with rfl | rfl | rfl
  · by_cases hy0 : y ≤ 0
    · have hz0 : ¬ 0 < z := by have := tr (by omega) hy0; omega
      by_cases ho : oa = ob
      · subst ho; exact walk_m0s a b c y z oa w hA hy0 hz0
      · exact walk_m0d a b c y z oa ob w hA hy0 hz0 (by simpa using ho)
    · by_cases ho : oa = ob
      · subst ho; exact walk_m1s a b c y z oa w hA hy0
      · exact walk_m1d a b c y z oa ob w hA hy0 (by simpa using ho)
  · obtain rfl := hoo rfl
    have hzy := ev rfl
    rcases ry with h | h | h
    · exact walk_zm a b c y z oa w hA h (by omega)
    · exact walk_zz a b c y z oa w hA h (by omega)
    · exact walk_zp a b c y z oa w hA h (by omega)
  · by_cases ho : oa = ob
    · subst ho; exact walk_ps a b c y z oa w hA
    · exact walk_pd a b c y z oa ob w hA (by simpa using ho)

set_option maxRecDepth 100000 in
theorem lifted (os : Os) (started : os.Started) (H : Type) (enc : TypeId × Value → H) :
    ReturnsInHanded {} Try.checked os 3 .any (Rows.pepOrderSpec.pre6 enc Try.prog Try.f3 Rows.pepOrderRow.domain false) (Rows.pepOrderSpec.post enc Try.prog Try.f3 false true false false) := by
  refine returnsInHanded_of_change_sized (C := Try.checked) own started (by kernel_rfl) Try.func3
    (ChangeSpec.witness6 (enc := enc) (C := Try.checked) false ⟨#[], #[.string ByteArray.empty, .string ByteArray.empty, .string ByteArray.empty], []⟩ 8 (by kernel_rfl) (by kernel_rfl) (by kernel_rfl) (by kernel_rfl)) ?_
  intro W base args ds gs before hval0 hW hcnd hsz0 _
  have hval : ∀ (j : Nat) t v, Try.f3.params[j]? = some t → args[j]? = some v → Value.okWide Try.prog W .any base t v := hval0
  have hsz : (DataW.weightsEach Try.prog (Try.f3.params.toList ++ Rows.pepOrderSpec.plain.varTypes Try.prog) (ds ++ gs)).all (· ≤ reachBytes) = true := hsz0
  have hW' := hW
  obtain ⟨p, q, hA0, hV, rfl, hfz, hnd⟩ := hW
  have hA : DataW.TrodAll enc Try.prog W 0 (fun _ => true) true Try.f3.params.toList args.toList ds p := hA0
  rw [Try.params3] at hA hval hsz
  obtain ⟨v0, vs0, d0, ds0, p0, q0, hargs, rfl, rfl, h0, r0⟩ := trodAll_cons hA
  obtain ⟨v1, vs1, d1, ds1, p1, q1, rfl, rfl, rfl, h1, r1⟩ := trodAll_cons r0
  obtain ⟨v2, vs2, d2, ds2, p2, q2, rfl, rfl, rfl, h2, r2⟩ := trodAll_cons r1
  obtain ⟨rfl, rfl, rfl⟩ := trodAll_nil r2
  obtain rfl : args = #[v0, v1, v2] := by cases args; simp_all
  obtain ⟨rfl, rfl⟩ := trodVars_none hV
  obtain ⟨a0, rfl, rfl, rfl, w0⟩ := open_string Try.underlying9 (hval 0 9 v0 rfl rfl) h0
  have s0 : a0.data.toList.length ≤ reachBytes := sized_string hsz (j := 0) (t := 9) rfl rfl
  rw [len_data] at s0
  have s0 : a0.size ≤ 140737488351232 := s0
  obtain ⟨a1, rfl, rfl, rfl, w1⟩ := open_string Try.underlying9 (hval 1 9 v1 rfl rfl) h1
  have s1 : a1.data.toList.length ≤ reachBytes := sized_string hsz (j := 1) (t := 9) rfl rfl
  rw [len_data] at s1
  have s1 : a1.size ≤ 140737488351232 := s1
  obtain ⟨a2, rfl, rfl, rfl, w2⟩ := open_string Try.underlying9 (hval 2 9 v2 rfl rfl) h2
  have s2 : a2.data.toList.length ≤ reachBytes := sized_string hsz (j := 2) (t := 9) rfl rfl
  rw [len_data] at s2
  have s2 : a2.size ≤ 140737488351232 := s2
  clear hA0 hval0 hsz0 hsz
  refine (walk a0 a1 a2 s0 s1 s2 W).mono fun e W' ⟨he, bel⟩ => ?_
  subst he
  exact ⟨_, rfl, _, _, _, [], _, [], hW', trodAll_mk1 (shut_bool Try.underlying4 _), (trodAll_cons_mk (shut_string Try.underlying9 w0) (trodAll_cons_mk (shut_string Try.underlying9 w1) (trodAll_cons_mk (shut_string Try.underlying9 w2) trodAll_mk0))), rfl, bel.frame _, fun h => by cases h⟩

theorem over : Rows.pepOrderRow.holds Try.pinned (OpenSpec.ofChange Rows.pepOrderSpec) :=
  OpenClaim.holds_of_wide 3 Try.f3 rfl rfl rfl rfl rfl rfl rfl ⟨rfl, rfl, rfl, rfl, rfl⟩ rfl rfl rfl rfl rfl (by kernel_rfl) Try.func3 (by kernel_rfl)
    (of_decide_eq_true (by kernel_rfl)) (by unfold Func.isWrapper; first | (rw [if_pos (by decide +kernel)]; kernel_rfl) | (rw [if_neg (by decide +kernel)]; exact ⟨rfl, rfl⟩))
    (fun os started H enc _ => lifted os started H enc)
end PepOrderP

theorem pepOrder_holds : Rows.PepOrderSaid := PepOrderP.over
#print axioms pepOrder_holds
end Go.Proofs.Ytagnikhkmaplpaa
