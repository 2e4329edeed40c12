/-
  Walks: whether a clause is not met. · Plain: clauses that are read are good. · Walks: who lets pre-releases in.
-/
import Derived.Test.YtabmfdedbpmfmaaGreatBHw
import Derived.Test.YtabmfdedbpmfmaaGreatBIa
import Derived.Test.YtabmfdedbpmfmaaGreatBHf
import Derived.Test.YtabmfdedbpmfmaaGreatBGn
import Derived.Test.YtabmfdedbpmfmaaGreatBGw
namespace Go.Proofs.YtabmfdedbpmfmaaGreat
open Go.RowKit Go.Shelf
set_option linter.unusedVariables false

set_option maxRecDepth 100000 in
set_option maxHeartbeats 4000000 in
theorem want1_0 (x y : PepL) (r1 r2 q1 q2 : Option Addr) (c1 c2 d1 d2 : Nat) (t u sg : ByteArray) (st su o R : Bool) (fr : Value) (a b er : Int) (p : Nat) (w : World) (hp : w.heap[p]? = some (.cells #[.string (ofL x.ep), .slice r1 x.rel.length c1, .int .u8 x.c, .string (ofL x.n), .bool x.b, .string (ofL x.m), .bool x.d, .string (ofL x.k), .slice q1 x.loc.length d1, .string t, .bool st] 59 (0, 0)))
    (HH : ∀ W, Below w.heap.size w W → Calls Tryz.prog 150 #[.agg #[.string (ofL x.ep), .slice r1 x.rel.length c1, .int .u8 x.c, .string (ofL x.n), .bool x.b, .string (ofL x.m), .bool x.d, .string (ofL x.k), .slice q1 x.loc.length d1, .string t, .bool st], .agg #[.string (ofL y.ep), .slice r2 y.rel.length c2, .int .u8 y.c, .string (ofL y.n), .bool y.b, .string (ofL y.m), .bool y.d, .string (ofL y.k), .slice q2 y.loc.length d2, .string u, .bool su]] W fun e W' => e = .returned (.bool R) ∧ Below W.heap.size W W') :
    Calls Tryz.prog 79 #[.agg #[.string sg, fr, .func (.func 150) #[] #[], .bool o, .string (ofL y.ep), .slice r2 y.rel.length c2, .int .u8 y.c, .string (ofL y.n), .bool y.b, .string (ofL y.m), .bool y.d, .string (ofL y.k), .slice q2 y.loc.length d2, .string u, .bool su, .int .i64 a, .int .i64 b, .int .i64 er], .pointer (some ⟨p, 0, none⟩)] w fun e w' => e = .returned (.bool (!R)) ∧ Below w.heap.size w w' := by
  have n0 := World.alloc_heap_new w (.cells #[.string sg, fr, .func (.func 150) #[] #[], .bool o, .string (ofL y.ep), .slice r2 y.rel.length c2, .int .u8 y.c, .string (ofL y.n), .bool y.b, .string (ofL y.m), .bool y.d, .string (ofL y.k), .slice q2 y.loc.length d2, .string u, .bool su, .int .i64 a, .int .i64 b, .int .i64 er] 61)
  have hal : Below w.heap.size w (w.alloc (.cells #[.string sg, fr, .func (.func 150) #[] #[], .bool o, .string (ofL y.ep), .slice r2 y.rel.length c2, .int .u8 y.c, .string (ofL y.n), .bool y.b, .string (ofL y.m), .bool y.d, .string (ofL y.k), .slice q2 y.loc.length d2, .string u, .bool su, .int .i64 a, .int .i64 b, .int .i64 er] 61)) := (Below.refl _ w).alloc (Nat.le_refl _) _
  have hpl := (Array.getElem?_eq_some_iff.1 hp).1
  have hp1 := (hal.block p hpl).trans hp
  have HC := hide (HH _ hal)
  have HA := hide hal
  obtain ⟨s0, s1, s2, s3, s4, s5, s6, s7, s8, s9, s10, _⟩ := seen11v hp1
  obtain ⟨x0, x1, x2, x3, x4, x5, x6, x7, x8, x9, x10, x11, x12, x13, x14, x15, x16, x17, _⟩ := seen18v n0
  clear n0 hal hp hp1 HH hpl
  go_enter Tryz.func79, Tryz.ntmps79
  go_wp2_with fail
  refine (HC.out).mono ?_
  rintro e w2 ⟨rfl, b2⟩
  go_wp2_with fail
  go_ret
  exact ⟨rfl, HA.out.trans (b2.mono HA.out.size)⟩
set_option maxRecDepth 100000 in
set_option maxHeartbeats 4000000 in
theorem want1_1 (x y : PepL) (r1 r2 q1 q2 : Option Addr) (c1 c2 d1 d2 : Nat) (t u sg : ByteArray) (st su o R : Bool) (fr : Value) (a b er : Int) (p : Nat) (w : World) (hp : w.heap[p]? = some (.cells #[.string (ofL x.ep), .slice r1 x.rel.length c1, .int .u8 x.c, .string (ofL x.n), .bool x.b, .string (ofL x.m), .bool x.d, .string (ofL x.k), .slice q1 x.loc.length d1, .string t, .bool st] 59 (0, 0)))
    (HH : ∀ W, Below w.heap.size w W → Calls Tryz.prog 152 #[.agg #[.string (ofL x.ep), .slice r1 x.rel.length c1, .int .u8 x.c, .string (ofL x.n), .bool x.b, .string (ofL x.m), .bool x.d, .string (ofL x.k), .slice q1 x.loc.length d1, .string t, .bool st], .agg #[.string (ofL y.ep), .slice r2 y.rel.length c2, .int .u8 y.c, .string (ofL y.n), .bool y.b, .string (ofL y.m), .bool y.d, .string (ofL y.k), .slice q2 y.loc.length d2, .string u, .bool su]] W fun e W' => e = .returned (.bool R) ∧ Below W.heap.size W W') :
    Calls Tryz.prog 79 #[.agg #[.string sg, fr, .func (.func 152) #[] #[], .bool o, .string (ofL y.ep), .slice r2 y.rel.length c2, .int .u8 y.c, .string (ofL y.n), .bool y.b, .string (ofL y.m), .bool y.d, .string (ofL y.k), .slice q2 y.loc.length d2, .string u, .bool su, .int .i64 a, .int .i64 b, .int .i64 er], .pointer (some ⟨p, 0, none⟩)] w fun e w' => e = .returned (.bool (!R)) ∧ Below w.heap.size w w' := by
  have n0 := World.alloc_heap_new w (.cells #[.string sg, fr, .func (.func 152) #[] #[], .bool o, .string (ofL y.ep), .slice r2 y.rel.length c2, .int .u8 y.c, .string (ofL y.n), .bool y.b, .string (ofL y.m), .bool y.d, .string (ofL y.k), .slice q2 y.loc.length d2, .string u, .bool su, .int .i64 a, .int .i64 b, .int .i64 er] 61)
  have hal : Below w.heap.size w (w.alloc (.cells #[.string sg, fr, .func (.func 152) #[] #[], .bool o, .string (ofL y.ep), .slice r2 y.rel.length c2, .int .u8 y.c, .string (ofL y.n), .bool y.b, .string (ofL y.m), .bool y.d, .string (ofL y.k), .slice q2 y.loc.length d2, .string u, .bool su, .int .i64 a, .int .i64 b, .int .i64 er] 61)) := (Below.refl _ w).alloc (Nat.le_refl _) _
  have hpl := (Array.getElem?_eq_some_iff.1 hp).1
  have hp1 := (hal.block p hpl).trans hp
  have HC := hide (HH _ hal)
  have HA := hide hal
  obtain ⟨s0, s1, s2, s3, s4, s5, s6, s7, s8, s9, s10, _⟩ := seen11v hp1
  obtain ⟨x0, x1, x2, x3, x4, x5, x6, x7, x8, x9, x10, x11, x12, x13, x14, x15, x16, x17, _⟩ := seen18v n0
  clear n0 hal hp hp1 HH hpl
  go_enter Tryz.func79, Tryz.ntmps79
  go_wp2_with fail
  refine (HC.out).mono ?_
  rintro e w2 ⟨rfl, b2⟩
  go_wp2_with fail
  go_ret
  exact ⟨rfl, HA.out.trans (b2.mono HA.out.size)⟩
set_option maxRecDepth 100000 in
set_option maxHeartbeats 4000000 in
theorem want1_2 (x y : PepL) (r1 r2 q1 q2 : Option Addr) (c1 c2 d1 d2 : Nat) (t u sg : ByteArray) (st su o R : Bool) (fr : Value) (a b er : Int) (p : Nat) (w : World) (hp : w.heap[p]? = some (.cells #[.string (ofL x.ep), .slice r1 x.rel.length c1, .int .u8 x.c, .string (ofL x.n), .bool x.b, .string (ofL x.m), .bool x.d, .string (ofL x.k), .slice q1 x.loc.length d1, .string t, .bool st] 59 (0, 0)))
    (HH : ∀ W, Below w.heap.size w W → Calls Tryz.prog 153 #[.agg #[.string (ofL x.ep), .slice r1 x.rel.length c1, .int .u8 x.c, .string (ofL x.n), .bool x.b, .string (ofL x.m), .bool x.d, .string (ofL x.k), .slice q1 x.loc.length d1, .string t, .bool st], .agg #[.string (ofL y.ep), .slice r2 y.rel.length c2, .int .u8 y.c, .string (ofL y.n), .bool y.b, .string (ofL y.m), .bool y.d, .string (ofL y.k), .slice q2 y.loc.length d2, .string u, .bool su]] W fun e W' => e = .returned (.bool R) ∧ Below W.heap.size W W') :
    Calls Tryz.prog 79 #[.agg #[.string sg, fr, .func (.func 153) #[] #[], .bool o, .string (ofL y.ep), .slice r2 y.rel.length c2, .int .u8 y.c, .string (ofL y.n), .bool y.b, .string (ofL y.m), .bool y.d, .string (ofL y.k), .slice q2 y.loc.length d2, .string u, .bool su, .int .i64 a, .int .i64 b, .int .i64 er], .pointer (some ⟨p, 0, none⟩)] w fun e w' => e = .returned (.bool (!R)) ∧ Below w.heap.size w w' := by
  have n0 := World.alloc_heap_new w (.cells #[.string sg, fr, .func (.func 153) #[] #[], .bool o, .string (ofL y.ep), .slice r2 y.rel.length c2, .int .u8 y.c, .string (ofL y.n), .bool y.b, .string (ofL y.m), .bool y.d, .string (ofL y.k), .slice q2 y.loc.length d2, .string u, .bool su, .int .i64 a, .int .i64 b, .int .i64 er] 61)
  have hal : Below w.heap.size w (w.alloc (.cells #[.string sg, fr, .func (.func 153) #[] #[], .bool o, .string (ofL y.ep), .slice r2 y.rel.length c2, .int .u8 y.c, .string (ofL y.n), .bool y.b, .string (ofL y.m), .bool y.d, .string (ofL y.k), .slice q2 y.loc.length d2, .string u, .bool su, .int .i64 a, .int .i64 b, .int .i64 er] 61)) := (Below.refl _ w).alloc (Nat.le_refl _) _
  have hpl := (Array.getElem?_eq_some_iff.1 hp).1
  have hp1 := (hal.block p hpl).trans hp
  have HC := hide (HH _ hal)
  have HA := hide hal
  obtain ⟨s0, s1, s2, s3, s4, s5, s6, s7, s8, s9, s10, _⟩ := seen11v hp1
  obtain ⟨x0, x1, x2, x3, x4, x5, x6, x7, x8, x9, x10, x11, x12, x13, x14, x15, x16, x17, _⟩ := seen18v n0
  clear n0 hal hp hp1 HH hpl
  go_enter Tryz.func79, Tryz.ntmps79
  go_wp2_with fail
  refine (HC.out).mono ?_
  rintro e w2 ⟨rfl, b2⟩
  go_wp2_with fail
  go_ret
  exact ⟨rfl, HA.out.trans (b2.mono HA.out.size)⟩
set_option maxRecDepth 100000 in
set_option maxHeartbeats 4000000 in
theorem want1_3 (x y : PepL) (r1 r2 q1 q2 : Option Addr) (c1 c2 d1 d2 : Nat) (t u sg : ByteArray) (st su o R : Bool) (fr : Value) (a b er : Int) (p : Nat) (w : World) (hp : w.heap[p]? = some (.cells #[.string (ofL x.ep), .slice r1 x.rel.length c1, .int .u8 x.c, .string (ofL x.n), .bool x.b, .string (ofL x.m), .bool x.d, .string (ofL x.k), .slice q1 x.loc.length d1, .string t, .bool st] 59 (0, 0)))
    (HH : ∀ W, Below w.heap.size w W → Calls Tryz.prog 155 #[.agg #[.string (ofL x.ep), .slice r1 x.rel.length c1, .int .u8 x.c, .string (ofL x.n), .bool x.b, .string (ofL x.m), .bool x.d, .string (ofL x.k), .slice q1 x.loc.length d1, .string t, .bool st], .agg #[.string (ofL y.ep), .slice r2 y.rel.length c2, .int .u8 y.c, .string (ofL y.n), .bool y.b, .string (ofL y.m), .bool y.d, .string (ofL y.k), .slice q2 y.loc.length d2, .string u, .bool su]] W fun e W' => e = .returned (.bool R) ∧ Below W.heap.size W W') :
    Calls Tryz.prog 79 #[.agg #[.string sg, fr, .func (.func 155) #[] #[], .bool o, .string (ofL y.ep), .slice r2 y.rel.length c2, .int .u8 y.c, .string (ofL y.n), .bool y.b, .string (ofL y.m), .bool y.d, .string (ofL y.k), .slice q2 y.loc.length d2, .string u, .bool su, .int .i64 a, .int .i64 b, .int .i64 er], .pointer (some ⟨p, 0, none⟩)] w fun e w' => e = .returned (.bool (!R)) ∧ Below w.heap.size w w' := by
  have n0 := World.alloc_heap_new w (.cells #[.string sg, fr, .func (.func 155) #[] #[], .bool o, .string (ofL y.ep), .slice r2 y.rel.length c2, .int .u8 y.c, .string (ofL y.n), .bool y.b, .string (ofL y.m), .bool y.d, .string (ofL y.k), .slice q2 y.loc.length d2, .string u, .bool su, .int .i64 a, .int .i64 b, .int .i64 er] 61)
  have hal : Below w.heap.size w (w.alloc (.cells #[.string sg, fr, .func (.func 155) #[] #[], .bool o, .string (ofL y.ep), .slice r2 y.rel.length c2, .int .u8 y.c, .string (ofL y.n), .bool y.b, .string (ofL y.m), .bool y.d, .string (ofL y.k), .slice q2 y.loc.length d2, .string u, .bool su, .int .i64 a, .int .i64 b, .int .i64 er] 61)) := (Below.refl _ w).alloc (Nat.le_refl _) _
  have hpl := (Array.getElem?_eq_some_iff.1 hp).1
  have hp1 := (hal.block p hpl).trans hp
  have HC := hide (HH _ hal)
  have HA := hide hal
  obtain ⟨s0, s1, s2, s3, s4, s5, s6, s7, s8, s9, s10, _⟩ := seen11v hp1
  obtain ⟨x0, x1, x2, x3, x4, x5, x6, x7, x8, x9, x10, x11, x12, x13, x14, x15, x16, x17, _⟩ := seen18v n0
  clear n0 hal hp hp1 HH hpl
  go_enter Tryz.func79, Tryz.ntmps79
  go_wp2_with fail
  refine (HC.out).mono ?_
  rintro e w2 ⟨rfl, b2⟩
  go_wp2_with fail
  go_ret
  exact ⟨rfl, HA.out.trans (b2.mono HA.out.size)⟩
set_option maxRecDepth 100000 in
set_option maxHeartbeats 4000000 in
theorem want1_4 (x y : PepL) (r1 r2 q1 q2 : Option Addr) (c1 c2 d1 d2 : Nat) (t u sg : ByteArray) (st su o R : Bool) (fr : Value) (a b er : Int) (p : Nat) (w : World) (hp : w.heap[p]? = some (.cells #[.string (ofL x.ep), .slice r1 x.rel.length c1, .int .u8 x.c, .string (ofL x.n), .bool x.b, .string (ofL x.m), .bool x.d, .string (ofL x.k), .slice q1 x.loc.length d1, .string t, .bool st] 59 (0, 0)))
    (HH : ∀ W, Below w.heap.size w W → Calls Tryz.prog 156 #[.agg #[.string (ofL x.ep), .slice r1 x.rel.length c1, .int .u8 x.c, .string (ofL x.n), .bool x.b, .string (ofL x.m), .bool x.d, .string (ofL x.k), .slice q1 x.loc.length d1, .string t, .bool st], .agg #[.string (ofL y.ep), .slice r2 y.rel.length c2, .int .u8 y.c, .string (ofL y.n), .bool y.b, .string (ofL y.m), .bool y.d, .string (ofL y.k), .slice q2 y.loc.length d2, .string u, .bool su]] W fun e W' => e = .returned (.bool R) ∧ Below W.heap.size W W') :
    Calls Tryz.prog 79 #[.agg #[.string sg, fr, .func (.func 156) #[] #[], .bool o, .string (ofL y.ep), .slice r2 y.rel.length c2, .int .u8 y.c, .string (ofL y.n), .bool y.b, .string (ofL y.m), .bool y.d, .string (ofL y.k), .slice q2 y.loc.length d2, .string u, .bool su, .int .i64 a, .int .i64 b, .int .i64 er], .pointer (some ⟨p, 0, none⟩)] w fun e w' => e = .returned (.bool (!R)) ∧ Below w.heap.size w w' := by
  have n0 := World.alloc_heap_new w (.cells #[.string sg, fr, .func (.func 156) #[] #[], .bool o, .string (ofL y.ep), .slice r2 y.rel.length c2, .int .u8 y.c, .string (ofL y.n), .bool y.b, .string (ofL y.m), .bool y.d, .string (ofL y.k), .slice q2 y.loc.length d2, .string u, .bool su, .int .i64 a, .int .i64 b, .int .i64 er] 61)
  have hal : Below w.heap.size w (w.alloc (.cells #[.string sg, fr, .func (.func 156) #[] #[], .bool o, .string (ofL y.ep), .slice r2 y.rel.length c2, .int .u8 y.c, .string (ofL y.n), .bool y.b, .string (ofL y.m), .bool y.d, .string (ofL y.k), .slice q2 y.loc.length d2, .string u, .bool su, .int .i64 a, .int .i64 b, .int .i64 er] 61)) := (Below.refl _ w).alloc (Nat.le_refl _) _
  have hpl := (Array.getElem?_eq_some_iff.1 hp).1
  have hp1 := (hal.block p hpl).trans hp
  have HC := hide (HH _ hal)
  have HA := hide hal
  obtain ⟨s0, s1, s2, s3, s4, s5, s6, s7, s8, s9, s10, _⟩ := seen11v hp1
  obtain ⟨x0, x1, x2, x3, x4, x5, x6, x7, x8, x9, x10, x11, x12, x13, x14, x15, x16, x17, _⟩ := seen18v n0
  clear n0 hal hp hp1 HH hpl
  go_enter Tryz.func79, Tryz.ntmps79
  go_wp2_with fail
  refine (HC.out).mono ?_
  rintro e w2 ⟨rfl, b2⟩
  go_wp2_with fail
  go_ret
  exact ⟨rfl, HA.out.trans (b2.mono HA.out.size)⟩
set_option maxRecDepth 100000 in
set_option maxHeartbeats 4000000 in
theorem want1_5 (x y : PepL) (r1 r2 q1 q2 : Option Addr) (c1 c2 d1 d2 : Nat) (t u sg : ByteArray) (st su o R : Bool) (fr : Value) (a b er : Int) (p : Nat) (w : World) (hp : w.heap[p]? = some (.cells #[.string (ofL x.ep), .slice r1 x.rel.length c1, .int .u8 x.c, .string (ofL x.n), .bool x.b, .string (ofL x.m), .bool x.d, .string (ofL x.k), .slice q1 x.loc.length d1, .string t, .bool st] 59 (0, 0)))
    (HH : ∀ W, Below w.heap.size w W → Calls Tryz.prog 157 #[.agg #[.string (ofL x.ep), .slice r1 x.rel.length c1, .int .u8 x.c, .string (ofL x.n), .bool x.b, .string (ofL x.m), .bool x.d, .string (ofL x.k), .slice q1 x.loc.length d1, .string t, .bool st], .agg #[.string (ofL y.ep), .slice r2 y.rel.length c2, .int .u8 y.c, .string (ofL y.n), .bool y.b, .string (ofL y.m), .bool y.d, .string (ofL y.k), .slice q2 y.loc.length d2, .string u, .bool su]] W fun e W' => e = .returned (.bool R) ∧ Below W.heap.size W W') :
    Calls Tryz.prog 79 #[.agg #[.string sg, fr, .func (.func 157) #[] #[], .bool o, .string (ofL y.ep), .slice r2 y.rel.length c2, .int .u8 y.c, .string (ofL y.n), .bool y.b, .string (ofL y.m), .bool y.d, .string (ofL y.k), .slice q2 y.loc.length d2, .string u, .bool su, .int .i64 a, .int .i64 b, .int .i64 er], .pointer (some ⟨p, 0, none⟩)] w fun e w' => e = .returned (.bool (!R)) ∧ Below w.heap.size w w' := by
  have n0 := World.alloc_heap_new w (.cells #[.string sg, fr, .func (.func 157) #[] #[], .bool o, .string (ofL y.ep), .slice r2 y.rel.length c2, .int .u8 y.c, .string (ofL y.n), .bool y.b, .string (ofL y.m), .bool y.d, .string (ofL y.k), .slice q2 y.loc.length d2, .string u, .bool su, .int .i64 a, .int .i64 b, .int .i64 er] 61)
  have hal : Below w.heap.size w (w.alloc (.cells #[.string sg, fr, .func (.func 157) #[] #[], .bool o, .string (ofL y.ep), .slice r2 y.rel.length c2, .int .u8 y.c, .string (ofL y.n), .bool y.b, .string (ofL y.m), .bool y.d, .string (ofL y.k), .slice q2 y.loc.length d2, .string u, .bool su, .int .i64 a, .int .i64 b, .int .i64 er] 61)) := (Below.refl _ w).alloc (Nat.le_refl _) _
  have hpl := (Array.getElem?_eq_some_iff.1 hp).1
  have hp1 := (hal.block p hpl).trans hp
  have HC := hide (HH _ hal)
  have HA := hide hal
  obtain ⟨s0, s1, s2, s3, s4, s5, s6, s7, s8, s9, s10, _⟩ := seen11v hp1
  obtain ⟨x0, x1, x2, x3, x4, x5, x6, x7, x8, x9, x10, x11, x12, x13, x14, x15, x16, x17, _⟩ := seen18v n0
  clear n0 hal hp hp1 HH hpl
  go_enter Tryz.func79, Tryz.ntmps79
  go_wp2_with fail
  refine (HC.out).mono ?_
  rintro e w2 ⟨rfl, b2⟩
  go_wp2_with fail
  go_ret
  exact ⟨rfl, HA.out.trans (b2.mono HA.out.size)⟩
set_option maxRecDepth 100000 in
set_option maxHeartbeats 4000000 in
theorem want1_6 (x y : PepL) (r1 r2 q1 q2 : Option Addr) (c1 c2 d1 d2 : Nat) (t u sg : ByteArray) (st su o R : Bool) (fr : Value) (a b er : Int) (p : Nat) (w : World) (hp : w.heap[p]? = some (.cells #[.string (ofL x.ep), .slice r1 x.rel.length c1, .int .u8 x.c, .string (ofL x.n), .bool x.b, .string (ofL x.m), .bool x.d, .string (ofL x.k), .slice q1 x.loc.length d1, .string t, .bool st] 59 (0, 0)))
    (HH : ∀ W, Below w.heap.size w W → Calls Tryz.prog 158 #[.agg #[.string (ofL x.ep), .slice r1 x.rel.length c1, .int .u8 x.c, .string (ofL x.n), .bool x.b, .string (ofL x.m), .bool x.d, .string (ofL x.k), .slice q1 x.loc.length d1, .string t, .bool st], .agg #[.string (ofL y.ep), .slice r2 y.rel.length c2, .int .u8 y.c, .string (ofL y.n), .bool y.b, .string (ofL y.m), .bool y.d, .string (ofL y.k), .slice q2 y.loc.length d2, .string u, .bool su]] W fun e W' => e = .returned (.bool R) ∧ Below W.heap.size W W') :
    Calls Tryz.prog 79 #[.agg #[.string sg, fr, .func (.func 158) #[] #[], .bool o, .string (ofL y.ep), .slice r2 y.rel.length c2, .int .u8 y.c, .string (ofL y.n), .bool y.b, .string (ofL y.m), .bool y.d, .string (ofL y.k), .slice q2 y.loc.length d2, .string u, .bool su, .int .i64 a, .int .i64 b, .int .i64 er], .pointer (some ⟨p, 0, none⟩)] w fun e w' => e = .returned (.bool (!R)) ∧ Below w.heap.size w w' := by
  have n0 := World.alloc_heap_new w (.cells #[.string sg, fr, .func (.func 158) #[] #[], .bool o, .string (ofL y.ep), .slice r2 y.rel.length c2, .int .u8 y.c, .string (ofL y.n), .bool y.b, .string (ofL y.m), .bool y.d, .string (ofL y.k), .slice q2 y.loc.length d2, .string u, .bool su, .int .i64 a, .int .i64 b, .int .i64 er] 61)
  have hal : Below w.heap.size w (w.alloc (.cells #[.string sg, fr, .func (.func 158) #[] #[], .bool o, .string (ofL y.ep), .slice r2 y.rel.length c2, .int .u8 y.c, .string (ofL y.n), .bool y.b, .string (ofL y.m), .bool y.d, .string (ofL y.k), .slice q2 y.loc.length d2, .string u, .bool su, .int .i64 a, .int .i64 b, .int .i64 er] 61)) := (Below.refl _ w).alloc (Nat.le_refl _) _
  have hpl := (Array.getElem?_eq_some_iff.1 hp).1
  have hp1 := (hal.block p hpl).trans hp
  have HC := hide (HH _ hal)
  have HA := hide hal
  obtain ⟨s0, s1, s2, s3, s4, s5, s6, s7, s8, s9, s10, _⟩ := seen11v hp1
  obtain ⟨x0, x1, x2, x3, x4, x5, x6, x7, x8, x9, x10, x11, x12, x13, x14, x15, x16, x17, _⟩ := seen18v n0
  clear n0 hal hp hp1 HH hpl
  go_enter Tryz.func79, Tryz.ntmps79
  go_wp2_with fail
  refine (HC.out).mono ?_
  rintro e w2 ⟨rfl, b2⟩
  go_wp2_with fail
  go_ret
  exact ⟨rfl, HA.out.trans (b2.mono HA.out.size)⟩
set_option maxRecDepth 100000 in
set_option maxHeartbeats 4000000 in
theorem want1_7 (x y : PepL) (r1 r2 q1 q2 : Option Addr) (c1 c2 d1 d2 : Nat) (t u sg : ByteArray) (st su o R : Bool) (fr : Value) (a b er : Int) (p : Nat) (w : World) (hp : w.heap[p]? = some (.cells #[.string (ofL x.ep), .slice r1 x.rel.length c1, .int .u8 x.c, .string (ofL x.n), .bool x.b, .string (ofL x.m), .bool x.d, .string (ofL x.k), .slice q1 x.loc.length d1, .string t, .bool st] 59 (0, 0)))
    (HH : ∀ W, Below w.heap.size w W → Calls Tryz.prog 160 #[.agg #[.string (ofL x.ep), .slice r1 x.rel.length c1, .int .u8 x.c, .string (ofL x.n), .bool x.b, .string (ofL x.m), .bool x.d, .string (ofL x.k), .slice q1 x.loc.length d1, .string t, .bool st], .agg #[.string (ofL y.ep), .slice r2 y.rel.length c2, .int .u8 y.c, .string (ofL y.n), .bool y.b, .string (ofL y.m), .bool y.d, .string (ofL y.k), .slice q2 y.loc.length d2, .string u, .bool su]] W fun e W' => e = .returned (.bool R) ∧ Below W.heap.size W W') :
    Calls Tryz.prog 79 #[.agg #[.string sg, fr, .func (.func 160) #[] #[], .bool o, .string (ofL y.ep), .slice r2 y.rel.length c2, .int .u8 y.c, .string (ofL y.n), .bool y.b, .string (ofL y.m), .bool y.d, .string (ofL y.k), .slice q2 y.loc.length d2, .string u, .bool su, .int .i64 a, .int .i64 b, .int .i64 er], .pointer (some ⟨p, 0, none⟩)] w fun e w' => e = .returned (.bool (!R)) ∧ Below w.heap.size w w' := by
  have n0 := World.alloc_heap_new w (.cells #[.string sg, fr, .func (.func 160) #[] #[], .bool o, .string (ofL y.ep), .slice r2 y.rel.length c2, .int .u8 y.c, .string (ofL y.n), .bool y.b, .string (ofL y.m), .bool y.d, .string (ofL y.k), .slice q2 y.loc.length d2, .string u, .bool su, .int .i64 a, .int .i64 b, .int .i64 er] 61)
  have hal : Below w.heap.size w (w.alloc (.cells #[.string sg, fr, .func (.func 160) #[] #[], .bool o, .string (ofL y.ep), .slice r2 y.rel.length c2, .int .u8 y.c, .string (ofL y.n), .bool y.b, .string (ofL y.m), .bool y.d, .string (ofL y.k), .slice q2 y.loc.length d2, .string u, .bool su, .int .i64 a, .int .i64 b, .int .i64 er] 61)) := (Below.refl _ w).alloc (Nat.le_refl _) _
  have hpl := (Array.getElem?_eq_some_iff.1 hp).1
  have hp1 := (hal.block p hpl).trans hp
  have HC := hide (HH _ hal)
  have HA := hide hal
  obtain ⟨s0, s1, s2, s3, s4, s5, s6, s7, s8, s9, s10, _⟩ := seen11v hp1
  obtain ⟨x0, x1, x2, x3, x4, x5, x6, x7, x8, x9, x10, x11, x12, x13, x14, x15, x16, x17, _⟩ := seen18v n0
  clear n0 hal hp hp1 HH hpl
  go_enter Tryz.func79, Tryz.ntmps79
  go_wp2_with fail
  refine (HC.out).mono ?_
  rintro e w2 ⟨rfl, b2⟩
  go_wp2_with fail
  go_ret
  exact ⟨rfl, HA.out.trans (b2.mono HA.out.size)⟩

end Go.Proofs.YtabmfdedbpmfmaaGreat

namespace Go.Proofs.YtabmfdedbpmfmaaGreat
open Go.RowKit Go.Shelf
set_option linter.unusedVariables false

structure ClOK (c : Cl) : Prop where
  k8 : c.k < 8
  tl : c.t.length ≤ 256
  ver : c.k ≠ 7 → okP c.t = true ∧ c.x = pepOf (lowL c.t)
  two : c.k = 0 → 2 ≤ c.x.rel.length
  pub : c.k ≠ 1 → c.k ≠ 2 → c.k ≠ 7 → pubB c.x = true
  bare : c.st = true → (c.k = 1 ∨ c.k = 2) ∧ bareB c.x = true
  txt : c.k = 7 → c.x = pep0 ∧ badN c.t = c.t.length
theorem only_ok {may : PepL → Bool} {u t : List UInt8} {x : PepL} {st : Bool} (h : onlyW may u = .ok x t st) : okP u = true ∧ may (pepOf (lowL u)) = true ∧ x = pepOf (lowL u) ∧ t = u ∧ st = false := by
  unfold onlyW at h
  cases ho : okP u
  · rw [ho, if_neg (by simp)] at h; cases h
  · rw [ho, if_pos rfl] at h
    split at h
    · cases h; exact ⟨rfl, by assumption, rfl, rfl, rfl⟩
    · cases h
theorem badN_all : ∀ l : List UInt8, badN l ≤ l.length
  | [] => Nat.le_refl _
  | c :: r => by have := badN_all r; unfold badN; split <;> simp <;> omega
theorem wdR_ok {k : Nat} (hk : k < 8) {u t : List UInt8} {x : PepL} {st : Bool} (hu : u.length ≤ 256) (h : wdR k u = .ok x t st) (s e : Nat) (er : Int) : ClOK ⟨k, x, t, st, s, e, er⟩ := by
  unfold wdR at h
  split at h
  · rename_i h0
    obtain ⟨h1, h2, h3, h4, h5⟩ := only_ok h
    simp only [Bool.and_eq_true, decide_eq_true_eq] at h2
    subst h4 h5 h0
    exact ⟨hk, hu, fun _ => ⟨h1, h3⟩, fun _ => (by dsimp only; rw [h3]; omega), fun _ _ _ => (by dsimp only; rw [h3]; exact h2.1), fun h => (by cases h), fun h => (by cases h)⟩
  · rename_i h0
    split at h
    · rename_i h12
      split at h
      · cases hq : onlyW bareB (u.take (u.length - 2)) with
        | bad e2 p2 => rw [hq] at h; cases h
        | ok x2 t2 st2 =>
          rw [hq] at h
          cases h
          obtain ⟨h1, h2, h3, h4, h5⟩ := only_ok hq
          refine ⟨hk, (by dsimp only; rw [h4, List.length_take]; omega), fun _ => (by dsimp only; rw [h4]; exact ⟨h1, h3⟩), fun h => absurd h h0, fun a b _ => (by rcases h12 with h12 | h12 <;> contradiction), fun _ => ⟨h12, by dsimp only; rw [h3]; exact h2⟩, fun h => (by dsimp only at h; omega)⟩
      · obtain ⟨h1, h2, h3, h4, h5⟩ := only_ok h
        subst h4 h5
        exact ⟨hk, hu, fun _ => ⟨h1, h3⟩, fun h => absurd h h0, fun a b _ => (by rcases h12 with h12 | h12 <;> contradiction), fun h => (by cases h), fun h => (by dsimp only at h; omega)⟩
    · rename_i h12
      split at h
      · rename_i h7
        unfold textW at h
        split at h
        · cases h
        · rename_i hb
          cases h
          have := badN_all u
          exact ⟨hk, hu, fun h => absurd h7 h, fun h => absurd h h0, fun _ _ h => absurd h7 h, fun h => (by cases h), fun _ => ⟨rfl, by dsimp only; omega⟩⟩
      · rename_i h7
        obtain ⟨h1, h2, h3, h4, h5⟩ := only_ok h
        subst h4 h5
        exact ⟨hk, hu, fun _ => ⟨h1, h3⟩, fun h => absurd h h0, fun _ _ _ => (by dsimp only; rw [h3]; exact h2), fun h => (by cases h), fun h => absurd h h7⟩
theorem clP_good_ok {l : List UInt8} (hl : l.length ≤ 256) {a : Nat} (h : (clP l a).er = 0) : ClOK (clP l a) := by
  have hop := opGo_le (l.drop a) 8 (by omega)
  unfold clP at h ⊢
  split
  · rename_i h8
    rw [if_pos h8] at h
    exfalso
    dsimp only at h
    unfold misL at h
    split at h <;> cases h
  · rename_i h8
    rw [if_neg h8] at h
    have hk : (opGo (l.drop a) 8).1 < 8 := by omega
    generalize (opGo (l.drop a) 8).1 = k at *
    cases hr : rwL l k (skL l (a + (sgn k).length)) with
    | mk R z =>
      rw [hr] at h
      cases R with
      | bad er p =>
        exfalso
        exact rwL_ne hr h
      | ok x t st =>
        dsimp only
        unfold rwL at hr
        split at hr
        · cases hr
        · cases hq : wdR k (seg l (skL l (a + (sgn k).length)) (skL l (a + (sgn k).length) + wdN (l.drop (skL l (a + (sgn k).length))))) with
          | bad er p => rw [hq] at hr; cases hr
          | ok x2 t2 st2 =>
            rw [hq] at hr
            cases hr
            exact wdR_ok hk (Nat.le_trans (seg_le l _ _) hl) hq _ _ _
theorem pyGo_ok {l : List UInt8} (hl : l.length ≤ 256) : ∀ n a acc, (∀ c ∈ acc, ClOK c) → ∀ c ∈ (pyGo l n a acc).2.2, ClOK c
  | 0, a, acc, h, c, hc => by unfold pyGo at hc; cases hc
  | n + 1, a, acc, h, c, hc => by
    unfold pyGo at hc
    split at hc
    · cases hc
    · split at hc
      · cases hc
      · rename_i he
        have he : (clP l (skL l a)).er = 0 := Classical.not_not.1 he
        have hall : ∀ c ∈ acc ++ [clP l (skL l a)], ClOK c := fun c hc => by
          rcases List.mem_append.1 hc with hc | hc
          · exact h c hc
          · simp at hc; subst hc; exact clP_good_ok hl he
        split at hc
        · exact pyGo_ok hl n _ _ hall c hc
        · exact hall c hc
theorem pyL_ok (l : List UInt8) : ∀ c ∈ (pyL l).2.2, ClOK c := by
  unfold pyL
  split
  · intro c hc; cases hc
  · rename_i hl
    split
    · intro c hc; cases hc
    · exact pyGo_ok (by omega) 33 0 [] (fun c hc => by cases hc)
def letsP (c : Cl) : Bool := opB c.k && preP c.x
def wantP (cs : List Cl) (u : List UInt8) : Bool :=
  okP u && (!(preP (pepOf (lowL u)) && !cs.any letsP) && !cs.any (fun c => !holdP c.k (pepOf (lowL u)) u c.x c.t c.st))

end Go.Proofs.YtabmfdedbpmfmaaGreat

namespace Go.Proofs.YtabmfdedbpmfmaaGreat
open Go.RowKit Go.Shelf
set_option linter.unusedVariables false

set_option maxRecDepth 100000 in
set_option maxHeartbeats 4000000 in
theorem letsPre_any (x : PepL) (r1 q1 : Option Addr) (c1 d1 : Nat) (sg t : ByteArray) (f g : Value) (o st : Bool) (a b er : Int) (w : World) (rr : Txt w (.slice r1 x.rel.length c1) x.rel) (ll : Txt w (.slice q1 x.loc.length d1) x.loc) :
    Calls Tryz.prog 46 #[.agg #[.string sg, f, g, .bool o, .string (ofL x.ep), .slice r1 x.rel.length c1, .int .u8 x.c, .string (ofL x.n), .bool x.b, .string (ofL x.m), .bool x.d, .string (ofL x.k), .slice q1 x.loc.length d1, .string t, .bool st, .int .i64 a, .int .i64 b, .int .i64 er]] w fun e w' => e = .returned (.bool (o && (x.c != 0 || x.d))) ∧ Below w.heap.size w w' := by
  have PX9 := hide (fun W h1 h2 => Pre_any x r1 q1 c1 d1 W h1 h2)
  have n0 := World.alloc_heap_new w (.cells #[.string sg, f, g, .bool o, .string (ofL x.ep), .slice r1 x.rel.length c1, .int .u8 x.c, .string (ofL x.n), .bool x.b, .string (ofL x.m), .bool x.d, .string (ofL x.k), .slice q1 x.loc.length d1, .string t, .bool st, .int .i64 a, .int .i64 b, .int .i64 er] 61)
  have hb : Below w.heap.size w (w.alloc (.cells #[.string sg, f, g, .bool o, .string (ofL x.ep), .slice r1 x.rel.length c1, .int .u8 x.c, .string (ofL x.n), .bool x.b, .string (ofL x.m), .bool x.d, .string (ofL x.k), .slice q1 x.loc.length d1, .string t, .bool st, .int .i64 a, .int .i64 b, .int .i64 er] 61)) := (Below.refl _ w).alloc (Nat.le_refl _) _
  have T1 := hide (rr.below hb)
  have T2 := hide (ll.below hb)
  obtain ⟨V, hV⟩ : ∃ V, w.alloc (.cells #[.string sg, f, g, .bool o, .string (ofL x.ep), .slice r1 x.rel.length c1, .int .u8 x.c, .string (ofL x.n), .bool x.b, .string (ofL x.m), .bool x.d, .string (ofL x.k), .slice q1 x.loc.length d1, .string t, .bool st, .int .i64 a, .int .i64 b, .int .i64 er] 61) = V := ⟨_, rfl⟩
  rw [hV] at n0 hb T1 T2
  have hsz : w.heap.size < V.heap.size := by rw [← hV]; simp
  obtain ⟨s0, s1, s2, s3, s4, s5, s6, s7, s8, s9, s10, s11, s12, s13, s14, s15, s16, s17, s_0, s_1, s_2, s_3, s_4, s_5, s_6, s_7, s_8, s_9, s_10, s_11, s_12, s_13, s_14, s_15, s_16, s_17⟩ := seen18v n0
  have N0 := hide n0
  clear n0 rr ll
  cases o
  · go_enter Tryz.func46, Tryz.ntmps46
    go_wp2_with fail
    go_ret
    exact ⟨rfl, hb⟩
  · go_enter Tryz.func46, Tryz.ntmps46
    go_wp2_with fail
    refine (PX9.out _ T1.out T2.out).mono ?_
    rintro e w5 ⟨rfl, b5⟩
    go_wp2_with fail
    go_ret
    exact ⟨by simp, hb.trans (b5.mono hb.size)⟩

end Go.Proofs.YtabmfdedbpmfmaaGreat
