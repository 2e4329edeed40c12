/-
  Walks: equal, unequal. · Walks: the program's Text, Order at any versions, Pre. · Walks: less. · Walks: more. · Walks: the same text.
-/
import Derived.Test.YtabmfdedbpmfmaaGreatBHz
import Derived.Test.YtabmfdedbpmfmaaGreatBHq
namespace Go.Proofs.YtabmfdedbpmfmaaGreat
open Go.RowKit Go.Shelf
set_option linter.unusedVariables false

set_option maxRecDepth 100000 in
set_option maxHeartbeats 4000000 in
theorem unequal_any (x y : PepL) (r1 r2 q1 q2 : Option Addr) (c1 c2 d1 d2 : Nat) (t u : ByteArray) (st su : Bool) (w : World) (ra : Txt w (.slice r1 x.rel.length c1) x.rel) (rb : Txt w (.slice r2 y.rel.length c2) y.rel) (la : Txt w (.slice q1 x.loc.length d1) x.loc) (lb : Txt w (.slice q2 y.loc.length d2) y.loc)
    (E : Bool) (EQ : ∀ W, Txt W (.slice r1 x.rel.length c1) x.rel → Txt W (.slice r2 y.rel.length c2) y.rel → Txt W (.slice q1 x.loc.length d1) x.loc → Txt W (.slice q2 y.loc.length d2) y.loc → Calls Tryz.prog 152 #[.agg #[.string (ofL x.ep), .slice r1 x.rel.length c1, .int .u8 x.c, .string (ofL x.n), .bool x.b, .string (ofL x.m), .bool x.d, .string (ofL x.k), .slice q1 x.loc.length d1, .string t, .bool st], .agg #[.string (ofL y.ep), .slice r2 y.rel.length c2, .int .u8 y.c, .string (ofL y.n), .bool y.b, .string (ofL y.m), .bool y.d, .string (ofL y.k), .slice q2 y.loc.length d2, .string u, .bool su]] W fun e W' => e = .returned (.bool E) ∧ Below W.heap.size W W') :
    Calls Tryz.prog 153 #[.agg #[.string (ofL x.ep), .slice r1 x.rel.length c1, .int .u8 x.c, .string (ofL x.n), .bool x.b, .string (ofL x.m), .bool x.d, .string (ofL x.k), .slice q1 x.loc.length d1, .string t, .bool st], .agg #[.string (ofL y.ep), .slice r2 y.rel.length c2, .int .u8 y.c, .string (ofL y.n), .bool y.b, .string (ofL y.m), .bool y.d, .string (ofL y.k), .slice q2 y.loc.length d2, .string u, .bool su]] w fun e w' => e = .returned (.bool (!E)) ∧ Below w.heap.size w w' := by
  have S0 := VB.start ra rb la lb t u st su
  have EQ := hide EQ
  clear ra rb la lb
  go_enter Tryz.func153, Tryz.ntmps153
  go_wp2_with fail
  generalize (w.alloc _).alloc _ = W0 at *
  obtain ⟨s0, s1, s2, s3, s4, s5, s6, s7, s8, s9, s10, _⟩ := seen11v S0.ea
  obtain ⟨v0, v1, v2, v3, v4, v5, v6, v7, v8, v9, v10, _⟩ := seen11v S0.eb
  go_wp2_with fail
  refine (EQ.out _ S0.ra S0.rb S0.la S0.lb).mono ?_
  rintro e w1 ⟨rfl, b1⟩
  have S1 := S0.next b1
  clear s0 s1 s2 s3 s4 s5 s6 s7 s8 s9 s10 v0 v1 v2 v3 v4 v5 v6 v7 v8 v9 v10 b1
  obtain ⟨s0, s1, s2, s3, s4, s5, s6, s7, s8, s9, s10, _⟩ := seen11v S1.ea
  obtain ⟨v0, v1, v2, v3, v4, v5, v6, v7, v8, v9, v10, _⟩ := seen11v S1.eb
  go_wp2_with fail
  go_ret
  exact ⟨rfl, S1.bel⟩
set_option maxRecDepth 100000 in
set_option maxHeartbeats 4000000 in
theorem equal_any (x y : PepL) (r1 r2 q1 q2 : Option Addr) (c1 c2 d1 d2 : Nat) (t u : ByteArray) (st su : Bool) (w : World) (ra : Txt w (.slice r1 x.rel.length c1) x.rel) (rb : Txt w (.slice r2 y.rel.length c2) y.rel) (la : Txt w (.slice q1 x.loc.length d1) x.loc) (lb : Txt w (.slice q2 y.loc.length d2) y.loc)
    (B : Bool) (O1 O2 : Int) (BG : ∀ W, Txt W (.slice r1 x.rel.length c1) x.rel → Txt W (.slice r2 y.rel.length c2) y.rel → Txt W (.slice q1 x.loc.length d1) x.loc → Txt W (.slice q2 y.loc.length d2) y.loc → Calls Tryz.prog 172 #[.agg #[.string (ofL x.ep), .slice r1 x.rel.length c1, .int .u8 x.c, .string (ofL x.n), .bool x.b, .string (ofL x.m), .bool x.d, .string (ofL x.k), .slice q1 x.loc.length d1], .agg #[.string (ofL y.ep), .slice r2 y.rel.length c2, .int .u8 y.c, .string (ofL y.n), .bool y.b, .string (ofL y.m), .bool y.d, .string (ofL y.k), .slice q2 y.loc.length d2]] W fun e W' => e = .returned (.bool B) ∧ Below W.heap.size W W') (OP : ∀ W, Txt W (.slice r1 x.rel.length c1) x.rel → Txt W (.slice r2 y.rel.length c2) y.rel → Txt W (.slice q1 x.loc.length d1) x.loc → Txt W (.slice q2 y.loc.length d2) y.loc → Calls Tryz.prog 175 #[.agg #[.string (ofL x.ep), .slice r1 x.rel.length c1, .int .u8 x.c, .string (ofL x.n), .bool x.b, .string (ofL x.m), .bool x.d, .string (ofL x.k), .slice q1 x.loc.length d1, .string t, .bool st], .agg #[.string (ofL y.ep), .slice r2 y.rel.length c2, .int .u8 y.c, .string (ofL y.n), .bool y.b, .string (ofL y.m), .bool y.d, .string (ofL y.k), .slice q2 y.loc.length d2, .string u, .bool su]] W fun e W' => e = .returned (.int .i64 O1) ∧ Below W.heap.size W W') (OD : ∀ W, Txt W (.slice r1 x.rel.length c1) x.rel → Txt W (.slice r2 y.rel.length c2) y.rel → Txt W (.slice q1 x.loc.length d1) x.loc → Txt W (.slice q2 y.loc.length d2) y.loc → Calls Tryz.prog 176 #[.agg #[.string (ofL x.ep), .slice r1 x.rel.length c1, .int .u8 x.c, .string (ofL x.n), .bool x.b, .string (ofL x.m), .bool x.d, .string (ofL x.k), .slice q1 x.loc.length d1], .agg #[.string (ofL y.ep), .slice r2 y.rel.length c2, .int .u8 y.c, .string (ofL y.n), .bool y.b, .string (ofL y.m), .bool y.d, .string (ofL y.k), .slice q2 y.loc.length d2]] W fun e W' => e = .returned (.int .i64 O2) ∧ Below W.heap.size W W') :
    Calls Tryz.prog 152 #[.agg #[.string (ofL x.ep), .slice r1 x.rel.length c1, .int .u8 x.c, .string (ofL x.n), .bool x.b, .string (ofL x.m), .bool x.d, .string (ofL x.k), .slice q1 x.loc.length d1, .string t, .bool st], .agg #[.string (ofL y.ep), .slice r2 y.rel.length c2, .int .u8 y.c, .string (ofL y.n), .bool y.b, .string (ofL y.m), .bool y.d, .string (ofL y.k), .slice q2 y.loc.length d2, .string u, .bool su]] w fun e w' => e = .returned (.bool (if su = true then B else if pubB y = true then O1 == 0 else O2 == 0)) ∧ Below w.heap.size w w' := by
  have S0 := VB.start ra rb la lb t u st su
  have BG := hide BG
  have OP := hide OP
  have OD := hide OD
  clear ra rb la lb
  have PB := hide (fun W => isPublic_any y r2 q2 c2 d2 W)
  generalize hR : (if su = true then B else if pubB y = true then O1 == 0 else O2 == 0) = R
  have HR := hide hR
  clear hR
  cases su
  · have HR2 : Hid (R = if pubB y = true then O1 == 0 else O2 == 0) := hide (by rw [← HR.out]; simp)
    generalize pubB y = pb at *
    cases pb
    · have HR3 : Hid (R = (O2 == 0)) := hide (by rw [HR2.out]; simp)
      go_enter Tryz.func152, Tryz.ntmps152
      go_wp2_with fail
      generalize (w.alloc _).alloc _ = W0 at *
      obtain ⟨s0, s1, s2, s3, s4, s5, s6, s7, s8, s9, s10, _⟩ := seen11v S0.ea
      obtain ⟨v0, v1, v2, v3, v4, v5, v6, v7, v8, v9, v10, _⟩ := seen11v S0.eb
      go_wp2_with fail
      refine (PB.out _).mono ?_
      rintro e w1 ⟨rfl, b1⟩
      have S1 := S0.next b1
      clear s0 s1 s2 s3 s4 s5 s6 s7 s8 s9 s10 v0 v1 v2 v3 v4 v5 v6 v7 v8 v9 v10 b1
      obtain ⟨s0, s1, s2, s3, s4, s5, s6, s7, s8, s9, s10, _⟩ := seen11v S1.ea
      obtain ⟨v0, v1, v2, v3, v4, v5, v6, v7, v8, v9, v10, _⟩ := seen11v S1.eb
      go_wp2_with fail
      refine (OD.out _ S1.ra S1.rb S1.la S1.lb).mono ?_
      rintro e w2 ⟨rfl, b2⟩
      have S2 := S1.next b2
      clear s0 s1 s2 s3 s4 s5 s6 s7 s8 s9 s10 v0 v1 v2 v3 v4 v5 v6 v7 v8 v9 v10 b2
      obtain ⟨s0, s1, s2, s3, s4, s5, s6, s7, s8, s9, s10, _⟩ := seen11v S2.ea
      obtain ⟨v0, v1, v2, v3, v4, v5, v6, v7, v8, v9, v10, _⟩ := seen11v S2.eb
      go_wp2_with fail
      go_ret
      exact ⟨by rw [HR3.out]; rfl, S2.bel⟩
    · have HR3 : Hid (R = (O1 == 0)) := hide (by rw [HR2.out]; simp)
      go_enter Tryz.func152, Tryz.ntmps152
      go_wp2_with fail
      generalize (w.alloc _).alloc _ = W0 at *
      obtain ⟨s0, s1, s2, s3, s4, s5, s6, s7, s8, s9, s10, _⟩ := seen11v S0.ea
      obtain ⟨v0, v1, v2, v3, v4, v5, v6, v7, v8, v9, v10, _⟩ := seen11v S0.eb
      go_wp2_with fail
      refine (PB.out _).mono ?_
      rintro e w1 ⟨rfl, b1⟩
      have S1 := S0.next b1
      clear s0 s1 s2 s3 s4 s5 s6 s7 s8 s9 s10 v0 v1 v2 v3 v4 v5 v6 v7 v8 v9 v10 b1
      obtain ⟨s0, s1, s2, s3, s4, s5, s6, s7, s8, s9, s10, _⟩ := seen11v S1.ea
      obtain ⟨v0, v1, v2, v3, v4, v5, v6, v7, v8, v9, v10, _⟩ := seen11v S1.eb
      go_wp2_with fail
      refine (OP.out _ S1.ra S1.rb S1.la S1.lb).mono ?_
      rintro e w2 ⟨rfl, b2⟩
      have S2 := S1.next b2
      clear s0 s1 s2 s3 s4 s5 s6 s7 s8 s9 s10 v0 v1 v2 v3 v4 v5 v6 v7 v8 v9 v10 b2
      obtain ⟨s0, s1, s2, s3, s4, s5, s6, s7, s8, s9, s10, _⟩ := seen11v S2.ea
      obtain ⟨v0, v1, v2, v3, v4, v5, v6, v7, v8, v9, v10, _⟩ := seen11v S2.eb
      go_wp2_with fail
      go_ret
      exact ⟨by rw [HR3.out]; rfl, S2.bel⟩
  · have HR3 : Hid (R = B) := hide (by rw [← HR.out]; simp)
    go_enter Tryz.func152, Tryz.ntmps152
    go_wp2_with fail
    generalize (w.alloc _).alloc _ = W0 at *
    obtain ⟨s0, s1, s2, s3, s4, s5, s6, s7, s8, s9, s10, _⟩ := seen11v S0.ea
    obtain ⟨v0, v1, v2, v3, v4, v5, v6, v7, v8, v9, v10, _⟩ := seen11v S0.eb
    go_wp2_with fail
    refine (BG.out _ S0.ra S0.rb S0.la S0.lb).mono ?_
    rintro e w1 ⟨rfl, b1⟩
    have S1 := S0.next b1
    clear s0 s1 s2 s3 s4 s5 s6 s7 s8 s9 s10 v0 v1 v2 v3 v4 v5 v6 v7 v8 v9 v10 b1
    obtain ⟨s0, s1, s2, s3, s4, s5, s6, s7, s8, s9, s10, _⟩ := seen11v S1.ea
    obtain ⟨v0, v1, v2, v3, v4, v5, v6, v7, v8, v9, v10, _⟩ := seen11v S1.eb
    go_wp2_with fail
    go_ret
    exact ⟨by rw [HR3.out]; rfl, S1.bel⟩

end Go.Proofs.YtabmfdedbpmfmaaGreat

namespace Go.Proofs.YtabmfdedbpmfmaaGreat
open Go.RowKit Go.Shelf
set_option linter.unusedVariables false

set_option maxRecDepth 100000 in
set_option maxHeartbeats 1000000 in
theorem Pre_any (x : PepL) (r1 q1 : Option Addr) (c1 d1 : Nat) (w : World) (rr : Txt w (.slice r1 x.rel.length c1) x.rel) (ll : Txt w (.slice q1 x.loc.length d1) x.loc) :
    Calls Tryz.prog 77 #[.agg #[.string (ofL x.ep), .slice r1 x.rel.length c1, .int .u8 x.c, .string (ofL x.n), .bool x.b, .string (ofL x.m), .bool x.d, .string (ofL x.k), .slice q1 x.loc.length d1]] w fun e w' => e = .returned (.bool (x.c != 0 || x.d)) ∧ Below w.heap.size w w' := by
  have S0 := TB.start rr ll
  clear rr ll
  obtain ⟨s0, s1, s2, s3, s4, s5, s6, s7, s8⟩ := S0.seen
  have sb := S0.bel
  cases hc : (x.c != 0)
  · go_enter Tryz.func77, Tryz.ntmps77
    go_wp2_with fail
    go_ret
    exact ⟨rfl, sb⟩
  · go_enter Tryz.func77, Tryz.ntmps77
    go_wp2_with fail
    go_ret
    exact ⟨rfl, sb⟩

end Go.Proofs.YtabmfdedbpmfmaaGreat

namespace Go.Proofs.YtabmfdedbpmfmaaGreat
open Go.RowKit Go.Shelf
set_option linter.unusedVariables false

set_option maxRecDepth 100000 in
set_option maxHeartbeats 4000000 in
theorem less_any (x y : PepL) (r1 r2 q1 q2 : Option Addr) (c1 c2 d1 d2 : Nat) (t u : ByteArray) (st su : Bool) (w : World) (ra : Txt w (.slice r1 x.rel.length c1) x.rel) (rb : Txt w (.slice r2 y.rel.length c2) y.rel) (la : Txt w (.slice q1 x.loc.length d1) x.loc) (lb : Txt w (.slice q2 y.loc.length d2) y.loc)
    (S : Bool) (O : Int) (SB : ∀ W, Txt W (.slice r1 x.rel.length c1) x.rel → Txt W (.slice r2 y.rel.length c2) y.rel → Txt W (.slice q1 x.loc.length d1) x.loc → Txt W (.slice q2 y.loc.length d2) y.loc → Calls Tryz.prog 177 #[.agg #[.string (ofL x.ep), .slice r1 x.rel.length c1, .int .u8 x.c, .string (ofL x.n), .bool x.b, .string (ofL x.m), .bool x.d, .string (ofL x.k), .slice q1 x.loc.length d1, .string t, .bool st], .agg #[.string (ofL y.ep), .slice r2 y.rel.length c2, .int .u8 y.c, .string (ofL y.n), .bool y.b, .string (ofL y.m), .bool y.d, .string (ofL y.k), .slice q2 y.loc.length d2, .string u, .bool su]] W fun e W' => e = .returned (.bool S) ∧ Below W.heap.size W W') (OD : ∀ W, Txt W (.slice r1 x.rel.length c1) x.rel → Txt W (.slice r2 y.rel.length c2) y.rel → Txt W (.slice q1 x.loc.length d1) x.loc → Txt W (.slice q2 y.loc.length d2) y.loc → Calls Tryz.prog 176 #[.agg #[.string (ofL x.ep), .slice r1 x.rel.length c1, .int .u8 x.c, .string (ofL x.n), .bool x.b, .string (ofL x.m), .bool x.d, .string (ofL x.k), .slice q1 x.loc.length d1], .agg #[.string (ofL y.ep), .slice r2 y.rel.length c2, .int .u8 y.c, .string (ofL y.n), .bool y.b, .string (ofL y.m), .bool y.d, .string (ofL y.k), .slice q2 y.loc.length d2]] W fun e W' => e = .returned (.int .i64 O) ∧ Below W.heap.size W W') :
    Calls Tryz.prog 157 #[.agg #[.string (ofL x.ep), .slice r1 x.rel.length c1, .int .u8 x.c, .string (ofL x.n), .bool x.b, .string (ofL x.m), .bool x.d, .string (ofL x.k), .slice q1 x.loc.length d1, .string t, .bool st], .agg #[.string (ofL y.ep), .slice r2 y.rel.length c2, .int .u8 y.c, .string (ofL y.n), .bool y.b, .string (ofL y.m), .bool y.d, .string (ofL y.k), .slice q2 y.loc.length d2, .string u, .bool su]] w fun e w' => e = .returned (.bool (!(S && (x.c != 0 || x.d) && !(y.c != 0 || y.d)) && decide (O < 0))) ∧ Below w.heap.size w w' := by
  have S0 := VB.start ra rb la lb t u st su
  have SB := hide SB
  have OD := hide OD
  clear ra rb la lb
  have PX9 := hide (fun W h1 h2 => Pre_any x r1 q1 c1 d1 W h1 h2)
  have PY9 := hide (fun W h1 h2 => Pre_any y r2 q2 c2 d2 W h1 h2)
  generalize (x.c != 0 || x.d) = px at *
  generalize (y.c != 0 || y.d) = py at *
  cases S
  · go_enter Tryz.func157, Tryz.ntmps157
    go_wp2_with fail
    generalize (w.alloc _).alloc _ = W0 at *
    obtain ⟨s0, s1, s2, s3, s4, s5, s6, s7, s8, s9, s10, _⟩ := seen11v S0.ea
    obtain ⟨v0, v1, v2, v3, v4, v5, v6, v7, v8, v9, v10, _⟩ := seen11v S0.eb
    go_wp2_with fail
    refine (SB.out _ S0.ra S0.rb S0.la S0.lb).mono ?_
    rintro e w1 ⟨rfl, b1⟩
    have S1 := S0.next b1
    clear s0 s1 s2 s3 s4 s5 s6 s7 s8 s9 s10 v0 v1 v2 v3 v4 v5 v6 v7 v8 v9 v10 b1
    obtain ⟨s0, s1, s2, s3, s4, s5, s6, s7, s8, s9, s10, _⟩ := seen11v S1.ea
    obtain ⟨v0, v1, v2, v3, v4, v5, v6, v7, v8, v9, v10, _⟩ := seen11v S1.eb
    go_wp2_with fail
    refine (OD.out _ S1.ra S1.rb S1.la S1.lb).mono ?_
    rintro e w9 ⟨rfl, b9⟩
    have S9 := S1.next b9
    clear s0 s1 s2 s3 s4 s5 s6 s7 s8 s9 s10 v0 v1 v2 v3 v4 v5 v6 v7 v8 v9 v10 b9
    obtain ⟨s0, s1, s2, s3, s4, s5, s6, s7, s8, s9, s10, _⟩ := seen11v S9.ea
    obtain ⟨v0, v1, v2, v3, v4, v5, v6, v7, v8, v9, v10, _⟩ := seen11v S9.eb
    go_wp2_with fail
    go_ret
    exact ⟨rfl, S9.bel⟩
  · cases px
    · go_enter Tryz.func157, Tryz.ntmps157
      go_wp2_with fail
      generalize (w.alloc _).alloc _ = W0 at *
      obtain ⟨s0, s1, s2, s3, s4, s5, s6, s7, s8, s9, s10, _⟩ := seen11v S0.ea
      obtain ⟨v0, v1, v2, v3, v4, v5, v6, v7, v8, v9, v10, _⟩ := seen11v S0.eb
      go_wp2_with fail
      refine (SB.out _ S0.ra S0.rb S0.la S0.lb).mono ?_
      rintro e w1 ⟨rfl, b1⟩
      have S1 := S0.next b1
      clear s0 s1 s2 s3 s4 s5 s6 s7 s8 s9 s10 v0 v1 v2 v3 v4 v5 v6 v7 v8 v9 v10 b1
      obtain ⟨s0, s1, s2, s3, s4, s5, s6, s7, s8, s9, s10, _⟩ := seen11v S1.ea
      obtain ⟨v0, v1, v2, v3, v4, v5, v6, v7, v8, v9, v10, _⟩ := seen11v S1.eb
      go_wp2_with fail
      refine (PX9.out _ S1.ra S1.la).mono ?_
      rintro e w2 ⟨rfl, b2⟩
      have S2 := S1.next b2
      clear s0 s1 s2 s3 s4 s5 s6 s7 s8 s9 s10 v0 v1 v2 v3 v4 v5 v6 v7 v8 v9 v10 b2
      obtain ⟨s0, s1, s2, s3, s4, s5, s6, s7, s8, s9, s10, _⟩ := seen11v S2.ea
      obtain ⟨v0, v1, v2, v3, v4, v5, v6, v7, v8, v9, v10, _⟩ := seen11v S2.eb
      go_wp2_with fail
      refine (OD.out _ S2.ra S2.rb S2.la S2.lb).mono ?_
      rintro e w9 ⟨rfl, b9⟩
      have S9 := S2.next b9
      clear s0 s1 s2 s3 s4 s5 s6 s7 s8 s9 s10 v0 v1 v2 v3 v4 v5 v6 v7 v8 v9 v10 b9
      obtain ⟨s0, s1, s2, s3, s4, s5, s6, s7, s8, s9, s10, _⟩ := seen11v S9.ea
      obtain ⟨v0, v1, v2, v3, v4, v5, v6, v7, v8, v9, v10, _⟩ := seen11v S9.eb
      go_wp2_with fail
      go_ret
      exact ⟨rfl, S9.bel⟩
    · cases py
      · go_enter Tryz.func157, Tryz.ntmps157
        go_wp2_with fail
        generalize (w.alloc _).alloc _ = W0 at *
        obtain ⟨s0, s1, s2, s3, s4, s5, s6, s7, s8, s9, s10, _⟩ := seen11v S0.ea
        obtain ⟨v0, v1, v2, v3, v4, v5, v6, v7, v8, v9, v10, _⟩ := seen11v S0.eb
        go_wp2_with fail
        refine (SB.out _ S0.ra S0.rb S0.la S0.lb).mono ?_
        rintro e w1 ⟨rfl, b1⟩
        have S1 := S0.next b1
        clear s0 s1 s2 s3 s4 s5 s6 s7 s8 s9 s10 v0 v1 v2 v3 v4 v5 v6 v7 v8 v9 v10 b1
        obtain ⟨s0, s1, s2, s3, s4, s5, s6, s7, s8, s9, s10, _⟩ := seen11v S1.ea
        obtain ⟨v0, v1, v2, v3, v4, v5, v6, v7, v8, v9, v10, _⟩ := seen11v S1.eb
        go_wp2_with fail
        refine (PX9.out _ S1.ra S1.la).mono ?_
        rintro e w2 ⟨rfl, b2⟩
        have S2 := S1.next b2
        clear s0 s1 s2 s3 s4 s5 s6 s7 s8 s9 s10 v0 v1 v2 v3 v4 v5 v6 v7 v8 v9 v10 b2
        obtain ⟨s0, s1, s2, s3, s4, s5, s6, s7, s8, s9, s10, _⟩ := seen11v S2.ea
        obtain ⟨v0, v1, v2, v3, v4, v5, v6, v7, v8, v9, v10, _⟩ := seen11v S2.eb
        go_wp2_with fail
        refine (PY9.out _ S2.rb S2.lb).mono ?_
        rintro e w3 ⟨rfl, b3⟩
        have S3 := S2.next b3
        clear s0 s1 s2 s3 s4 s5 s6 s7 s8 s9 s10 v0 v1 v2 v3 v4 v5 v6 v7 v8 v9 v10 b3
        obtain ⟨s0, s1, s2, s3, s4, s5, s6, s7, s8, s9, s10, _⟩ := seen11v S3.ea
        obtain ⟨v0, v1, v2, v3, v4, v5, v6, v7, v8, v9, v10, _⟩ := seen11v S3.eb
        go_wp2_with fail
        go_ret
        exact ⟨rfl, S3.bel⟩
      · go_enter Tryz.func157, Tryz.ntmps157
        go_wp2_with fail
        generalize (w.alloc _).alloc _ = W0 at *
        obtain ⟨s0, s1, s2, s3, s4, s5, s6, s7, s8, s9, s10, _⟩ := seen11v S0.ea
        obtain ⟨v0, v1, v2, v3, v4, v5, v6, v7, v8, v9, v10, _⟩ := seen11v S0.eb
        go_wp2_with fail
        refine (SB.out _ S0.ra S0.rb S0.la S0.lb).mono ?_
        rintro e w1 ⟨rfl, b1⟩
        have S1 := S0.next b1
        clear s0 s1 s2 s3 s4 s5 s6 s7 s8 s9 s10 v0 v1 v2 v3 v4 v5 v6 v7 v8 v9 v10 b1
        obtain ⟨s0, s1, s2, s3, s4, s5, s6, s7, s8, s9, s10, _⟩ := seen11v S1.ea
        obtain ⟨v0, v1, v2, v3, v4, v5, v6, v7, v8, v9, v10, _⟩ := seen11v S1.eb
        go_wp2_with fail
        refine (PX9.out _ S1.ra S1.la).mono ?_
        rintro e w2 ⟨rfl, b2⟩
        have S2 := S1.next b2
        clear s0 s1 s2 s3 s4 s5 s6 s7 s8 s9 s10 v0 v1 v2 v3 v4 v5 v6 v7 v8 v9 v10 b2
        obtain ⟨s0, s1, s2, s3, s4, s5, s6, s7, s8, s9, s10, _⟩ := seen11v S2.ea
        obtain ⟨v0, v1, v2, v3, v4, v5, v6, v7, v8, v9, v10, _⟩ := seen11v S2.eb
        go_wp2_with fail
        refine (PY9.out _ S2.rb S2.lb).mono ?_
        rintro e w3 ⟨rfl, b3⟩
        have S3 := S2.next b3
        clear s0 s1 s2 s3 s4 s5 s6 s7 s8 s9 s10 v0 v1 v2 v3 v4 v5 v6 v7 v8 v9 v10 b3
        obtain ⟨s0, s1, s2, s3, s4, s5, s6, s7, s8, s9, s10, _⟩ := seen11v S3.ea
        obtain ⟨v0, v1, v2, v3, v4, v5, v6, v7, v8, v9, v10, _⟩ := seen11v S3.eb
        go_wp2_with fail
        refine (OD.out _ S3.ra S3.rb S3.la S3.lb).mono ?_
        rintro e w9 ⟨rfl, b9⟩
        have S9 := S3.next b9
        clear s0 s1 s2 s3 s4 s5 s6 s7 s8 s9 s10 v0 v1 v2 v3 v4 v5 v6 v7 v8 v9 v10 b9
        obtain ⟨s0, s1, s2, s3, s4, s5, s6, s7, s8, s9, s10, _⟩ := seen11v S9.ea
        obtain ⟨v0, v1, v2, v3, v4, v5, v6, v7, v8, v9, v10, _⟩ := seen11v S9.eb
        go_wp2_with fail
        go_ret
        exact ⟨rfl, S9.bel⟩

end Go.Proofs.YtabmfdedbpmfmaaGreat

namespace Go.Proofs.YtabmfdedbpmfmaaGreat
open Go.RowKit Go.Shelf
set_option linter.unusedVariables false

set_option maxRecDepth 100000 in
set_option maxHeartbeats 4000000 in
theorem more_any (x y : PepL) (r1 r2 q1 q2 : Option Addr) (c1 c2 d1 d2 : Nat) (t u : ByteArray) (st su : Bool) (w : World) (ra : Txt w (.slice r1 x.rel.length c1) x.rel) (rb : Txt w (.slice r2 y.rel.length c2) y.rel) (la : Txt w (.slice q1 x.loc.length d1) x.loc) (lb : Txt w (.slice q2 y.loc.length d2) y.loc)
    (S : Bool) (O : Int) (SB : ∀ W, Txt W (.slice r1 x.rel.length c1) x.rel → Txt W (.slice r2 y.rel.length c2) y.rel → Txt W (.slice q1 x.loc.length d1) x.loc → Txt W (.slice q2 y.loc.length d2) y.loc → Calls Tryz.prog 177 #[.agg #[.string (ofL x.ep), .slice r1 x.rel.length c1, .int .u8 x.c, .string (ofL x.n), .bool x.b, .string (ofL x.m), .bool x.d, .string (ofL x.k), .slice q1 x.loc.length d1, .string t, .bool st], .agg #[.string (ofL y.ep), .slice r2 y.rel.length c2, .int .u8 y.c, .string (ofL y.n), .bool y.b, .string (ofL y.m), .bool y.d, .string (ofL y.k), .slice q2 y.loc.length d2, .string u, .bool su]] W fun e W' => e = .returned (.bool S) ∧ Below W.heap.size W W') (OD : ∀ W, Txt W (.slice r1 x.rel.length c1) x.rel → Txt W (.slice r2 y.rel.length c2) y.rel → Txt W (.slice q1 x.loc.length d1) x.loc → Txt W (.slice q2 y.loc.length d2) y.loc → Calls Tryz.prog 176 #[.agg #[.string (ofL x.ep), .slice r1 x.rel.length c1, .int .u8 x.c, .string (ofL x.n), .bool x.b, .string (ofL x.m), .bool x.d, .string (ofL x.k), .slice q1 x.loc.length d1], .agg #[.string (ofL y.ep), .slice r2 y.rel.length c2, .int .u8 y.c, .string (ofL y.n), .bool y.b, .string (ofL y.m), .bool y.d, .string (ofL y.k), .slice q2 y.loc.length d2]] W fun e W' => e = .returned (.int .i64 O) ∧ Below W.heap.size W W') :
    Calls Tryz.prog 158 #[.agg #[.string (ofL x.ep), .slice r1 x.rel.length c1, .int .u8 x.c, .string (ofL x.n), .bool x.b, .string (ofL x.m), .bool x.d, .string (ofL x.k), .slice q1 x.loc.length d1, .string t, .bool st], .agg #[.string (ofL y.ep), .slice r2 y.rel.length c2, .int .u8 y.c, .string (ofL y.n), .bool y.b, .string (ofL y.m), .bool y.d, .string (ofL y.k), .slice q2 y.loc.length d2, .string u, .bool su]] w fun e w' => e = .returned (.bool (!(S && (!pubB x || x.b && !y.b)) && decide (0 < O))) ∧ Below w.heap.size w w' := by
  have S0 := VB.start ra rb la lb t u st su
  have SB := hide SB
  have OD := hide OD
  clear ra rb la lb
  have PB := hide (fun W => isPublic_any x r1 q1 c1 d1 W)
  generalize hR : (!(S && (!pubB x || x.b && !y.b)) && decide (0 < O)) = R
  have HR := hide hR
  clear hR
  generalize pubB x = px at *
  cases S
  · have HR3 : Hid (R = decide (0 < O)) := hide (by rw [← HR.out]; simp)
    go_enter Tryz.func158, Tryz.ntmps158
    go_wp2_with fail
    generalize (w.alloc _).alloc _ = W0 at *
    obtain ⟨s0, s1, s2, s3, s4, s5, s6, s7, s8, s9, s10, _⟩ := seen11v S0.ea
    obtain ⟨v0, v1, v2, v3, v4, v5, v6, v7, v8, v9, v10, _⟩ := seen11v S0.eb
    try rw [hb] at s4
    try rw [hd] at v4
    go_wp2_with fail
    refine (SB.out _ S0.ra S0.rb S0.la S0.lb).mono ?_
    rintro e w1 ⟨rfl, b1⟩
    have S1 := S0.next b1
    clear s0 s1 s2 s3 s4 s5 s6 s7 s8 s9 s10 v0 v1 v2 v3 v4 v5 v6 v7 v8 v9 v10 b1
    obtain ⟨s0, s1, s2, s3, s4, s5, s6, s7, s8, s9, s10, _⟩ := seen11v S1.ea
    obtain ⟨v0, v1, v2, v3, v4, v5, v6, v7, v8, v9, v10, _⟩ := seen11v S1.eb
    try rw [hb] at s4
    try rw [hd] at v4
    go_wp2_with fail
    refine (OD.out _ S1.ra S1.rb S1.la S1.lb).mono ?_
    rintro e w2 ⟨rfl, b2⟩
    have S2 := S1.next b2
    clear s0 s1 s2 s3 s4 s5 s6 s7 s8 s9 s10 v0 v1 v2 v3 v4 v5 v6 v7 v8 v9 v10 b2
    obtain ⟨s0, s1, s2, s3, s4, s5, s6, s7, s8, s9, s10, _⟩ := seen11v S2.ea
    obtain ⟨v0, v1, v2, v3, v4, v5, v6, v7, v8, v9, v10, _⟩ := seen11v S2.eb
    try rw [hb] at s4
    try rw [hd] at v4
    go_wp2_with fail
    go_ret
    exact ⟨by rw [HR3.out]; rfl, S2.bel⟩
  · cases px
    · have HR3 : Hid (R = false) := hide (by rw [← HR.out]; simp)
      go_enter Tryz.func158, Tryz.ntmps158
      go_wp2_with fail
      generalize (w.alloc _).alloc _ = W0 at *
      obtain ⟨s0, s1, s2, s3, s4, s5, s6, s7, s8, s9, s10, _⟩ := seen11v S0.ea
      obtain ⟨v0, v1, v2, v3, v4, v5, v6, v7, v8, v9, v10, _⟩ := seen11v S0.eb
      try rw [hb] at s4
      try rw [hd] at v4
      go_wp2_with fail
      refine (SB.out _ S0.ra S0.rb S0.la S0.lb).mono ?_
      rintro e w1 ⟨rfl, b1⟩
      have S1 := S0.next b1
      clear s0 s1 s2 s3 s4 s5 s6 s7 s8 s9 s10 v0 v1 v2 v3 v4 v5 v6 v7 v8 v9 v10 b1
      obtain ⟨s0, s1, s2, s3, s4, s5, s6, s7, s8, s9, s10, _⟩ := seen11v S1.ea
      obtain ⟨v0, v1, v2, v3, v4, v5, v6, v7, v8, v9, v10, _⟩ := seen11v S1.eb
      try rw [hb] at s4
      try rw [hd] at v4
      go_wp2_with fail
      refine (PB.out _).mono ?_
      rintro e w2 ⟨rfl, b2⟩
      have S2 := S1.next b2
      clear s0 s1 s2 s3 s4 s5 s6 s7 s8 s9 s10 v0 v1 v2 v3 v4 v5 v6 v7 v8 v9 v10 b2
      obtain ⟨s0, s1, s2, s3, s4, s5, s6, s7, s8, s9, s10, _⟩ := seen11v S2.ea
      obtain ⟨v0, v1, v2, v3, v4, v5, v6, v7, v8, v9, v10, _⟩ := seen11v S2.eb
      try rw [hb] at s4
      try rw [hd] at v4
      go_wp2_with fail
      go_ret
      exact ⟨by rw [HR3.out]; rfl, S2.bel⟩
    · generalize hb : x.b = xb at *
      cases xb
      · have HR3 : Hid (R = decide (0 < O)) := hide (by rw [← HR.out]; simp)
        go_enter Tryz.func158, Tryz.ntmps158
        go_wp2_with fail
        generalize (w.alloc _).alloc _ = W0 at *
        obtain ⟨s0, s1, s2, s3, s4, s5, s6, s7, s8, s9, s10, _⟩ := seen11v S0.ea
        obtain ⟨v0, v1, v2, v3, v4, v5, v6, v7, v8, v9, v10, _⟩ := seen11v S0.eb
        try rw [hb] at s4
        try rw [hd] at v4
        go_wp2_with fail
        refine (SB.out _ S0.ra S0.rb S0.la S0.lb).mono ?_
        rintro e w1 ⟨rfl, b1⟩
        have S1 := S0.next b1
        clear s0 s1 s2 s3 s4 s5 s6 s7 s8 s9 s10 v0 v1 v2 v3 v4 v5 v6 v7 v8 v9 v10 b1
        obtain ⟨s0, s1, s2, s3, s4, s5, s6, s7, s8, s9, s10, _⟩ := seen11v S1.ea
        obtain ⟨v0, v1, v2, v3, v4, v5, v6, v7, v8, v9, v10, _⟩ := seen11v S1.eb
        try rw [hb] at s4
        try rw [hd] at v4
        go_wp2_with fail
        refine (PB.out _).mono ?_
        rintro e w2 ⟨rfl, b2⟩
        have S2 := S1.next b2
        clear s0 s1 s2 s3 s4 s5 s6 s7 s8 s9 s10 v0 v1 v2 v3 v4 v5 v6 v7 v8 v9 v10 b2
        obtain ⟨s0, s1, s2, s3, s4, s5, s6, s7, s8, s9, s10, _⟩ := seen11v S2.ea
        obtain ⟨v0, v1, v2, v3, v4, v5, v6, v7, v8, v9, v10, _⟩ := seen11v S2.eb
        try rw [hb] at s4
        try rw [hd] at v4
        go_wp2_with fail
        refine (OD.out _ S2.ra S2.rb S2.la S2.lb).mono ?_
        rintro e w3 ⟨rfl, b3⟩
        have S3 := S2.next b3
        clear s0 s1 s2 s3 s4 s5 s6 s7 s8 s9 s10 v0 v1 v2 v3 v4 v5 v6 v7 v8 v9 v10 b3
        obtain ⟨s0, s1, s2, s3, s4, s5, s6, s7, s8, s9, s10, _⟩ := seen11v S3.ea
        obtain ⟨v0, v1, v2, v3, v4, v5, v6, v7, v8, v9, v10, _⟩ := seen11v S3.eb
        try rw [hb] at s4
        try rw [hd] at v4
        go_wp2_with fail
        go_ret
        exact ⟨by rw [HR3.out]; rfl, S3.bel⟩
      · generalize hd : y.b = yb at *
        cases yb
        · have HR3 : Hid (R = false) := hide (by rw [← HR.out]; simp)
          go_enter Tryz.func158, Tryz.ntmps158
          go_wp2_with fail
          generalize (w.alloc _).alloc _ = W0 at *
          obtain ⟨s0, s1, s2, s3, s4, s5, s6, s7, s8, s9, s10, _⟩ := seen11v S0.ea
          obtain ⟨v0, v1, v2, v3, v4, v5, v6, v7, v8, v9, v10, _⟩ := seen11v S0.eb
          try rw [hb] at s4
          try rw [hd] at v4
          go_wp2_with fail
          refine (SB.out _ S0.ra S0.rb S0.la S0.lb).mono ?_
          rintro e w1 ⟨rfl, b1⟩
          have S1 := S0.next b1
          clear s0 s1 s2 s3 s4 s5 s6 s7 s8 s9 s10 v0 v1 v2 v3 v4 v5 v6 v7 v8 v9 v10 b1
          obtain ⟨s0, s1, s2, s3, s4, s5, s6, s7, s8, s9, s10, _⟩ := seen11v S1.ea
          obtain ⟨v0, v1, v2, v3, v4, v5, v6, v7, v8, v9, v10, _⟩ := seen11v S1.eb
          try rw [hb] at s4
          try rw [hd] at v4
          go_wp2_with fail
          refine (PB.out _).mono ?_
          rintro e w2 ⟨rfl, b2⟩
          have S2 := S1.next b2
          clear s0 s1 s2 s3 s4 s5 s6 s7 s8 s9 s10 v0 v1 v2 v3 v4 v5 v6 v7 v8 v9 v10 b2
          obtain ⟨s0, s1, s2, s3, s4, s5, s6, s7, s8, s9, s10, _⟩ := seen11v S2.ea
          obtain ⟨v0, v1, v2, v3, v4, v5, v6, v7, v8, v9, v10, _⟩ := seen11v S2.eb
          try rw [hb] at s4
          try rw [hd] at v4
          go_wp2_with fail
          go_ret
          exact ⟨by rw [HR3.out]; rfl, S2.bel⟩
        · have HR3 : Hid (R = decide (0 < O)) := hide (by rw [← HR.out]; simp)
          go_enter Tryz.func158, Tryz.ntmps158
          go_wp2_with fail
          generalize (w.alloc _).alloc _ = W0 at *
          obtain ⟨s0, s1, s2, s3, s4, s5, s6, s7, s8, s9, s10, _⟩ := seen11v S0.ea
          obtain ⟨v0, v1, v2, v3, v4, v5, v6, v7, v8, v9, v10, _⟩ := seen11v S0.eb
          try rw [hb] at s4
          try rw [hd] at v4
          go_wp2_with fail
          refine (SB.out _ S0.ra S0.rb S0.la S0.lb).mono ?_
          rintro e w1 ⟨rfl, b1⟩
          have S1 := S0.next b1
          clear s0 s1 s2 s3 s4 s5 s6 s7 s8 s9 s10 v0 v1 v2 v3 v4 v5 v6 v7 v8 v9 v10 b1
          obtain ⟨s0, s1, s2, s3, s4, s5, s6, s7, s8, s9, s10, _⟩ := seen11v S1.ea
          obtain ⟨v0, v1, v2, v3, v4, v5, v6, v7, v8, v9, v10, _⟩ := seen11v S1.eb
          try rw [hb] at s4
          try rw [hd] at v4
          go_wp2_with fail
          refine (PB.out _).mono ?_
          rintro e w2 ⟨rfl, b2⟩
          have S2 := S1.next b2
          clear s0 s1 s2 s3 s4 s5 s6 s7 s8 s9 s10 v0 v1 v2 v3 v4 v5 v6 v7 v8 v9 v10 b2
          obtain ⟨s0, s1, s2, s3, s4, s5, s6, s7, s8, s9, s10, _⟩ := seen11v S2.ea
          obtain ⟨v0, v1, v2, v3, v4, v5, v6, v7, v8, v9, v10, _⟩ := seen11v S2.eb
          try rw [hb] at s4
          try rw [hd] at v4
          go_wp2_with fail
          refine (OD.out _ S2.ra S2.rb S2.la S2.lb).mono ?_
          rintro e w3 ⟨rfl, b3⟩
          have S3 := S2.next b3
          clear s0 s1 s2 s3 s4 s5 s6 s7 s8 s9 s10 v0 v1 v2 v3 v4 v5 v6 v7 v8 v9 v10 b3
          obtain ⟨s0, s1, s2, s3, s4, s5, s6, s7, s8, s9, s10, _⟩ := seen11v S3.ea
          obtain ⟨v0, v1, v2, v3, v4, v5, v6, v7, v8, v9, v10, _⟩ := seen11v S3.eb
          try rw [hb] at s4
          try rw [hd] at v4
          go_wp2_with fail
          go_ret
          exact ⟨by rw [HR3.out]; rfl, S3.bel⟩

end Go.Proofs.YtabmfdedbpmfmaaGreat

namespace Go.Proofs.YtabmfdedbpmfmaaGreat
open Go.RowKit Go.Shelf
set_option linter.unusedVariables false

set_option maxRecDepth 100000 in
set_option maxHeartbeats 4000000 in
theorem sameText_any (x y : PepL) (r1 r2 q1 q2 : Option Addr) (c1 c2 d1 d2 : Nat) (t u : ByteArray) (st su : Bool) (w : World) (ra : Txt w (.slice r1 x.rel.length c1) x.rel) (rb : Txt w (.slice r2 y.rel.length c2) y.rel) (la : Txt w (.slice q1 x.loc.length d1) x.loc) (lb : Txt w (.slice q2 y.loc.length d2) y.loc) (ht : t.size ≤ maxLen) (hu : u.size ≤ maxLen) :
    Calls Tryz.prog 160 #[.agg #[.string (ofL x.ep), .slice r1 x.rel.length c1, .int .u8 x.c, .string (ofL x.n), .bool x.b, .string (ofL x.m), .bool x.d, .string (ofL x.k), .slice q1 x.loc.length d1, .string t, .bool st], .agg #[.string (ofL y.ep), .slice r2 y.rel.length c2, .int .u8 y.c, .string (ofL y.n), .bool y.b, .string (ofL y.m), .bool y.d, .string (ofL y.k), .slice q2 y.loc.length d2, .string u, .bool su]] w fun e w' => e = .returned (.bool (t.data.toList.map lowC == u.data.toList.map lowC)) ∧ Below w.heap.size w w' := by
  have S0 := VB.start ra rb la lb t u st su
  have L1 := hide (fun W => Lower_any t W ht)
  have L2 := hide (fun W => Lower_any u W hu)
  have HE : ((ofL (t.data.toList.map lowC)).toList == (ofL (u.data.toList.map lowC)).toList) = (t.data.toList.map lowC == u.data.toList.map lowC) := by rw [toL, toL, ofL_data, ofL_data]
  generalize (t.data.toList.map lowC == u.data.toList.map lowC) = E at *
  generalize t.data.toList.map lowC = lt at *
  generalize u.data.toList.map lowC = lu at *
  clear ra rb la lb ht hu
  go_enter Tryz.func160, Tryz.ntmps160
  go_wp2_with fail
  generalize (w.alloc _).alloc _ = W0 at *
  obtain ⟨s0, s1, s2, s3, s4, s5, s6, s7, s8, s9, s10, _⟩ := seen11v S0.ea
  obtain ⟨v0, v1, v2, v3, v4, v5, v6, v7, v8, v9, v10, _⟩ := seen11v S0.eb
  have D0 := S0.next (Below.refl _ _).drew
  go_region_held3 (fun w' => w'.cell? ⟨w.heap.size, 9, none⟩ = some (.string t) ∧ w'.cell? ⟨w.heap.size + 1, 9, none⟩ = some (.string u))
    (go_keep)
    ((first
      | (have hq := Q1; go_at_call 95; refine (L2.out _).mono ?_; rintro e w6 ⟨rfl, b6⟩; have Q2 := Q1.next b6; obtain ⟨g0, g1, g2, g3, g4, g5, g6, g7, g8, g9, g10, _⟩ := seen11v Q2.ea; obtain ⟨h0, h1, h2, h3, h4, h5, h6, h7, h8, h9, h10, _⟩ := seen11v Q2.eb)
      | (go_at_call 95; refine (L1.out _).mono ?_; rintro e w5 ⟨rfl, b5⟩; have Q1 := D0.next b5; obtain ⟨e0, e1, e2, e3, e4, e5, e6, e7, e8, e9, e10, _⟩ := seen11v Q1.ea; obtain ⟨f0, f1, f2, f3, f4, f5, f6, f7, f8, f9, f10, _⟩ := seen11v Q1.eb)
      | fail))
  go_wp2_with fail
  go_ret
  exact ⟨rfl, Q2.bel⟩

end Go.Proofs.YtabmfdedbpmfmaaGreat
