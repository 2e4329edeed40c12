/- Walks: the document's between. -/
import Derived.Test.YtpdlgiioahjhiaaGreatPEl
import Derived.Test.YtpdlgiioahjhiaaGreatPKe
import Derived.Test.YtpdlgiioahjhiaaGreatPEzg
import Derived.Test.YtpdlgiioahjhiaaGreatPEq
import Derived.Deep.AppendLies
import Derived.Test.YtpdlgiioahjhiaaGreatPEzb
import Derived.Test.YtpdlgiioahjhiaaGreatPEzi
namespace Go.Proofs.YtpdlgiioahjhiaaGreat
open Go.RowKit Go.Shelf
set_option linter.unusedVariables false
set_option maxHeartbeats 4000000
set_option maxRecDepth 100000
variable {A : Nat → Prop}
theorem qqn {R : Ending → World → Prop} (tmps : Array Value) (W : World) (B : Nat) (x y z : QY) (p q : Value) (hp : ∃ a n c, p = .slice a n c) (hq : ∃ a n c, q = .slice a n c)
  (h2 : tmps.getD 8 undef = .pointer (some ⟨B, 0, none⟩)) (e1 : W.heap[B]? = some (.cells #[.string x, .string y, .string z, p, q] 33 (0, 0)))
  (hR : R (.returned (.agg #[.string x, .string y, .string z, p, q])) W) : bodyPost Tryz.prog Tryz.f154 R .ret { tmps := tmps, defers := [] } W := by
 obtain ⟨pa, pn, pc, rfl⟩ := hp;obtain ⟨qa, qn, qc, rfl⟩ := hq;have r0 := qd 0 e1 rfl;have r1 := qd 1 e1 rfl;have r2 := qd 2 e1 rfl;have r3 := qd 3 e1 rfl;have r4 := qd 4 e1 rfl;rw [Array.getD_eq_getD_getElem?] at h2;refine ⟨rfl, _, ?_, hR⟩;simp [results, Tryz.results154, go_sem, h2, r0, r1, r2, r3, r4]
 try rfl
def zN (a : QB) : QB := if a = [] then [48] else a
theorem qkz {a : QB} (h : (qg a).toList.isEmpty = true) : zN a = [48] := by
 rw [toL, qj, List.isEmpty_iff] at h;exact if_pos h
theorem qql {a : QB} (h : (qg a).toList.isEmpty = false) : zN a = a := by
 rw [toL, qj] at h;refine if_neg (fun e => ?_);rw [e] at h;cases h
theorem qrf (a b c : QB) (x : Option Addr) (n k : Nat) (w : World) :
  Calls Tryz.prog 154 #[.string (qg a), .string (qg b), .string (qg c), .slice x n k] w fun e w' => e = .returned (.agg #[.string (qg (zN a)), .string (qg (zN b)), .string (qg (zN c)), .slice x n k, .slice none 0 0]) ∧ Below w.heap.size w w' := by
 cases ha : (qg a).toList.isEmpty
 case false =>
  cases hb : (qg b).toList.isEmpty
  case false =>
   cases hc : (qg c).toList.isEmpty
   case false =>
    have ea : zN a = a := qql ha;have eb : zN b = b := qql hb;have ec : zN c = c := qql hc;rw [ea, eb, ec];clear ea eb ec;go_enter Tryz.func154, Tryz.ntmps154
    (go_wp2_with fail);exact qqn _ _ w.heap.size _ _ _ _ _ ⟨_, _, _, rfl⟩ ⟨_, _, _, rfl⟩ rfl (qgm w _ _) ⟨rfl, qdr w _ _⟩
   case true =>
    have ea : zN a = a := qql ha;have eb : zN b = b := qql hb;have ec : zN c = [48] := qkz hc;rw [ea, eb, ec];clear ea eb ec;go_enter Tryz.func154, Tryz.ntmps154
    (go_wp2_with fail);exact qqn _ _ w.heap.size _ _ _ _ _ ⟨_, _, _, rfl⟩ ⟨_, _, _, rfl⟩ rfl (qgm w _ _) ⟨rfl, qdr w _ _⟩
  case true =>
   cases hc : (qg c).toList.isEmpty
   case false =>
    have ea : zN a = a := qql ha;have eb : zN b = [48] := qkz hb;have ec : zN c = c := qql hc;rw [ea, eb, ec];clear ea eb ec;go_enter Tryz.func154, Tryz.ntmps154
    (go_wp2_with fail);exact qqn _ _ w.heap.size _ _ _ _ _ ⟨_, _, _, rfl⟩ ⟨_, _, _, rfl⟩ rfl (qgm w _ _) ⟨rfl, qdr w _ _⟩
   case true =>
    have ea : zN a = a := qql ha;have eb : zN b = [48] := qkz hb;have ec : zN c = [48] := qkz hc;rw [ea, eb, ec];clear ea eb ec;go_enter Tryz.func154, Tryz.ntmps154
    (go_wp2_with fail);exact qqn _ _ w.heap.size _ _ _ _ _ ⟨_, _, _, rfl⟩ ⟨_, _, _, rfl⟩ rfl (qgm w _ _) ⟨rfl, qdr w _ _⟩
 case true =>
  cases hb : (qg b).toList.isEmpty
  case false =>
   cases hc : (qg c).toList.isEmpty
   case false =>
    have ea : zN a = [48] := qkz ha;have eb : zN b = b := qql hb;have ec : zN c = c := qql hc;rw [ea, eb, ec];clear ea eb ec;go_enter Tryz.func154, Tryz.ntmps154
    (go_wp2_with fail);exact qqn _ _ w.heap.size _ _ _ _ _ ⟨_, _, _, rfl⟩ ⟨_, _, _, rfl⟩ rfl (qgm w _ _) ⟨rfl, qdr w _ _⟩
   case true =>
    have ea : zN a = [48] := qkz ha;have eb : zN b = b := qql hb;have ec : zN c = [48] := qkz hc;rw [ea, eb, ec];clear ea eb ec;go_enter Tryz.func154, Tryz.ntmps154
    (go_wp2_with fail);exact qqn _ _ w.heap.size _ _ _ _ _ ⟨_, _, _, rfl⟩ ⟨_, _, _, rfl⟩ rfl (qgm w _ _) ⟨rfl, qdr w _ _⟩
  case true =>
   cases hc : (qg c).toList.isEmpty
   case false =>
    have ea : zN a = [48] := qkz ha;have eb : zN b = [48] := qkz hb;have ec : zN c = c := qql hc;rw [ea, eb, ec];clear ea eb ec;go_enter Tryz.func154, Tryz.ntmps154
    (go_wp2_with fail);exact qqn _ _ w.heap.size _ _ _ _ _ ⟨_, _, _, rfl⟩ ⟨_, _, _, rfl⟩ rfl (qgm w _ _) ⟨rfl, qdr w _ _⟩
   case true =>
    have ea : zN a = [48] := qkz ha;have eb : zN b = [48] := qkz hb;have ec : zN c = [48] := qkz hc;rw [ea, eb, ec];clear ea eb ec;go_enter Tryz.func154, Tryz.ntmps154
    (go_wp2_with fail);exact qqn _ _ w.heap.size _ _ _ _ _ ⟨_, _, _, rfl⟩ ⟨_, _, _, rfl⟩ rfl (qgm w _ _) ⟨rfl, qdr w _ _⟩
theorem qln (w : World) : Calls Tryz.prog 137 #[] w fun e w' => e = .returned (.slice (some ⟨w.heap.size, 0, none⟩) 1 1) ∧ w' = w.alloc (.cells #[.string ⟨#[48]⟩] 9) := by
 go_enter Tryz.func137, Tryz.ntmps137
 (go_wp2_with fail);go_ret
 exact ⟨rfl, rfl⟩
theorem qdc (op : Int) (v : Value) (x : SemL) (w : World) (hv : SemV A w v x) :
  Calls Tryz.prog 131 #[.int .i64 op, v] w (qfq A w [(op, x)]) := by
 obtain ⟨vp, vb, rfl, t1, t2, c1, c2⟩ := hv;obtain ⟨a1, k1, rfl, x1⟩ := id t1;obtain ⟨a2, k2, rfl, x2⟩ := id t2;have T1 := qb t1;have T2 := qb t2;clear t1 t2 x1 x2;go_enter Tryz.func131, Tryz.ntmps131
 (go_wp2_with fail);go_ret
 have b1 : Below w.heap.size w (w.alloc (.cells #[.string (qg x.maj), .string (qg x.min), .string (qg x.pat), .slice a1 x.pre.length k1, .slice a2 x.bld.length k2] 33)) := (Below.refl _ w).alloc (Nat.le_refl _) _;refine ⟨b1.alloc b1.size _, .inr ⟨w.heap.size + 1, [.int .i64 op, .string (qg x.maj), .string (qg x.min), .string (qg x.pat), .slice a1 x.pre.length k1, .slice a2 x.bld.length k2], rfl, by omega, ?_, ?_⟩⟩
 ·have := World.alloc_heap_new (w.alloc (.cells #[.string (qg x.maj), .string (qg x.min), .string (qg x.pat), .slice a1 x.pre.length k1, .slice a2 x.bld.length k2] 33)) (.cells #[.int .i64 op, .string (qg x.maj), .string (qg x.min), .string (qg x.pat), .slice a1 x.pre.length k1, .slice a2 x.bld.length k2] 35);rw [show (w.alloc (.cells #[.string (qg x.maj), .string (qg x.min), .string (qg x.pat), .slice a1 x.pre.length k1, .slice a2 x.bld.length k2] 33)).heap.size = w.heap.size + 1 by simp] at this
  exact this
 ·exact ⟨_, [], by rw [List.append_nil], ⟨_, _, rfl, (T1.out.below b1).below ((Below.refl _ _).alloc (Nat.le_refl _) _), (T2.out.below b1).below ((Below.refl _ _).alloc (Nat.le_refl _) _), c1, c2⟩, rfl⟩
end Go.Proofs.YtpdlgiioahjhiaaGreat

namespace Go.Proofs.YtpdlgiioahjhiaaGreat
open Go.RowKit Go.Shelf
set_option linter.unusedVariables false
set_option maxHeartbeats 2000000
set_option maxRecDepth 100000
theorem fin132 {R : Ending → World → Prop} (tmps : Array Value) (W : World) (B : Nat) (x y z : QY) (p q : Value) (hp : ∃ a n c, p = .slice a n c) (hq : ∃ a n c, q = .slice a n c)
  (h2 : tmps.getD 2 undef = .pointer (some ⟨B, 0, none⟩)) (e1 : W.heap[B]? = some (.cells #[.string x, .string y, .string z, p, q] 33 (0, 0)))
  (hR : R (.returned (.agg #[.string x, .string y, .string z, p, q])) W) : bodyPost Tryz.prog Tryz.f132 R .ret { tmps := tmps, defers := [] } W := by
 obtain ⟨pa, pn, pc, rfl⟩ := hp;obtain ⟨qa, qn, qc, rfl⟩ := hq;have r0 := qd 0 e1 rfl;have r1 := qd 1 e1 rfl;have r2 := qd 2 e1 rfl;have r3 := qd 3 e1 rfl;have r4 := qd 4 e1 rfl;rw [Array.getD_eq_getD_getElem?] at h2;refine ⟨rfl, _, ?_, hR⟩;simp [results, Tryz.results132, go_sem, h2, r0, r1, r2, r3, r4]
 try rfl
theorem qdx (a b c : QB) (x : Option Addr) (n k : Nat) (N : Int) (w : World) :
  Calls Tryz.prog 132 #[.agg #[.string (qg a), .string (qg b), .string (qg c), .slice x n k, .int .i64 N]] w fun e w' => e = .returned (.agg #[.string (qg (zN a)), .string (qg (zN b)), .string (qg (zN c)), .slice x n k, .slice none 0 0]) ∧ Below w.heap.size w w' := by
 have SM := qb (fun W => qrf a b c x n k W);generalize zN a = za at *;generalize zN b = zb at *;generalize zN c = zc at *;go_enter Tryz.func132, Tryz.ntmps132
 (go_wp2_with fail);refine (SM.out _).mono ?_;rintro e w2 ⟨rfl, b2⟩;have e0 := qkb w (.cells #[.string (qg a), .string (qg b), .string (qg c), .slice x n k, .int .i64 N] 123) (.cells #[.string ⟨#[]⟩, .string ⟨#[]⟩, .string ⟨#[]⟩, .slice none 0 0, .slice none 0 0] 33);have e1 := (b2.block _ (Array.getElem?_eq_some_iff.1 e0).1).trans e0;have E1 := qb e1;have B2 := qb ((qdr w _ _).trans (b2.mono (qdr w _ _).size));have g0 := qf 0 e1;have g1 := qf 1 e1;have g2 := qf 2 e1;have g3 := qf 3 e1;have g4 := qf 4 e1;have r0 := qd 0 e1 rfl;have r1 := qd 1 e1 rfl;have r2 := qd 2 e1 rfl;have r3 := qd 3 e1 rfl;have r4 := qd 4 e1 rfl;clear e0 e1 b2;(go_wp2_with fail);exact fin132 _ _ (w.heap.size + 1) _ _ _ _ _ ⟨_, _, _, rfl⟩ ⟨_, _, _, rfl⟩ rfl (put5 _ _ _ _ _ E1.out) ⟨rfl, qbdr B2.out (by omega) _ _ _ _ _⟩
theorem qgc (a b c : QB) (x : Option Addr) (n k : Nat) (N : Nat) (w : World) (hN : N ≤ 3) :
  Calls Tryz.prog 134 #[.agg #[.string (qg a), .string (qg b), .string (qg c), .slice x n k, .int .i64 (N : Int)]] w fun e w' => e = .returned (.int .i64 ((N : Int) - 1)) ∧ Below w.heap.size w w' := by
 go_enter Tryz.func134, Tryz.ntmps134
 (go_wp2_with fail);go_ret
 exact ⟨by first | rfl | go_num, (Below.refl _ w).alloc (Nat.le_refl _) _⟩
end Go.Proofs.YtpdlgiioahjhiaaGreat

namespace Go.Proofs.YtpdlgiioahjhiaaGreat
open Go.RowKit Go.Shelf
open _root_.Array renaming getElem?_eq_some_iff → qcgg
set_option linter.unusedVariables false
set_option maxHeartbeats 2000000
set_option maxRecDepth 100000
theorem qbvj {R : Ending → World → Prop} (tmps : Array Value) (W : World) (B : Nat) (x y z : QY) (p q : Value) (hp : ∃ a n c, p = .slice a n c) (hq : ∃ a n c, q = .slice a n c)
  (h2 : tmps.getD 6 undef = .pointer (some ⟨B, 0, none⟩)) (e1 : W.heap[B]? = some (.cells #[.string x, .string y, .string z, p, q] 33 (0, 0)))
  (hR : R (.returned (.agg #[.string x, .string y, .string z, p, q])) W) : bodyPost Tryz.prog Tryz.f136 R .ret { tmps := tmps, defers := [] } W := by
 obtain ⟨pa, pn, pc, rfl⟩ := hp;obtain ⟨qa, qn, qc, rfl⟩ := hq;have r0 := qd 0 e1 rfl;have r1 := qd 1 e1 rfl;have r2 := qd 2 e1 rfl;have r3 := qd 3 e1 rfl;have r4 := qd 4 e1 rfl;rw [Array.getD_eq_getD_getElem?] at h2;refine ⟨rfl, _, ?_, hR⟩;simp [results, Tryz.results136, go_sem, h2, r0, r1, r2, r3, r4]
 try rfl
theorem qbxf (a b c : QB) (x : Option Addr) (n k : Nat) (N : Int) (y : Option Addr) (m j : Nat) (w : World) (hl : a.length ≤ 1024) :
  Calls Tryz.prog 136 #[.agg #[.string (qg a), .string (qg b), .string (qg c), .slice x n k, .int .i64 N], .int .i64 0, .slice y m j] w fun e w' => e = .returned (.agg #[.string (qg (zN (qbp a))), .string (qg (zN [])), .string (qg (zN [])), .slice y m j, .slice none 0 0]) ∧ Below w.heap.size w w' := by
 have NX := qb (fun W => qvq a W (by omega))
 have SM := qb (fun W => qrf (qbp a) [] [] y m j W);obtain ⟨za, hza⟩ : ∃ q, zN (qbp a) = q := ⟨_, rfl⟩;obtain ⟨zb, hzb⟩ : ∃ q, zN [] = q := ⟨_, rfl⟩;obtain ⟨zc, hzc⟩ : ∃ q, zN [] = q := ⟨_, rfl⟩;rw [hza, hzb] at SM ⊢;clear hza hzb hzc;generalize qbp a = nl at *;go_enter Tryz.func136, Tryz.ntmps136
 (go_wp2_with fail);have e0 := qkb w (.cells #[.string (qg a), .string (qg b), .string (qg c), .slice x n k, .int .i64 N] 123) (.cells #[.string ⟨#[]⟩, .string ⟨#[]⟩, .string ⟨#[]⟩, .slice none 0 0, .slice none 0 0] 33);have o0 := qgm w (.cells #[.string (qg a), .string (qg b), .string (qg c), .slice x n k, .int .i64 N] 123) (.cells #[.string ⟨#[]⟩, .string ⟨#[]⟩, .string ⟨#[]⟩, .slice none 0 0, .slice none 0 0] 33);have B0 := qb (qdr w (.cells #[.string (qg a), .string (qg b), .string (qg c), .slice x n k, .int .i64 N] 123) (.cells #[.string ⟨#[]⟩, .string ⟨#[]⟩, .string ⟨#[]⟩, .slice none 0 0, .slice none 0 0] 33));generalize (w.alloc (.cells #[.string (qg a), .string (qg b), .string (qg c), .slice x n k, .int .i64 N] 123)).alloc (.cells #[.string ⟨#[]⟩, .string ⟨#[]⟩, .string ⟨#[]⟩, .slice none 0 0, .slice none 0 0] 33) = W0 at *;refine (NX.out _).mono ?_;rintro e w1 ⟨rfl, b1⟩;have e1 := (b1.block _ (qcgg.1 e0).1).trans e0;have o1 := (b1.block _ (qcgg.1 o0).1).trans o0;have B1 := qb (B0.out.trans (b1.mono B0.out.size));have q0 := qd 0 o1 rfl;have q1 := qd 1 o1 rfl;have q2 := qd 2 o1 rfl;have E1 := qb e1;clear e0 o0 b1 e1 o1;(go_wp2_with fail);refine (SM.out _).mono ?_;rintro e w2 ⟨rfl, b2⟩;have e2 := (b2.block _ (qcgg.1 E1.out).1).trans E1.out;have B2 := qb (B1.out.trans (b2.mono B1.out.size));have E2 := qb e2;have g0 := qf 0 e2;have g1 := qf 1 e2
 have g2 := qf 2 e2;have g3 := qf 3 e2;have g4 := qf 4 e2;have r0 := qd 0 e2 rfl;have r1 := qd 1 e2 rfl;have r2 := qd 2 e2 rfl;have r3 := qd 3 e2 rfl;have r4 := qd 4 e2 rfl;clear e2 b2 q0 q1 q2;(go_wp2_with fail);exact qbvj _ _ (w.heap.size + 1) _ _ _ _ _ ⟨_, _, _, rfl⟩ ⟨_, _, _, rfl⟩ rfl (put5 _ _ _ _ _ E2.out) ⟨rfl, qbdr B2.out (by omega) _ _ _ _ _⟩
theorem qbxp (a b c : QB) (x : Option Addr) (n k : Nat) (N : Int) (y : Option Addr) (m j : Nat) (w : World) (hl : b.length ≤ 1024) :
  Calls Tryz.prog 136 #[.agg #[.string (qg a), .string (qg b), .string (qg c), .slice x n k, .int .i64 N], .int .i64 1, .slice y m j] w fun e w' => e = .returned (.agg #[.string (qg (zN a)), .string (qg (zN (qbp b))), .string (qg (zN [])), .slice y m j, .slice none 0 0]) ∧ Below w.heap.size w w' := by
 have NX := qb (fun W => qvq b W (by omega))
 have SM := qb (fun W => qrf a (qbp b) [] y m j W);obtain ⟨za, hza⟩ : ∃ q, zN a = q := ⟨_, rfl⟩;obtain ⟨zb, hzb⟩ : ∃ q, zN (qbp b) = q := ⟨_, rfl⟩;obtain ⟨zc, hzc⟩ : ∃ q, zN [] = q := ⟨_, rfl⟩;rw [hza, hzb, hzc] at SM ⊢;clear hza hzb hzc;generalize qbp b = nl at *;go_enter Tryz.func136, Tryz.ntmps136
 (go_wp2_with fail);have e0 := qkb w (.cells #[.string (qg a), .string (qg b), .string (qg c), .slice x n k, .int .i64 N] 123) (.cells #[.string ⟨#[]⟩, .string ⟨#[]⟩, .string ⟨#[]⟩, .slice none 0 0, .slice none 0 0] 33);have o0 := qgm w (.cells #[.string (qg a), .string (qg b), .string (qg c), .slice x n k, .int .i64 N] 123) (.cells #[.string ⟨#[]⟩, .string ⟨#[]⟩, .string ⟨#[]⟩, .slice none 0 0, .slice none 0 0] 33);have B0 := qb (qdr w (.cells #[.string (qg a), .string (qg b), .string (qg c), .slice x n k, .int .i64 N] 123) (.cells #[.string ⟨#[]⟩, .string ⟨#[]⟩, .string ⟨#[]⟩, .slice none 0 0, .slice none 0 0] 33));generalize (w.alloc (.cells #[.string (qg a), .string (qg b), .string (qg c), .slice x n k, .int .i64 N] 123)).alloc (.cells #[.string ⟨#[]⟩, .string ⟨#[]⟩, .string ⟨#[]⟩, .slice none 0 0, .slice none 0 0] 33) = W0 at *;refine (NX.out _).mono ?_;rintro e w1 ⟨rfl, b1⟩;have e1 := (b1.block _ (qcgg.1 e0).1).trans e0;have o1 := (b1.block _ (qcgg.1 o0).1).trans o0;have B1 := qb (B0.out.trans (b1.mono B0.out.size));have q0 := qd 0 o1 rfl;have q1 := qd 1 o1 rfl;have q2 := qd 2 o1 rfl;have E1 := qb e1;clear e0 o0 b1 e1 o1;(go_wp2_with fail);refine (SM.out _).mono ?_;rintro e w2 ⟨rfl, b2⟩;have e2 := (b2.block _ (qcgg.1 E1.out).1).trans E1.out;have B2 := qb (B1.out.trans (b2.mono B1.out.size));have E2 := qb e2;have g0 := qf 0 e2;have g1 := qf 1 e2
 have g2 := qf 2 e2;have g3 := qf 3 e2;have g4 := qf 4 e2;have r0 := qd 0 e2 rfl;have r1 := qd 1 e2 rfl;have r2 := qd 2 e2 rfl;have r3 := qd 3 e2 rfl;have r4 := qd 4 e2 rfl;clear e2 b2 q0 q1 q2;(go_wp2_with fail);exact qbvj _ _ (w.heap.size + 1) _ _ _ _ _ ⟨_, _, _, rfl⟩ ⟨_, _, _, rfl⟩ rfl (put5 _ _ _ _ _ E2.out) ⟨rfl, qbdr B2.out (by omega) _ _ _ _ _⟩
theorem qbwk (a b c : QB) (x : Option Addr) (n k : Nat) (N : Int) (y : Option Addr) (m j : Nat) (w : World) (hl : c.length ≤ 1024) :
  Calls Tryz.prog 136 #[.agg #[.string (qg a), .string (qg b), .string (qg c), .slice x n k, .int .i64 N], .int .i64 2, .slice y m j] w fun e w' => e = .returned (.agg #[.string (qg (zN a)), .string (qg (zN b)), .string (qg (zN (qbp c))), .slice y m j, .slice none 0 0]) ∧ Below w.heap.size w w' := by
 have NX := qb (fun W => qvq c W (by omega))
 have SM := qb (fun W => qrf a b (qbp c) y m j W);obtain ⟨za, hza⟩ : ∃ q, zN a = q := ⟨_, rfl⟩;obtain ⟨zb, hzb⟩ : ∃ q, zN b = q := ⟨_, rfl⟩;obtain ⟨zc, hzc⟩ : ∃ q, zN (qbp c) = q := ⟨_, rfl⟩;rw [hza, hzb, hzc] at SM ⊢;clear hza hzb hzc;generalize qbp c = nl at *;go_enter Tryz.func136, Tryz.ntmps136
 (go_wp2_with fail);have e0 := qkb w (.cells #[.string (qg a), .string (qg b), .string (qg c), .slice x n k, .int .i64 N] 123) (.cells #[.string ⟨#[]⟩, .string ⟨#[]⟩, .string ⟨#[]⟩, .slice none 0 0, .slice none 0 0] 33);have o0 := qgm w (.cells #[.string (qg a), .string (qg b), .string (qg c), .slice x n k, .int .i64 N] 123) (.cells #[.string ⟨#[]⟩, .string ⟨#[]⟩, .string ⟨#[]⟩, .slice none 0 0, .slice none 0 0] 33);have B0 := qb (qdr w (.cells #[.string (qg a), .string (qg b), .string (qg c), .slice x n k, .int .i64 N] 123) (.cells #[.string ⟨#[]⟩, .string ⟨#[]⟩, .string ⟨#[]⟩, .slice none 0 0, .slice none 0 0] 33));generalize (w.alloc (.cells #[.string (qg a), .string (qg b), .string (qg c), .slice x n k, .int .i64 N] 123)).alloc (.cells #[.string ⟨#[]⟩, .string ⟨#[]⟩, .string ⟨#[]⟩, .slice none 0 0, .slice none 0 0] 33) = W0 at *;refine (NX.out _).mono ?_;rintro e w1 ⟨rfl, b1⟩;have e1 := (b1.block _ (qcgg.1 e0).1).trans e0;have o1 := (b1.block _ (qcgg.1 o0).1).trans o0;have B1 := qb (B0.out.trans (b1.mono B0.out.size));have q0 := qd 0 o1 rfl;have q1 := qd 1 o1 rfl;have q2 := qd 2 o1 rfl;have E1 := qb e1;clear e0 o0 b1 e1 o1;(go_wp2_with fail);refine (SM.out _).mono ?_;rintro e w2 ⟨rfl, b2⟩;have e2 := (b2.block _ (qcgg.1 E1.out).1).trans E1.out;have B2 := qb (B1.out.trans (b2.mono B1.out.size));have E2 := qb e2;have g0 := qf 0 e2;have g1 := qf 1 e2
 have g2 := qf 2 e2;have g3 := qf 3 e2;have g4 := qf 4 e2;have r0 := qd 0 e2 rfl;have r1 := qd 1 e2 rfl;have r2 := qd 2 e2 rfl;have r3 := qd 3 e2 rfl;have r4 := qd 4 e2 rfl;clear e2 b2 q0 q1 q2;(go_wp2_with fail);exact qbvj _ _ (w.heap.size + 1) _ _ _ _ _ ⟨_, _, _, rfl⟩ ⟨_, _, _, rfl⟩ rfl (put5 _ _ _ _ _ E2.out) ⟨rfl, qbdr B2.out (by omega) _ _ _ _ _⟩
end Go.Proofs.YtpdlgiioahjhiaaGreat

namespace Go.Proofs.YtpdlgiioahjhiaaGreat
open Go.RowKit Go.Shelf
set_option linter.unusedVariables false
set_option maxHeartbeats 2000000
set_option maxRecDepth 100000
variable {A : Nat → Prop}
theorem zero_txt (w : World) : Txt (w.alloc (.cells #[.string ⟨#[48]⟩] 9)) (.slice (some ⟨w.heap.size, 0, none⟩) 1 1) [[48]] :=
 ⟨_, 1, rfl, .inr ⟨w.heap.size, 0, rfl, by simp, fun i hi => by
  have : i = 0 := by simpa using hi
  subst this;exact qd 0 (World.alloc_heap_new w _) rfl⟩⟩
theorem qbct (w : World) (hA : ∀ b, w.heap.size ≤ b → A b) : Calls Tryz.prog 135 #[] w (qfq A w qlx) := by
 have HA := qb hA;clear hA;have Z := qb (fun W => qln W);have S := qb (fun W => qrf [] [] [] (some ⟨w.heap.size, 0, none⟩) 1 1 W);have z0 : zN [] = [48] := rfl;rw [z0] at S;have TX := qb (zero_txt w);have b0 : Below w.heap.size w (w.alloc (.cells #[.string ⟨#[48]⟩] 9)) := (Below.refl _ w).alloc (Nat.le_refl _) _;have B0 := qb b0;clear b0 z0;go_enter Tryz.func135, Tryz.ntmps135
 (go_wp2_with fail);refine (Z.out _).mono ?_;rintro e w1 ⟨rfl, hw1⟩;rw [← hw1] at TX B0;clear hw1
 try dsimp only
 (go_wp2_with fail);refine (S.out _).mono ?_;rintro e w2 ⟨rfl, b2⟩;have TX2 := qb (TX.out.below b2);have B2 := qb (B0.out.trans (b2.mono B0.out.size));clear b2
 try dsimp only
 (go_wp2_with fail);go_ret
 have b3 : Below w2.heap.size w2 (w2.alloc (.cells #[.int .i64 1, .string (qg [48]), .string (qg [48]), .string (qg [48]), .slice (some ⟨w.heap.size, 0, none⟩) 1 1, .slice none 0 0] 35)) := (Below.refl _ w2).alloc (Nat.le_refl _) _;refine ⟨B2.out.trans (b3.mono B2.out.size), .inr ⟨w2.heap.size, [.int .i64 1, .string (qg [48]), .string (qg [48]), .string (qg [48]), .slice (some ⟨w.heap.size, 0, none⟩) 1 1, .slice none 0 0], rfl, B2.out.size, World.alloc_heap_new w2 _, ?_⟩⟩;exact ⟨_, [], by rw [List.append_nil], ⟨_, _, rfl, TX2.out.below b3, qt _, qjp (HA.out _ (Nat.le_refl _)), capZ (qt w)⟩, rfl⟩
end Go.Proofs.YtpdlgiioahjhiaaGreat

namespace Go.Proofs.YtpdlgiioahjhiaaGreat
open Go.RowKit Go.Shelf
open _root_.Array renaming getElem?_eq_some_iff → qcgg
open Nat renaming lt_of_lt_of_le → qcgt
open World renaming alloc_heap_new → qcgj
open Go renaming World → QW
set_option linter.unusedVariables false
set_option maxHeartbeats 4000000
set_option maxRecDepth 100000
variable {A : Nat → Prop}
def qbd (A : Nat → Prop) (w : QW) (cs : List Comp) (e : Ending) (w' : QW) : Prop :=
 Below w.heap.size w w' ∧ ∃ v xs, e = .returned v ∧ w'.ownsRow w.heap.size 35 6 v cs.length xs ∧ qbw A w' cs xs
theorem qbhr {W : QW} {base b n : Nat} {e : TypeId} {size : Nat} {xs : List Value} (hb : base ≤ b) (h : W.heap[b]? = some (.cells (List.toArray xs) e (0, 0))) (hl : xs.length = n * size) (hn : n ≤ maxLen) :
  W.ownsRow base e size (.slice (some ⟨b, 0, none⟩) n n) n xs :=
 ⟨hl, .inr ⟨b, n, _, rfl, hb, h, Nat.le_refl _, hn, by simpa using hl, by rw [List.toList_toArray, ← hl, List.take_length]⟩⟩
theorem qfq.toR {w w' : QW} {cs : List Comp} {e : Ending} (h : qfq A w cs e w') (hn : cs.length ≤ 1000) : qbd A w cs e w' := by
 obtain ⟨h1, ⟨rfl, rfl⟩ | ⟨b, xs, rfl, h4, h5, h6⟩⟩ := h
 ·exact ⟨h1, _, [], rfl, World.ownsRow_nil _ _ _ _, rfl⟩
 ·exact ⟨h1, _, xs, rfl, qbhr h4 h5 h6.len (by unfold maxLen; omega), h6⟩
theorem qqq {w : QW} {base base' : Nat} {e : TypeId} {size : Nat} {v : Value} {n : Nat} {xs : List Value} (h : w.ownsRow base e size v n xs) (hb : base' ≤ base) : w.ownsRow base' e size v n xs :=
 ⟨h.1, h.2.imp id fun ⟨g, cap, cur, h1, h2, h3⟩ => ⟨g, cap, cur, h1, Nat.le_trans hb h2, h3⟩⟩
theorem qbd.back {w W W' : QW} {cs : List Comp} {e : Ending} (h : qbd A W cs e W') (hb : Below w.heap.size w W) : qbd A w cs e W' := by
 obtain ⟨h1, v, xs, h2, h3, h4⟩ := h;exact ⟨hb.trans (h1.mono hb.size), v, xs, h2, qqq h3 hb.size, h4⟩
def nxD (a b c : QB) (k : Nat) : SemL :=
 match k with
 | 0 => ⟨zN (qbp a), zN [], zN [], [[48]], []⟩
 | 1 => ⟨zN a, zN (qbp b), zN [], [[48]], []⟩
 | _ => ⟨zN a, zN b, zN (qbp c), [[48]], []⟩
theorem qmf (a b c : QB) (x : Option Addr) (n m : Nat) (N : Int) (k : Nat) (hk : k ≤ 2) (y : Option Addr) (i j : Nat) (w : QW) (ha : a.length ≤ 1024) (hb : b.length ≤ 1024) (hc : c.length ≤ 1024) :
  Calls Tryz.prog 136 #[.agg #[.string (qg a), .string (qg b), .string (qg c), .slice x n m, .int .i64 N], .int .i64 (k : Int), .slice y i j] w fun e w' => e = .returned (.agg #[.string (qg (nxD a b c k).maj), .string (qg (nxD a b c k).min), .string (qg (nxD a b c k).pat), .slice y i j, .slice none 0 0]) ∧ Below w.heap.size w w' := by
 rcases (by omega : k = 0 ∨ k = 1 ∨ k = 2) with rfl | rfl | rfl
 ·exact qbxf a b c x n m N y i j w ha
 ·exact qbxp a b c x n m N y i j w hb
 ·exact qbwk a b c x n m N y i j w hc
theorem qbrd {W : QW} {z : Nat} (h : W.heap[z]? = some (.cells #[.string ⟨#[48]⟩] 9 (0, 0))) : Txt W (.slice (some ⟨z, 0, none⟩) 1 1) [[48]] := by
 refine ⟨_, 1, rfl, .inr ⟨z, 0, rfl, (qcgg.1 h).1, fun i hi => ?_⟩⟩;obtain rfl : i = 0 := by simpa using hi
 exact qd 0 h rfl
theorem qbbc {W W' : QW} {row : Option Nat} (hg : W.grownBy W' row) (hA : ∀ b, A b → row ≠ some b) : Keep A W W' :=
 ⟨hg.size, fun b cs t m hb h => (hg.block b (qcgg.1 h).1 (fun e => hA b hb e.symm)).trans h⟩
theorem b1_lt {n b q : Nat} (h1 : n ≤ b) (h2 : q < n) (h : b = q) : False := by omega
theorem b1_ge {n m b q : Nat} (h1 : n ≤ b) (h2 : m ≤ n) (h : b = q) : m ≤ q := by omega
theorem qws {W : QW} {c : Comp} {xs : List Value} (h : qbw A W [c] xs) : xs.length = 6 ∧ (∀ u ∈ xs, u.oneCell' = true) := ⟨h.len, one6 h⟩
theorem qdm {w w' : QW} {c : Comp} {e : Ending} (h : qfq A w [c] e w') : ∃ b xs, e = .returned (.slice (some ⟨b, 0, none⟩) 1 1) ∧ w.heap.size ≤ b ∧ w'.heap[b]? = some (.cells (List.toArray xs) 35 (0, 0)) ∧ qbw A w' [c] xs ∧ Below w.heap.size w w' := by
 obtain ⟨h1, ⟨h2, _⟩ | ⟨b, xs, h3, h4, h5, h6⟩⟩ := h
 ·cases h2
 ·exact ⟨b, xs, h3, h4, h5, h6, h1⟩
theorem qbx98 (a b c : QB) (x : Option Addr) (n m : Nat) (N : Int) (w : QW) : Hid (Below w.heap.size w (w.alloc (.cells #[.string (qg a), .string (qg b), .string (qg c), .slice x n m, .int .i64 N] 123))) ∧ (w.alloc (.cells #[.string (qg a), .string (qg b), .string (qg c), .slice x n m, .int .i64 N] 123)).heap[w.heap.size]? = some (.cells #[.string (qg a), .string (qg b), .string (qg c), .slice x n m, .int .i64 N] 123) := ⟨(Below.refl _ w).alloc (Nat.le_refl _) _, qcgj w _⟩
theorem qdf (a b c : QB) (pr : List QB) (x : Option Addr) (n m : Nat) (N : Int) (k : Nat) (hk : k ≤ 2) (w : QW) (hA : ∀ b, w.heap.size ≤ b → A b) (ht : Txt w (.slice x n m) pr) (hc : CapA A (.slice x n m)) (l1 : a.length ≤ 1024) (l2 : b.length ≤ 1024) (l3 : c.length ≤ 1024) :
  Calls Tryz.prog 133 #[.agg #[.string (qg a), .string (qg b), .string (qg c), .slice x n m, .int .i64 N], .int .i64 (k : Int)] w (qbd A w [(4, ⟨zN a, zN b, zN c, pr, []⟩), (1, nxD a b c k)]) := by
 obtain ⟨i0, hi, hz0, hz1, hz2⟩ := info_parts infoC;have HA := qb hA;have T0 := qb ht;have C0 := qb hc;have BG := qb (fun W => qdx a b c x n m N W);have NX := qb (fun y i j W => qmf a b c x n m N k hk y i j W l1 l2 l3);obtain ⟨y, hy⟩ : ∃ y, nxD a b c k = y := ⟨_, rfl⟩;have HY : Hid (y.pre = [[48]] ∧ y.bld = []) := by
  show _ ∧ _;rw [← hy];unfold nxD;split <;> exact ⟨rfl, rfl⟩
 rw [hy] at NX ⊢;clear hy hA ht hc hk l1 l2 l3;have b0 := qb ((Below.refl _ w).alloc (Nat.le_refl _) (.cells #[.string (qg a), .string (qg b), .string (qg c), .slice x n m, .int .i64 N] 123));have n0 := qcgj w (.cells #[.string (qg a), .string (qg b), .string (qg c), .slice x n m, .int .i64 N] 123);go_enter Tryz.func133, Tryz.ntmps133
 (go_wp2_with fail);generalize w.alloc _ = W0 at *;have q0 := qd 0 n0 rfl;have q1 := qd 1 n0 rfl;have q2 := qd 2 n0 rfl;have q3 := qd 3 n0 rfl;have q4 := qd 4 n0 rfl;have hl0 := qb (qcgg.1 n0).1;have bD := qb (b0.out.trans (qbh w.heap.size W0));have N0 := qb n0;clear n0;go_region_held3 (fun W' => W'.cell? ⟨w.heap.size, 0, none⟩ = some (.string (qg a)) ∧ W'.cell? ⟨w.heap.size, 1, none⟩ = some (.string (qg b)) ∧ W'.cell? ⟨w.heap.size, 2, none⟩ = some (.string (qg c)) ∧ W'.cell? ⟨w.heap.size, 3, none⟩ = some (.slice x n m) ∧ W'.cell? ⟨w.heap.size, 4, none⟩ = some (.int .i64 N)) (go_keep) ((first
  | (
   refine step_append_lies _ (by rfl) _ _ _ (by rfl) w.heap.size 35 i0 (.agg #[.int .i64 0, .string ⟨#[]⟩, .string ⟨#[]⟩, .string ⟨#[]⟩, .slice none 0 0, .slice none 0 0]) 6 104 Tryz.underlying39 hi hz0 hz1 hz2 rfl (by omega) (.slice (some ⟨b1, 0, none⟩) 1 1) 1 x1 (by rfl) O5.out ⟨b5, 0, none⟩ 1 1 x5 (by rfl) (by exact (qws E5.out).1) (fun j u hu => qvg (qd j D5.out (by rw [List.getElem?_toArray]; exact hu))) (qws E5.out).2 (by omega) (by unfold maxLen; omega) (by omega) B5.out.size w5.heap.size rfl ?_
   intro g6 cap6 w6 hown6 hgrow6 hat6 hlt6;have P6 : Hid (w6.heap[w.heap.size]? = some (.cells #[.string (qg a), .string (qg b), .string (qg c), .slice x n m, .int .i64 N] 123 (0, 0))) := (hgrow6.block w.heap.size LT5.out (fun h => NB1.out (Option.some.inj h))).trans P5.out;have e0 : w6.cell? ⟨w.heap.size, 0, none⟩ = some (.string (qg a)) := qd 0 P6.out rfl;have e1 : w6.cell? ⟨w.heap.size, 1, none⟩ = some (.string (qg b)) := qd 1 P6.out rfl;have e2 : w6.cell? ⟨w.heap.size, 2, none⟩ = some (.string (qg c)) := qd 2 P6.out rfl;have e3 : w6.cell? ⟨w.heap.size, 3, none⟩ = some (.slice x n m) := qd 3 P6.out rfl;have e4 : w6.cell? ⟨w.heap.size, 4, none⟩ = some (.int .i64 N) := qd 4 P6.out rfl
   skip)
  | (
   go_at_call 131
   have R4 := qb (qdc (A := fun q => A q ∧ q < w4.heap.size ∧ q ≠ b1) 1 (.agg #[.string (qg y.maj), .string (qg y.min), .string (qg y.pat), .slice (some ⟨zb, 0, none⟩) 1 1, .slice none 0 0]) y w4 ⟨_, _, rfl, by rw [HY.out.1]; exact qbrd Z4.out, by rw [HY.out.2]; exact qt _, qjp ⟨HAz.out, ZL4.out, ZN.out⟩, capZ (qt w)⟩)
   refine R4.out.mono ?_;rintro e w5 h5;obtain ⟨b5, x5, rfl, hc5, hd5, he5, hf5⟩ := qdm h5;have B5 := qb (B4.out.trans (hf5.mono B4.out.size));have F5 := qb hf5;have C5 := qb hc5;have D5 := qb hd5;have E5 := qb he5;have P5 : Hid (w5.heap[w.heap.size]? = some (.cells #[.string (qg a), .string (qg b), .string (qg c), .slice x n m, .int .i64 N] 123 (0, 0))) := (hf5.block w.heap.size LT4.out).trans P4.out;have LT5 := qb (qcgt LT4.out hf5.size);have O5 : Hid (w5.ownsRow w.heap.size 35 6 (.slice (some ⟨b1, 0, none⟩) 1 1) 1 x1) := qbhr (by have := CB1.out; have := B1.out.size; omega) ((F25.out hf5).trans D1.out) (qws E1.out).1 (by unfold maxLen; omega)
   have e0 : w5.cell? ⟨w.heap.size, 0, none⟩ = some (.string (qg a)) := qd 0 P5.out rfl;have e1 : w5.cell? ⟨w.heap.size, 1, none⟩ = some (.string (qg b)) := qd 1 P5.out rfl;have e2 : w5.cell? ⟨w.heap.size, 2, none⟩ = some (.string (qg c)) := qd 2 P5.out rfl;have e3 : w5.cell? ⟨w.heap.size, 3, none⟩ = some (.slice x n m) := qd 3 P5.out rfl;have e4 : w5.cell? ⟨w.heap.size, 4, none⟩ = some (.int .i64 N) := qd 4 P5.out rfl;clear h5 hc5 hd5 he5 hf5 R4)
  | (
   go_at_call 136
   refine (NX.out (some ⟨zb, 0, none⟩) 1 1 w3).mono ?_;rintro e w4 ⟨rfl, hf4⟩;have B4 := qb (B3.out.trans (hf4.mono B3.out.size));have F4 := qb hf4;have Z4 : Hid (w4.heap[zb]? = some (.cells #[.string ⟨#[48]⟩] 9 (0, 0))) := (hf4.block zb (qcgg.1 Z3.out).1).trans Z3.out;have ZL4 : Hid (zb < w4.heap.size) := (qcgg.1 Z4.out).1;have P4 : Hid (w4.heap[w.heap.size]? = some (.cells #[.string (qg a), .string (qg b), .string (qg c), .slice x n m, .int .i64 N] 123 (0, 0))) := (hf4.block w.heap.size LT3.out).trans P3.out;have LT4 := qb (qcgt LT3.out hf4.size);have F25 : Hid (∀ {W : QW}, Below w4.heap.size w4 W → W.heap[b1]? = w2.heap[b1]?) := fun hW => (hW.block b1 (by have := F3.out.size; have := hf4.size; have := BL2.out; omega)).trans ((hf4.block b1 (by have := F3.out.size; have := BL2.out; omega)).trans (F3.out.block b1 BL2.out))
   have e0 : w4.cell? ⟨w.heap.size, 0, none⟩ = some (.string (qg a)) := qd 0 P4.out rfl;have e1 : w4.cell? ⟨w.heap.size, 1, none⟩ = some (.string (qg b)) := qd 1 P4.out rfl;have e2 : w4.cell? ⟨w.heap.size, 2, none⟩ = some (.string (qg c)) := qd 2 P4.out rfl;have e3 : w4.cell? ⟨w.heap.size, 3, none⟩ = some (.slice x n m) := qd 3 P4.out rfl;have e4 : w4.cell? ⟨w.heap.size, 4, none⟩ = some (.int .i64 N) := qd 4 P4.out rfl;clear hf4)
  | (
   go_at_call 137
   refine (qln w2).mono ?_;rintro e w3 ⟨rfl, hw3⟩;have F3 : Hid (Below w2.heap.size w2 w3) := (hw3 ▸ (Below.refl _ w2).alloc (Nat.le_refl _) _);have Z3' : w3.heap[w2.heap.size]? = some (.cells #[.string ⟨#[48]⟩] 9 (0, 0)) := hw3 ▸ qcgj w2 _;obtain ⟨zb, hzb⟩ : ∃ zb, w2.heap.size = zb := ⟨_, rfl⟩;rw [hzb] at Z3' ⊢;have Z3 := qb Z3';have ZN : Hid (zb ≠ b1) := (fun h => by have h8 := BL2.out; omega)
   have HAz : Hid (A zb) := HA.out zb (by have := B2.out.size; omega)
   have B3 := qb (B2.out.trans (F3.out.mono B2.out.size));have P3 : Hid (w3.heap[w.heap.size]? = some (.cells #[.string (qg a), .string (qg b), .string (qg c), .slice x n m, .int .i64 N] 123 (0, 0))) := (F3.out.block w.heap.size LT2.out).trans P2.out;have LT3 := qb (qcgt LT2.out F3.out.size);have e0 : w3.cell? ⟨w.heap.size, 0, none⟩ = some (.string (qg a)) := qd 0 P3.out rfl;have e1 : w3.cell? ⟨w.heap.size, 1, none⟩ = some (.string (qg b)) := qd 1 P3.out rfl;have e2 : w3.cell? ⟨w.heap.size, 2, none⟩ = some (.string (qg c)) := qd 2 P3.out rfl;have e3 : w3.cell? ⟨w.heap.size, 3, none⟩ = some (.slice x n m) := qd 3 P3.out rfl;have e4 : w3.cell? ⟨w.heap.size, 4, none⟩ = some (.int .i64 N) := qd 4 P3.out rfl;clear hw3 Z3' hzb)
  | (
   go_at_call 131
   have R1 := qb (qdc (A := fun q => A q ∧ q < w1.heap.size) 4 (.agg #[.string (qg (zN a)), .string (qg (zN b)), .string (qg (zN c)), .slice x n m, .slice none 0 0]) ⟨zN a, zN b, zN c, pr, []⟩ w1 ⟨_, _, rfl, T0.out.below B1.out, qt _, qvw T0.out C0.out (fun q h1 h2 => ⟨h1, by have := B1.out.size; omega⟩), capZ (qt w)⟩)
   refine R1.out.mono ?_;rintro e w2 h2;obtain ⟨b1, x1, rfl, hc1, hd1, he1, hf1⟩ := qdm h2;have B2 := qb (B1.out.trans (hf1.mono B1.out.size));have CB1 := qb hc1;have D1 := qb hd1;have E1 := qb he1;have BL2 : Hid (b1 < w2.heap.size) := (qcgg.1 hd1).1;have NB1 : Hid (w.heap.size ≠ b1) := (fun h => by have h8 := LT1.out; omega)
   have P2 : Hid (w2.heap[w.heap.size]? = some (.cells #[.string (qg a), .string (qg b), .string (qg c), .slice x n m, .int .i64 N] 123 (0, 0))) := (hf1.block w.heap.size LT1.out).trans P1.out;have LT2 := qb (qcgt LT1.out hf1.size);have e0 : w2.cell? ⟨w.heap.size, 0, none⟩ = some (.string (qg a)) := qd 0 P2.out rfl;have e1 : w2.cell? ⟨w.heap.size, 1, none⟩ = some (.string (qg b)) := qd 1 P2.out rfl;have e2 : w2.cell? ⟨w.heap.size, 2, none⟩ = some (.string (qg c)) := qd 2 P2.out rfl;have e3 : w2.cell? ⟨w.heap.size, 3, none⟩ = some (.slice x n m) := qd 3 P2.out rfl;have e4 : w2.cell? ⟨w.heap.size, 4, none⟩ = some (.int .i64 N) := qd 4 P2.out rfl;clear h2 hc1 hd1 he1 hf1 R1)
  | (
   go_at_call 132
   refine (BG.out _).mono ?_;rintro e w1 ⟨rfl, hf0⟩;have B1 := qb (bD.out.trans (hf0.mono bD.out.size));have P1 : Hid (w1.heap[w.heap.size]? = some (.cells #[.string (qg a), .string (qg b), .string (qg c), .slice x n m, .int .i64 N] 123 (0, 0))) := (hf0.block w.heap.size hl0.out).trans N0.out;have LT1 : Hid (w.heap.size < w1.heap.size) := (qcgg.1 P1.out).1;have e0 : w1.cell? ⟨w.heap.size, 0, none⟩ = some (.string (qg a)) := qd 0 P1.out rfl;have e1 : w1.cell? ⟨w.heap.size, 1, none⟩ = some (.string (qg b)) := qd 1 P1.out rfl;have e2 : w1.cell? ⟨w.heap.size, 2, none⟩ = some (.string (qg c)) := qd 2 P1.out rfl;have e3 : w1.cell? ⟨w.heap.size, 3, none⟩ = some (.slice x n m) := qd 3 P1.out rfl;have e4 : w1.cell? ⟨w.heap.size, 4, none⟩ = some (.int .i64 N) := qd 4 P1.out rfl;clear hf0)
  | fail))
 try dsimp only
 (go_wp2_with fail);go_ret
 have K5 : Keep (fun q => A q ∧ q < w4.heap.size ∧ q ≠ b1) w5 w6 := qbbc hgrow6 (fun q hq e => hq.2.2 (Option.some.inj e).symm);have K2 : Keep (fun q => A q ∧ q < w1.heap.size) w2 w6 := (qfh (F3.out.trans ((F4.out.trans (F5.out.mono F4.out.size)).mono F3.out.size))).trans (qbbc hgrow6 (fun q hq e => b1_lt CB1.out hq.2 (Option.some.inj e)));refine ⟨B5.out.grown hgrow6 B5.out.size (fun q hq => b1_ge CB1.out B1.out.size (Option.some.inj hq)), _, _, rfl, hown6, ?_⟩;have h1 := E1.out.keep (A' := A) K2 (fun q h _ => h.1);have h2 := E5.out.keep (A' := A) K5 (fun q h _ => h.1);exact h1.app h2
end Go.Proofs.YtpdlgiioahjhiaaGreat
