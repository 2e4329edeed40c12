/- Walks: two comparators, from a partial's beginning up to beh -/
import Derived.Deep.RegionHeld3
import Derived.Test.YtpdlgiioahjhiaaGreatPEl
import Derived.Test.YtpdlgiioahjhiaaGreatPRb
namespace Go.Proofs.YtpdlgiioahjhiaaGreat
open Go.RowKit
set_option linter.unusedVariables false
set_option maxHeartbeats 4000000
set_option maxRecDepth 100000
theorem qvl {l : QB} {a : Nat} {p : PartL} {z r : Int} (h : (endP l a p z r).2.2 = 0) : r = 0 ∧ (endP l a p z r).2.1 = z := by
 unfold endP at *;split at h
 ·cases h
 ·rename_i h1;rw [if_neg h1];split at h
  ·cases h
  ·rename_i h2;rw [if_neg h2];exact ⟨h, rfl⟩
theorem vL_le {l : QB} {a : Nat} (ha : a ≤ l.length) : vL l a ≤ l.length ∧ a ≤ vL l a := by
 unfold vL;split
 ·rename_i h;have := (List.getElem?_eq_some_iff.1 h).1;omega
 ·omega
theorem np_ge {l : QB} {a : Nat} : a ≤ (npL l a).1 := by
 unfold npL;split
 ·simp only; omega
 ·split
  ·exact Nat.le_refl _
  ·split <;> (simp only; omega)
theorem rn_ge {l : QB} : ∀ (k i a : Nat) (sg : List (Nat × Nat)) (x : List (Nat × Nat) × Nat), rnGo l k i a sg = .ok x → a ≤ x.2
 | 0, i, a, sg, x, h => by
  unfold rnGo at h;split at h
  ·cases h
  ·cases h; exact np_ge
 | k + 1, i, a, sg, x, h => by
  unfold rnGo at h;have := np_ge (l := l) (a := a);split at h
  ·cases h
  ·split at h
   ·have := rn_ge (l := l) k _ _ _ x h; omega
   ·cases h; exact np_ge
theorem qbbg {l : QB} {a : Nat} (ha : a ≤ l.length) (h : (rpL l a).2.2 = 0) : ∃ e : Nat, (rpL l a).2.1 = (e : Int) ∧ a ≤ e ∧ e ≤ l.length := by
 have hv := vL_le ha;unfold rpL at *;cases hg : rnGo l 2 0 (vL l a) [] with
 | error x =>
  rw [hg] at h;dsimp only at h ⊢;exact absurd (qvl h).1 (rn_ne 2 0 _ [] x hg)
 | ok x =>
  rw [hg] at h;have hx := ((qbfj 2 0 _ [] hv.1 (Nat.zero_le _)).2 x hg).1;have hy := rn_ge 2 0 _ [] x hg;dsimp only at h ⊢
  by_cases h3 : x.1.length = 3
  ·rw [if_pos h3] at h ⊢;obtain ⟨h1, h2⟩ := qvl h;rw [h2];obtain ⟨e, he, h4, h5⟩ := pre_ok hx h1;exact ⟨e, he, by omega, h5⟩
  ·rw [if_neg h3] at h ⊢;obtain ⟨h1, h2⟩ := qvl h;rw [h2];exact ⟨x.2, rfl, by omega, hx⟩
def qgw (l : QB) (x : PartL × Int × Int) : Bool := decide (x.2.2 = 0) && decide (l[blk l x.2.1.toNat]? = some 45)
def FromP (w : World) (x : PartL × Int × Int) (b : Bool) (e : Ending) (w' : World) : Prop :=
 Below w.heap.size w w' ∧ ∃ v, e = .returned (.tuple #[qjj x.1 v, .int .i64 x.2.1, .bool b]) ∧ Txt w' v x.1.pre ∧ qhm w.heap.size v ∧ Cap v ∧ ∃ a n c, v = .slice a n c
theorem qbh (k : Nat) (W : World) : Below k W W.drew := qbm k W 1
theorem qll {W : World} {B : Nat} {o : Option Obj} (h : W.heap[B]? = o) : W.drew.heap[B]? = o := h
theorem qbzg {R : Ending → World → Prop} (tmps : Array Value) (W : World) (B : Nat) (x y z : QY) (p : Value) (t e : Int) (r : Bool) (hp : ∃ a n c, p = .slice a n c)
  (h4 : tmps.getD 4 undef = .pointer (some ⟨B, 0, none⟩)) (h5 : tmps.getD 5 undef = .int .i64 e) (h6 : tmps.getD 6 undef = .bool r)
  (e1 : W.heap[B]? = some (.cells #[.string x, .string y, .string z, p, .slice none 0 0, .int .i64 t] 54 (0, 0)))
  (hR : R (.returned (.tuple #[.agg #[.string x, .string y, .string z, p, .slice none 0 0, .int .i64 t], .int .i64 e, .bool r])) W) :
  bodyPost Tryz.prog Tryz.f51 R .ret { tmps := tmps, defers := [] } W := by
 obtain ⟨pa, pn, pc, rfl⟩ := hp;have r0 := qd 0 e1 rfl;have r1 := qd 1 e1 rfl;have r2 := qd 2 e1 rfl;have r3 := qd 3 e1 rfl;have r4 := qd 4 e1 rfl;have r5 := qd 5 e1 rfl;rw [Array.getD_eq_getD_getElem?] at h4 h5 h6;refine ⟨rfl, _, ?_, hR⟩;simp [results, Tryz.results51, go_sem, h4, h5, h6, r0, r1, r2, r3, r4, r5]
 try rfl
theorem qbkb (s : QY) (a : Nat) (w : World) (hs : s.size ≤ 256) (ha : a ≤ s.size) :
  Calls Tryz.prog 51 #[.string s, .int .i64 (a : Int)] w (FromP w (rpL s.data.toList a) (qgw s.data.toList (rpL s.data.toList a))) := by
 have RP := qb (fun W => qkv s a W hs ha);have RR := qb (fun (z : Int) W => qpn s z 6 W (by unfold maxLen; omega))
 have hok := qb (fun h => qbbg (l := s.data.toList) (a := a) (by rw [qh]; exact ha) h)
 generalize rpL s.data.toList a = X at *;have hr0 := qb (World.alloc_heap_new w (.cells #[.string ⟨#[]⟩, .string ⟨#[]⟩, .string ⟨#[]⟩, .slice none 0 0, .slice none 0 0, .int .i64 0] 54));have br0 := qb ((Below.refl _ w).alloc (Nat.le_refl _) (.cells #[.string ⟨#[]⟩, .string ⟨#[]⟩, .string ⟨#[]⟩, .slice none 0 0, .slice none 0 0, .int .i64 0] 54));go_enter Tryz.func51, Tryz.ntmps51
 (go_wp2_with fail);generalize w.alloc (.cells #[.string ⟨#[]⟩, .string ⟨#[]⟩, .string ⟨#[]⟩, .slice none 0 0, .slice none 0 0, .int .i64 0] 54) = W0 at *;refine (RP.out _).mono ?_;rintro e w2 ⟨hb2, v, rfl, t1, fr, cp, av, nv, cv, rfl⟩;have HL := qb (Array.getElem?_eq_some_iff.1 hr0.out).1;have FR := qb fr;have CP := qb cp;have P := qb (PB.start hr0.out br0.out hb2 (qg X.1.maj) (qg X.1.min) (qg X.1.pat) (.slice av nv cv) (X.1.told : Int));have T2 := qb (t1.below ((Below.refl _ w2).alloc (Nat.le_refl _) (.cells #[.string (qg X.1.maj), .string (qg X.1.min), .string (qg X.1.pat), .slice av nv cv, .slice none 0 0, .int .i64 (X.1.told : Int)] 54)));clear t1 fr cp hb2 RP hr0 br0;unfold qjj
 try dsimp only
 (go_wp2_with fail);generalize w2.alloc (.cells #[.string (qg X.1.maj), .string (qg X.1.min), .string (qg X.1.pat), .slice av nv cv, .slice none 0 0, .int .i64 (X.1.told : Int)] 54) = V at *;refine (RR.out _ _).mono ?_;rintro e w3 ⟨rfl, rfl⟩;obtain ⟨p, z, r⟩ := X;dsimp only at hok P T2 ⊢;obtain ⟨q0, q1, q2, q3, q4, q5, q6⟩ := P.out.seen;obtain ⟨r1, f1, f2, f3, f4, f5, f6, r2, r3, r4, r5, r6⟩ := P.out.seenR;have hne := P.out.big;have hne2 : ¬ w.heap.size = w2.heap.size := by omega
 generalize hg : qgw s.data.toList (p, z, r) = g at *;have HG := qb hg;clear hg
 by_cases hr : r = 0
 ·obtain ⟨e, he, h1, h2⟩ := hok.out hr;subst hr he;rw [qh] at h2;rw [qlf s e 6 h2];have hbk : ((e : Int) + (qz 6 (s.data.toList.drop e) : Int)) = ((blk s.data.toList e : Nat) : Int) := by unfold blk; simp
  rw [hbk];have hle := qdh (l := s.data.toList) (a := e) (by rw [qh]; exact h2)
  rw [qh] at hle;have hif : ∀ b, decide (s.data.toList[blk s.data.toList e]? = some 45) = b → g = b := by
   intro b h;rw [← HG.out];unfold qgw;dsimp only;rw [Int.toNat_natCast, h]
   rfl
  generalize blk s.data.toList e = d at *;have HIF := qb hif;have HBK := qb hbk;clear hif hbk hok HG
  by_cases hlt : d < s.size
  ·rw [qdz s d hlt] at HIF
   by_cases hc : s[d] = 45
   ·have c1 : ((s[d].toNat : Int) == 45) = true := by rw [hc]; rfl
    have HB := HIF.out true (by rw [hc]; rfl)
    subst HB;clear hc HIF;(go_wp2_with fail);go_region_held3 (fun W' => W'.cell? ⟨w2.heap.size, 0, none⟩ = some (.string (qg p.maj)) ∧ W'.cell? ⟨w2.heap.size, 1, none⟩ = some (.string (qg p.min)) ∧ W'.cell? ⟨w2.heap.size, 2, none⟩ = some (.string (qg p.pat)) ∧ W'.cell? ⟨w2.heap.size, 3, none⟩ = some (.slice av nv cv) ∧ W'.cell? ⟨w2.heap.size, 4, none⟩ = some (.slice none 0 0) ∧ W'.cell? ⟨w2.heap.size, 5, none⟩ = some (.int .i64 (p.told : Int))) (go_keep) (fail)
    all_goals (go_wp2_with fail; exact qbzg _ _ w.heap.size _ _ _ _ _ _ _ ⟨_, _, _, rfl⟩ rfl rfl rfl (qll (put6 _ _ _ _ _ _ P.out.res)) ⟨(qck P.out.bel _ _ _ _ _ _).trans (qbh _ _), _, rfl, (txt6 T2.out FR.out HL.out _ _ _ _ _ _).below (qbh _ _), qdn FR.out (by have := HL.out; omega), CP.out, _, _, _, rfl⟩)
   ·have c1 : ((s[d].toNat : Int) == 45) = false := qfl (k := 45) (by omega) hc
    have HB := HIF.out false (by simp [hc])
    subst HB;clear hc HIF;(go_wp2_with fail);go_region_held3 (fun W' => W'.cell? ⟨w2.heap.size, 0, none⟩ = some (.string (qg p.maj)) ∧ W'.cell? ⟨w2.heap.size, 1, none⟩ = some (.string (qg p.min)) ∧ W'.cell? ⟨w2.heap.size, 2, none⟩ = some (.string (qg p.pat)) ∧ W'.cell? ⟨w2.heap.size, 3, none⟩ = some (.slice av nv cv) ∧ W'.cell? ⟨w2.heap.size, 4, none⟩ = some (.slice none 0 0) ∧ W'.cell? ⟨w2.heap.size, 5, none⟩ = some (.int .i64 (p.told : Int))) (go_keep) (fail)
    all_goals (go_wp2_with fail; exact qbzg _ _ w.heap.size _ _ _ _ _ _ _ ⟨_, _, _, rfl⟩ rfl rfl rfl (qll (put6 _ _ _ _ _ _ P.out.res)) ⟨(qck P.out.bel _ _ _ _ _ _).trans (qbh _ _), _, rfl, (txt6 T2.out FR.out HL.out _ _ _ _ _ _).below (qbh _ _), qdn FR.out (by have := HL.out; omega), CP.out, _, _, _, rfl⟩)
  ·have l1 : decide ((d : Int) < (s.size : Int)) = false := by simp; omega
   have HB := HIF.out false (by rw [qft s d hlt]; simp)
   subst HB;clear HIF;(go_wp2_with fail);go_region
   all_goals (go_wp2_with fail; exact qbzg _ _ w.heap.size _ _ _ _ _ _ _ ⟨_, _, _, rfl⟩ rfl rfl rfl (qll (put6 _ _ _ _ _ _ P.out.res)) ⟨(qck P.out.bel _ _ _ _ _ _).trans (qbh _ _), _, rfl, (txt6 T2.out FR.out HL.out _ _ _ _ _ _).below (qbh _ _), qdn FR.out (by have := HL.out; omega), CP.out, _, _, _, rfl⟩)
 ·have hnb : (r == 0) = false := by simpa using hr
  have hf : g = false := by rw [← HG.out]; unfold qgw; simp [hr]
  subst hf;clear HG;(go_wp2_with fail);go_region
  all_goals (go_wp2_with fail; exact qbzg _ _ w.heap.size _ _ _ _ _ _ _ ⟨_, _, _, rfl⟩ rfl rfl rfl (qll (put6 _ _ _ _ _ _ P.out.res)) ⟨(qck P.out.bel _ _ _ _ _ _).trans (qbh _ _), _, rfl, (txt6 T2.out FR.out HL.out _ _ _ _ _ _).below (qbh _ _), qdn FR.out (by have := HL.out; omega), CP.out, _, _, _, rfl⟩)
end Go.Proofs.YtpdlgiioahjhiaaGreat

namespace Go.Proofs.YtpdlgiioahjhiaaGreat
open Go.RowKit
open Go renaming World → QW, Value → QV
set_option linter.unusedVariables false
set_option maxRecDepth 100000
variable {A : Nat → Prop}
abbrev Comp := Int × SemL
def CapA (A : Nat → Prop) (v : QV) : Prop := Cap v ∧ ∀ p n c, v = .slice (some p) n c → n = 0 ∨ A p.block
theorem capN {W : QW} {v : QV} (h : Txt W v []) : Cap v := by
 obtain ⟨a, c, rfl, _⟩ := h;rintro a n c h;cases h;exact Nat.zero_le _
theorem capZ {W : QW} {v : QV} (h : Txt W v []) : CapA A v := by
 refine ⟨capN h, ?_⟩;obtain ⟨a, c, rfl, _⟩ := h;rintro p n c h;cases h;exact .inl rfl
theorem qjp {b : Nat} (h : A b) : CapA A (.slice (some ⟨b, 0, none⟩) 1 1) :=
 ⟨by rintro a n c h; cases h; exact Nat.le_refl _, by rintro p n c e; cases e; exact .inr h⟩
def SemV (A : Nat → Prop) (W : QW) (v : QV) (x : SemL) : Prop := ∃ vp vb, v = .agg #[.string (qg x.maj), .string (qg x.min), .string (qg x.pat), vp, vb] ∧ Txt W vp x.pre ∧ Txt W vb x.bld ∧ CapA A vp ∧ CapA A vb
theorem SemV.below {W W' : QW} {v : QV} {x : SemL} (h : SemV A W v x) (hb : Below W.heap.size W W') : SemV A W' v x := by
 obtain ⟨vp, vb, h1, h2, h3, h4, h5⟩ := h;exact ⟨vp, vb, h1, h2.below hb, h3.below hb, h4, h5⟩
theorem SemV.toAt {W : QW} {v : QV} {x : SemL} (h : SemV A W v x) : qfd W v x := by
 obtain ⟨vp, vb, h1, h2, h3, _⟩ := h;exact ⟨vp, vb, h1, h2, h3⟩
def qcbj (A : Nat → Prop) (W : QW) (c : Comp) (xs : List QV) : Prop :=
 ∃ vp vb, xs = [.int .i64 c.1, .string (qg c.2.maj), .string (qg c.2.min), .string (qg c.2.pat), vp, vb] ∧ Txt W vp c.2.pre ∧ Txt W vb c.2.bld ∧ CapA A vp ∧ CapA A vb
theorem qcbj.below {W W' : QW} {c : Comp} {xs : List QV} (h : qcbj A W c xs) (hb : Below W.heap.size W W') : qcbj A W' c xs := by
 obtain ⟨vp, vb, h1, h2, h3, h4, h5⟩ := h;exact ⟨vp, vb, h1, h2.below hb, h3.below hb, h4, h5⟩
def qbw (A : Nat → Prop) (W : QW) : List Comp → List QV → Prop
 | [], xs => xs = []
 | c :: cs, xs => ∃ ys zs, xs = ys ++ zs ∧ qcbj A W c ys ∧ qbw A W cs zs
theorem qbw.below {W W' : QW} : ∀ {cs : List Comp} {xs : List QV}, qbw A W cs xs → Below W.heap.size W W' → qbw A W' cs xs
 | [], _, h, _ => h
 | c :: cs, xs, h, hb => by
  obtain ⟨ys, zs, h1, h2, h3⟩ := h;exact ⟨ys, zs, h1, h2.below hb, qbw.below h3 hb⟩
theorem qbw.app {W : QW} : ∀ {cs ds : List Comp} {xs ys : List QV}, qbw A W cs xs → qbw A W ds ys → qbw A W (cs ++ ds) (xs ++ ys)
 | [], ds, xs, ys, h, h' => by cases h; exact h'
 | c :: cs, ds, xs, ys, h, h' => by
  obtain ⟨us, vs, rfl, h2, h3⟩ := h;exact ⟨us, vs ++ ys, by rw [List.append_assoc], h2, qbw.app h3 h'⟩
theorem qbw.len {W : QW} : ∀ {cs : List Comp} {xs : List QV}, qbw A W cs xs → xs.length = cs.length * 6
 | [], xs, h => by cases h; rfl
 | c :: cs, xs, h => by
  obtain ⟨us, vs, rfl, ⟨vp, vb, rfl, _⟩, h3⟩ := h;have := qbw.len h3;simp;omega
def qfq (A : Nat → Prop) (w : QW) (cs : List Comp) (e : Ending) (w' : QW) : Prop :=
 Below w.heap.size w w' ∧ ((cs = [] ∧ e = .returned (.slice none 0 0)) ∨ ∃ b xs, e = .returned (.slice (some ⟨b, 0, none⟩) cs.length cs.length) ∧ w.heap.size ≤ b ∧ w'.heap[b]? = some (.cells (List.toArray xs) 35 (0, 0)) ∧ qbw A w' cs xs)
theorem qmt (op : Int) (v : QV) (x : SemL) (w : QW) (hv : SemV A w v x) :
  Calls Tryz.prog 121 #[.int .i64 op, v] w (qfq A w [(op, x)]) := by
 obtain ⟨vp, vb, rfl, t1, t2, c1, c2⟩ := hv;obtain ⟨a1, k1, rfl, x1⟩ := id t1;obtain ⟨a2, k2, rfl, x2⟩ := id t2;have T1 := qb t1;have T2 := qb t2;clear t1 t2 x1 x2;go_enter Tryz.func121, Tryz.ntmps121
 (go_wp2_with fail);go_ret
 have b1 : Below w.heap.size w (w.alloc (.cells #[.string (qg x.maj), .string (qg x.min), .string (qg x.pat), .slice a1 x.pre.length k1, .slice a2 x.bld.length k2] 33)) := (Below.refl _ w).alloc (Nat.le_refl _) _;refine ⟨b1.alloc b1.size _, .inr ⟨w.heap.size + 1, [.int .i64 op, .string (qg x.maj), .string (qg x.min), .string (qg x.pat), .slice a1 x.pre.length k1, .slice a2 x.bld.length k2], rfl, by omega, ?_, ?_⟩⟩
 ·have := World.alloc_heap_new (w.alloc (.cells #[.string (qg x.maj), .string (qg x.min), .string (qg x.pat), .slice a1 x.pre.length k1, .slice a2 x.bld.length k2] 33)) (.cells #[.int .i64 op, .string (qg x.maj), .string (qg x.min), .string (qg x.pat), .slice a1 x.pre.length k1, .slice a2 x.bld.length k2] 35);rw [show (w.alloc (.cells #[.string (qg x.maj), .string (qg x.min), .string (qg x.pat), .slice a1 x.pre.length k1, .slice a2 x.bld.length k2] 33)).heap.size = w.heap.size + 1 by simp] at this
  exact this
 ·exact ⟨_, [], by rw [List.append_nil], ⟨_, _, rfl, (T1.out.below b1).below ((Below.refl _ _).alloc (Nat.le_refl _) _), (T2.out.below b1).below ((Below.refl _ _).alloc (Nat.le_refl _) _), c1, c2⟩, rfl⟩
end Go.Proofs.YtpdlgiioahjhiaaGreat

namespace Go.Proofs.YtpdlgiioahjhiaaGreat
open Go.RowKit
open _root_.Array renaming getD_eq_getD_getElem? → qchb
open World renaming alloc_heap_new → qcgj
set_option linter.unusedVariables false
set_option maxHeartbeats 1000000
set_option maxRecDepth 100000
variable {A : Nat → Prop}
theorem fin146 {R : Ending → World → Prop} (tmps : Array Value) (W : World) (B : Nat) (x y z : QY) (p q : Value) (hp : ∃ a n c, p = .slice a n c) (hq : ∃ a n c, q = .slice a n c)
  (h2 : tmps.getD 2 undef = .pointer (some ⟨B, 0, none⟩)) (e1 : W.heap[B]? = some (.cells #[.string x, .string y, .string z, p, q] 33 (0, 0)))
  (hR : R (.returned (.agg #[.string x, .string y, .string z, p, q])) W) : bodyPost Tryz.prog Tryz.f148 R .ret { tmps := tmps, defers := [] } W := by
 obtain ⟨pa, pn, pc, rfl⟩ := hp;obtain ⟨qa, qn, qc, rfl⟩ := hq;have r0 := qd 0 e1 rfl;have r1 := qd 1 e1 rfl;have r2 := qd 2 e1 rfl;have r3 := qd 3 e1 rfl;have r4 := qd 4 e1 rfl;rw [qchb] at h2;refine ⟨rfl, _, ?_, hR⟩;simp [results, Tryz.results148, go_sem, h2, r0, r1, r2, r3, r4]
 try rfl
theorem fin120 {R : Ending → World → Prop} (tmps : Array Value) (W : World) (B : Nat) (x y z : QY) (p q : Value) (hp : ∃ a n c, p = .slice a n c) (hq : ∃ a n c, q = .slice a n c)
  (h2 : tmps.getD 4 undef = .pointer (some ⟨B, 0, none⟩)) (e1 : W.heap[B]? = some (.cells #[.string x, .string y, .string z, p, q] 33 (0, 0)))
  (hR : R (.returned (.agg #[.string x, .string y, .string z, p, q])) W) : bodyPost Tryz.prog Tryz.f122 R .ret { tmps := tmps, defers := [] } W := by
 obtain ⟨pa, pn, pc, rfl⟩ := hp;obtain ⟨qa, qn, qc, rfl⟩ := hq;have r0 := qd 0 e1 rfl;have r1 := qd 1 e1 rfl;have r2 := qd 2 e1 rfl;have r3 := qd 3 e1 rfl;have r4 := qd 4 e1 rfl;rw [qchb] at h2;refine ⟨rfl, _, ?_, hR⟩;simp [results, Tryz.results122, go_sem, h2, r0, r1, r2, r3, r4]
 try rfl
theorem qzq (w : World) (o1 o2 o3 : Obj) : (((w.alloc o1).alloc o2).alloc o3).heap[w.heap.size + 1]? = some o2 := by
 have h := qcgj (w.alloc o1) o2;rw [show (w.alloc o1).heap.size = w.heap.size + 1 by simp] at h
 exact ((qbb.cons h (qbb.nil _)).alloc o3).head
theorem qzj (w : World) (o1 o2 o3 : Obj) : (((w.alloc o1).alloc o2).alloc o3).heap[w.heap.size + 1 + 1]? = some o3 := by
 have h := qcgj ((w.alloc o1).alloc o2) o3;rw [show ((w.alloc o1).alloc o2).heap.size = w.heap.size + 1 + 1 by simp] at h
 exact h
theorem qwp (w : World) (o1 o2 o3 : Obj) : Below w.heap.size w (((w.alloc o1).alloc o2).alloc o3) :=
 (((Below.refl _ w).alloc (Nat.le_refl _) o1).alloc (by simp) o2).alloc (by simp; omega) o3
theorem qth (w : World) (o1 o2 o3 : Obj) : Below w.heap.size w (((w.alloc o1).alloc o2).alloc o3) := qwp w o1 o2 o3
theorem qkb (w : World) (o1 o2 : Obj) : ((w.alloc o1).alloc o2).heap[w.heap.size + 1]? = some o2 := by
 have h := qcgj (w.alloc o1) o2;rw [show (w.alloc o1).heap.size = w.heap.size + 1 by simp] at h
 exact h
theorem qdr (w : World) (o1 o2 : Obj) : Below w.heap.size w ((w.alloc o1).alloc o2) :=
 ((Below.refl _ w).alloc (Nat.le_refl _) o1).alloc (by simp) o2
def qmh (x : SemL) : SemL := ⟨x.maj, x.min, x.pat, [[48]], x.bld⟩
theorem qccr (v : Value) (x : SemL) (w : World) (hA : ∀ b, w.heap.size ≤ b → A b) (hv : SemV A w v x) :
  Calls Tryz.prog 148 #[v] w fun e w' => Below w.heap.size w w' ∧ ∃ u, e = .returned u ∧ SemV A w' u (qmh x) := by
 obtain ⟨vp, vb, rfl, t1, t2, c1, c2⟩ := hv;obtain ⟨a1, k1, rfl, x1⟩ := id t1;obtain ⟨a2, k2, rfl, x2⟩ := id t2;have T2 := qb t2;have HX2 := qb x2;clear t1 t2 x1 x2;go_enter Tryz.func148, Tryz.ntmps148
 (go_wp2_with fail);refine fin146 _ _ (w.heap.size + 1) _ _ _ _ _ ⟨_, _, _, rfl⟩ ⟨_, _, _, rfl⟩ rfl (qzq w _ _ _) ⟨qth w _ _ _, _, rfl, _, _, rfl, ?_, (T2.out.below (qwp w _ _ _)), qjp (hA _ (by omega)), c2⟩
 exact ⟨_, 1, rfl, .inr ⟨w.heap.size + 1 + 1, 0, rfl, by simp, fun i hi => by
  have : i = 0 := by simpa [qmh] using hi
  subst this;exact qd 0 (qzj w _ _ _) rfl⟩⟩
end Go.Proofs.YtpdlgiioahjhiaaGreat

namespace Go.Proofs.YtpdlgiioahjhiaaGreat
open Go.RowKit
set_option linter.unusedVariables false
set_option maxHeartbeats 2000000
set_option maxRecDepth 100000
variable {A : Nat → Prop}
theorem qbhc (x : SemL) (a1 a2 : Option Addr) (n1 k1 n2 k2 : Nat) (w : World) :
  Calls Tryz.prog 148 #[.agg #[.string (qg x.maj), .string (qg x.min), .string (qg x.pat), .slice a1 n1 k1, .slice a2 n2 k2]] w fun e w' => Below w.heap.size w w' ∧
   ∃ b, e = .returned (.agg #[.string (qg x.maj), .string (qg x.min), .string (qg x.pat), .slice (some ⟨b, 0, none⟩) 1 1, .slice a2 n2 k2]) ∧ w.heap.size ≤ b ∧ Txt w' (.slice (some ⟨b, 0, none⟩) 1 1) [[48]] := by
 go_enter Tryz.func148, Tryz.ntmps148
 (go_wp2_with fail);refine fin146 _ _ (w.heap.size + 1) _ _ _ _ _ ⟨_, _, _, rfl⟩ ⟨_, _, _, rfl⟩ rfl (qzq w _ _ _) ⟨qth w _ _ _, w.heap.size + 1 + 1, rfl, by omega, ?_⟩
 exact ⟨_, 1, rfl, .inr ⟨w.heap.size + 1 + 1, 0, rfl, by simp, fun i hi => by
  have : i = 0 := by simpa using hi
  subst this;exact qd 0 (qzj w _ _ _) rfl⟩⟩
theorem qbrh {W W' : World} {v : Value} (h : Txt W v []) : Txt W' v [] := by
 obtain ⟨a, c, hv, _⟩ := h;exact ⟨a, c, hv, .inl rfl⟩
theorem qbpj (x : SemL) (p : Int) : (qgk x p).pre = [] ∧ (qgk x p).bld = [] := by
 unfold qgk;split
 ·split
  ·split
   ·unfold rais; repeat' split
    all_goals exact ⟨rfl, rfl⟩
   ·exact ⟨rfl, rfl⟩
  ·exact ⟨rfl, rfl⟩
 ·exact ⟨rfl, rfl⟩
def begL (p : PartL) : SemL := ⟨p.maj, p.min, p.pat, p.pre, []⟩
def behL (p : PartL) (k : Int) : SemL := qmh (qgk (begL p) k)
structure PShort (p : PartL) : Prop where
 a : p.maj.length ≤ 1024
 b : p.min.length ≤ 1024
 c : p.pat.length ≤ 1024
 d : p.pre.length ≤ 1024 ∧ ∀ t ∈ p.pre, t.length ≤ 1024
 t : p.told ≤ 3
theorem PShort.sem {p : PartL} (h : PShort p) : qct (begL p) :=
 ⟨by have := h.a; simp only [begL]; omega, by have := h.b; simp only [begL]; omega, by have := h.c; simp only [begL]; omega, ⟨by have := h.d.1; simp only [begL]; omega, fun t ht => by have := h.d.2 t ht; omega⟩, ⟨by simp [begL], by simp [begL]⟩⟩
def qnz (A : Nat → Prop) (W : World) (v : Value) (p : PartL) : Prop := ∃ vp, v = qjj p vp ∧ Txt W vp p.pre ∧ CapA A vp ∧ ∃ a n c, vp = .slice a n c
theorem qnz.below {W W' : World} {v : Value} {p : PartL} (h : qnz A W v p) (hb : Below W.heap.size W W') : qnz A W' v p := by
 obtain ⟨vp, h1, h2, h3, h4⟩ := h;exact ⟨vp, h1, h2.below hb, h3, h4⟩
theorem qbtx {W : World} {y : SemL} {vp vb : Value} (h1 : Txt W vp [[48]]) (h2 : Txt W vb y.bld) (c1 : CapA A vp) (c2 : CapA A vb) : SemV A W (.agg #[.string (qg y.maj), .string (qg y.min), .string (qg y.pat), vp, vb]) (qmh y) := ⟨vp, vb, rfl, h1, h2, c1, c2⟩
theorem put5 {W : World} {B : Nat} {t : TypeId} {u0 u1 u2 u3 u4 : Value} (v0 v1 v2 v3 v4 : Value) (h : W.heap[B]? = some (.cells #[u0, u1, u2, u3, u4] t (0, 0))) :
  (((((W.setCell ⟨B, 0, none⟩ v0).setCell ⟨B, 1, none⟩ v1).setCell ⟨B, 2, none⟩ v2).setCell ⟨B, 3, none⟩ v3).setCell ⟨B, 4, none⟩ v4).heap[B]? = some (.cells #[v0, v1, v2, v3, v4] t (0, 0)) :=
 qv 4 v4 (qv 3 v3 (qv 2 v2 (qv 1 v1 (qv 0 v0 h))))
theorem qbdr {w W : World} {B : Nat} (h : Below w.heap.size w W) (hB : w.heap.size ≤ B) (v0 v1 v2 v3 v4 : Value) :
  Below w.heap.size w (((((W.setCell ⟨B, 0, none⟩ v0).setCell ⟨B, 1, none⟩ v1).setCell ⟨B, 2, none⟩ v2).setCell ⟨B, 3, none⟩ v3).setCell ⟨B, 4, none⟩ v4) :=
 ((((h.setCell hB _).setCell hB _).setCell hB _).setCell hB _).setCell hB _
theorem txt5 {W : World} {v : Value} {ts : List QB} {n B : Nat} (h : Txt W v ts) (hf : qhm n v) (hB : B < n) (v0 v1 v2 v3 v4 : Value) :
  Txt (((((W.setCell ⟨B, 0, none⟩ v0).setCell ⟨B, 1, none⟩ v1).setCell ⟨B, 2, none⟩ v2).setCell ⟨B, 3, none⟩ v3).setCell ⟨B, 4, none⟩ v4) v ts :=
 qdv (qdv (qdv (qdv (qdv h hf hB _ _) hf hB _ _) hf hB _ _) hf hB _ _) hf hB _ _
theorem qhf (v : Value) (p : PartL) (k : Int) (w : World) (hA : ∀ b, w.heap.size ≤ b → A b) (hv : qnz A w v p) (hp : PShort p) :
  Calls Tryz.prog 122 #[v, .int .i64 k] w fun e w' => Below w.heap.size w w' ∧ ∃ u, e = .returned u ∧ SemV A w' u (behL p k) := by
 obtain ⟨vp, rfl, t1, c1, a1, n1, k1, rfl⟩ := hv;have HN := qb (fun W (hW : Below w.heap.size w W) => qbhm (.agg #[.string (qg p.maj), .string (qg p.min), .string (qg p.pat), .slice a1 n1 k1, .slice none 0 0]) (begL p) k W ⟨_, _, rfl, t1.below hW, qt W⟩ hp.sem (by have := hp.a; simp only [begL]; omega) (by have := hp.b; simp only [begL]; omega) (by have := hp.c; simp only [begL]; omega))
 have hnil := qbpj (begL p) k;have HA := qb hA;clear t1 c1 hp hA;unfold qjj behL;generalize qgk (begL p) k = y at *;obtain ⟨z1, z2⟩ := hnil;have hz := qb (qkb w (.cells #[.string (qg p.maj), .string (qg p.min), .string (qg p.pat), .slice a1 n1 k1, .slice none 0 0, .int .i64 (p.told : Int)] 54) (.cells #[.string ⟨#[]⟩, .string ⟨#[]⟩, .string ⟨#[]⟩, .slice none 0 0, .slice none 0 0] 33));have hb0 := qb (qdr w (.cells #[.string (qg p.maj), .string (qg p.min), .string (qg p.pat), .slice a1 n1 k1, .slice none 0 0, .int .i64 (p.told : Int)] 54) (.cells #[.string ⟨#[]⟩, .string ⟨#[]⟩, .string ⟨#[]⟩, .slice none 0 0, .slice none 0 0] 33));go_enter Tryz.func122, Tryz.ntmps122
 (go_wp2_with fail);generalize (w.alloc _).alloc _ = W0 at *;refine (HN.out _ hb0.out).mono ?_;rintro e w2 ⟨hb2, u, rfl, hu⟩;obtain ⟨q1, q2, rfl, s1, s2⟩ := hu;rw [z1] at s1;rw [z2] at s2;obtain ⟨aa, ca, rfl, _⟩ := id s1;obtain ⟨ab, cb, rfl, _⟩ := id s2;have S2 := qb s2;have hl0 := (Array.getElem?_eq_some_iff.1 hz.out).1;have hz2 := qb ((hb2.block _ hl0).trans hz.out);have hl2 := qb (Nat.lt_of_lt_of_le hl0 hb2.size);have hb3 := qb (hb0.out.trans (hb2.mono hb0.out.size));clear hb2 s1 s2 hz hb0 hl0 HN;(go_wp2_with fail);refine (qbhc y _ _ _ _ _ _ _).mono ?_;rintro e w3 ⟨hb4, b, rfl, hbb, tb⟩;have hz3 := qb ((hb4.block _ hl2.out).trans hz2.out);have hb5 := qb (hb3.out.trans (hb4.mono hb3.out.size));have TB := qb tb;obtain ⟨f0, f1, f2, f3, f4, g0, g1, g2, g3, g4⟩ : w3.frozen? ⟨w.heap.size + 1, 0, none⟩ = false ∧ w3.frozen? ⟨w.heap.size + 1, 1, none⟩ = false ∧ w3.frozen? ⟨w.heap.size + 1, 2, none⟩ = false ∧ w3.frozen? ⟨w.heap.size + 1, 3, none⟩ = false ∧ w3.frozen? ⟨w.heap.size + 1, 4, none⟩ = false ∧ w3.cell? ⟨w.heap.size + 1, 0, none⟩ = some (.string ⟨#[]⟩) ∧ w3.cell? ⟨w.heap.size + 1, 1, none⟩ = some (.string ⟨#[]⟩) ∧ w3.cell? ⟨w.heap.size + 1, 2, none⟩ = some (.string ⟨#[]⟩) ∧ w3.cell? ⟨w.heap.size + 1, 3, none⟩ = some (.slice none 0 0) ∧ w3.cell? ⟨w.heap.size + 1, 4, none⟩ = some (.slice none 0 0) :=
  ⟨qf 0 hz3.out, qf 1 hz3.out, qf 2 hz3.out, qf 3 hz3.out, qf 4 hz3.out, qd 0 hz3.out rfl, qd 1 hz3.out rfl, qd 2 hz3.out rfl, qd 3 hz3.out rfl, qd 4 hz3.out rfl⟩
 have HBB := qb hbb;clear hb4 tb hbb
 try dsimp only
 (go_wp2_with fail);have hput := put5 (.string (qg y.maj)) (.string (qg y.min)) (.string (qg y.pat)) (.slice (some ⟨b, 0, none⟩) 1 1) (.slice ab 0 cb) hz3.out;have hbel := qbdr hb5.out (Nat.le_succ _) (.string (qg y.maj)) (.string (qg y.min)) (.string (qg y.pat)) (.slice (some ⟨b, 0, none⟩) 1 1) (.slice ab 0 cb);have htx := txt5 TB.out (n := w2.heap.size) (by rintro a i c h; cases h; exact HBB.out) hl2.out (.string (qg y.maj)) (.string (qg y.min)) (.string (qg y.pat)) (.slice (some ⟨b, 0, none⟩) 1 1) (.slice ab 0 cb)
 have htn : Txt w2 (.slice ab 0 cb) [] := S2.out;generalize ((((w3.setCell ⟨w.heap.size + 1, 0, none⟩ (.string (qg y.maj))).setCell ⟨w.heap.size + 1, 1, none⟩ (.string (qg y.min))).setCell ⟨w.heap.size + 1, 2, none⟩ (.string (qg y.pat))).setCell ⟨w.heap.size + 1, 3, none⟩ (.slice (some ⟨b, 0, none⟩) 1 1)).setCell ⟨w.heap.size + 1, 4, none⟩ (.slice ab 0 cb) = WF at *;have hc1 : CapA A (.slice (some ⟨b, 0, none⟩) 1 1) := qjp (HA.out b (Nat.le_trans hb3.out.size HBB.out));have hsv : SemV A WF (.agg #[.string (qg y.maj), .string (qg y.min), .string (qg y.pat), .slice (some ⟨b, 0, none⟩) 1 1, .slice ab 0 cb]) (qmh y) := qbtx htx (by rw [z2]; exact qbrh htn) hc1 (capZ htn)
 exact fin120 _ _ (w.heap.size + 1) _ _ _ _ _ ⟨_, _, _, rfl⟩ ⟨_, _, _, rfl⟩ rfl hput ⟨hbel, _, rfl, hsv⟩
end Go.Proofs.YtpdlgiioahjhiaaGreat

namespace Go.Proofs.YtpdlgiioahjhiaaGreat
open Go.RowKit
set_option linter.unusedVariables false
set_option maxHeartbeats 2000000
set_option maxRecDepth 100000
variable {A : Nat → Prop}
def qjf (p : PartL) (k : Int) : List Comp := [(4, begL p), (1, behL p k)]
theorem qccc {w W : World} {x y : SemL} {b : Nat} {vp vb vq vc : Value} {o1 o2 : Int} (hb : Below w.heap.size w W) (hw : w.heap.size ≤ b)
  (h : W.heap[b]? = some (.cells #[.int .i64 o1, .string (qg x.maj), .string (qg x.min), .string (qg x.pat), vp, vb, .int .i64 o2, .string (qg y.maj), .string (qg y.min), .string (qg y.pat), vq, vc] 35 (0, 0)))
  (t1 : Txt W vp x.pre) (t2 : Txt W vb x.bld) (t3 : Txt W vq y.pre) (t4 : Txt W vc y.bld) (c1 : CapA A vp) (c2 : CapA A vb) (c3 : CapA A vq) (c4 : CapA A vc) :
  qfq A w [(o1, x), (o2, y)] (.returned (.slice (some ⟨b, 0, none⟩) 2 2)) W :=
 ⟨hb, .inr ⟨b, [.int .i64 o1, .string (qg x.maj), .string (qg x.min), .string (qg x.pat), vp, vb, .int .i64 o2, .string (qg y.maj), .string (qg y.min), .string (qg y.pat), vq, vc], rfl, hw, h,
  [.int .i64 o1, .string (qg x.maj), .string (qg x.min), .string (qg x.pat), vp, vb], [.int .i64 o2, .string (qg y.maj), .string (qg y.min), .string (qg y.pat), vq, vc], rfl, ⟨vp, vb, rfl, t1, t2, c1, c2⟩,
  [.int .i64 o2, .string (qg y.maj), .string (qg y.min), .string (qg y.pat), vq, vc], [], rfl, ⟨vq, vc, rfl, t3, t4, c3, c4⟩, rfl⟩⟩
theorem qhc (v : Value) (p : PartL) (k : Int) (w : World) (hA : ∀ b, w.heap.size ≤ b → A b) (hv : qnz A w v p) (hp : PShort p) :
  Calls Tryz.prog 167 #[v, .int .i64 k] w (qfq A w (qjf p k)) := by
 have BH := qb (fun W (hW : Below w.heap.size w W) => qhf v p k W (fun b hb => hA b (Nat.le_trans hW.size hb)) (hv.below hW) hp);obtain ⟨vp, rfl, t1, c1, a1, n1, k1, rfl⟩ := hv;have T1 := qb t1;have C1 := qb c1;clear t1 c1 hp hA;unfold qjf;generalize behL p k = y at *;unfold qjj at BH ⊢;have b0 := qb ((Below.refl _ w).alloc (Nat.le_refl _) (.cells #[.string (qg p.maj), .string (qg p.min), .string (qg p.pat), .slice a1 n1 k1, .slice none 0 0, .int .i64 (p.told : Int)] 54));have n0 := World.alloc_heap_new w (.cells #[.string (qg p.maj), .string (qg p.min), .string (qg p.pat), .slice a1 n1 k1, .slice none 0 0, .int .i64 (p.told : Int)] 54);go_enter Tryz.func167, Tryz.ntmps167
 (go_wp2_with fail);generalize w.alloc _ = W0 at *;have q0 := qd 0 n0 rfl;have q1 := qd 1 n0 rfl;have q2 := qd 2 n0 rfl;have q3 := qd 3 n0 rfl;have q4 := qd 4 n0 rfl;have q5 := qd 5 n0 rfl;have hl0 := qb (Array.getElem?_eq_some_iff.1 n0).1;have bD := qb (b0.out.trans (qbh w.heap.size W0));have N0 := qb n0;clear n0;go_region_held3 (fun W' => W'.cell? ⟨w.heap.size, 0, none⟩ = some (.string (qg p.maj)) ∧ W'.cell? ⟨w.heap.size, 1, none⟩ = some (.string (qg p.min)) ∧ W'.cell? ⟨w.heap.size, 2, none⟩ = some (.string (qg p.pat)) ∧ W'.cell? ⟨w.heap.size, 3, none⟩ = some (.slice a1 n1 k1) ∧ W'.cell? ⟨w.heap.size, 4, none⟩ = some (.slice none 0 0) ∧ W'.cell? ⟨w.heap.size, 5, none⟩ = some (.int .i64 (p.told : Int))) (go_keep) ((first
  | (go_at_call 122; refine (BH.out _ bD.out).mono ?_; rintro e w2 ⟨hb2, u, rfl, hu⟩; obtain ⟨wp, wb, rfl, t3, t4, c3, c4⟩ := hu; obtain ⟨a3, k3, rfl, _⟩ := id t3; obtain ⟨a4, k4, rfl, _⟩ := id t4; have T3 := qb t3; have T4 := qb t4; have C3 := qb c3; have C4 := qb c4; have B2 := qb (bD.out.trans (hb2.mono bD.out.size)); have n2 := (hb2.block w.heap.size hl0.out).trans N0.out; have e0 := qd 0 n2 rfl; have e1 := qd 1 n2 rfl; have e2 := qd 2 n2 rfl; have e3 := qd 3 n2 rfl; have e4 := qd 4 n2 rfl; have e5 := qd 5 n2 rfl; clear t3 t4 c3 c4 hb2 n2)
  | fail))
 try dsimp only
 (go_wp2_with fail);go_ret
 have al : Below w2.heap.size w2 (w2.alloc (.cells #[.int .i64 4, .string (qg p.maj), .string (qg p.min), .string (qg p.pat), .slice a1 n1 k1, .slice none 0 0, .int .i64 1, .string (qg y.maj), .string (qg y.min), .string (qg y.pat), .slice a3 y.pre.length k3, .slice a4 y.bld.length k4] 35)) := (Below.refl _ w2).alloc (Nat.le_refl _) _;exact qccc (x := begL p) (y := y) (B2.out.alloc B2.out.size _) B2.out.size (World.alloc_heap_new w2 _) ((T1.out.below B2.out).below al) (qt _) (T3.out.below al) (T4.out.below al) C1.out (capZ (qt w)) C3.out C4.out
def qlx : List Comp := [(1, ⟨[48], [48], [48], [[48]], []⟩)]
theorem qfq.back {w W W' : World} {cs : List Comp} {e : Ending} (h : qfq A W cs e W') (hb : Below w.heap.size w W) : qfq A w cs e W' := by
 obtain ⟨h1, h2⟩ := h;refine ⟨hb.trans (h1.mono hb.size), ?_⟩;rcases h2 with h2 | ⟨b, xs, h3, h4, h5⟩
 ·exact .inl h2
 ·exact .inr ⟨b, xs, h3, Nat.le_trans hb.size h4, h5⟩
theorem qlt (w : World) (hA : ∀ b, w.heap.size ≤ b → A b) : Calls Tryz.prog 168 #[] w (qfq A w qlx) := by
 have HA := qb hA;clear hA;have F := qb (fun W => qbhc ⟨[48], [48], [48], [], []⟩ none none 0 0 0 0 W);have O := qb (fun u W h => qmt (A := A) 1 u ⟨[48], [48], [48], [[48]], []⟩ W h);go_enter Tryz.func168, Tryz.ntmps168
 (go_wp2_with fail);refine (F.out _).mono ?_;rintro e w1 ⟨hb1, b, rfl, hbb, tb⟩;have TB := qb tb;clear tb;(go_wp2_with fail);refine (O.out _ _ ⟨_, _, rfl, TB.out, qt _, qjp (HA.out b hbb), capZ (qt w)⟩).mono ?_;rintro e w2 h;have hc := h.back hb1;obtain ⟨_, h1 | ⟨b2, xs, rfl, h4, h5⟩⟩ := id h
 ·cases h1.1
 have HC := qb hc;clear hc h h4 h5
 try dsimp only
 (go_wp2_with fail);go_ret
 exact HC.out
end Go.Proofs.YtpdlgiioahjhiaaGreat
