/- A loop over an iterator whose items lie in memory: the itera -/
import Derived.Test.YtpdlgiioahjhiaaGreatPEq
import Derived.RangeFuncNested
import Derived.RangeFuncBound
import Derived.RangeFuncCalls
import Derived.RangeFuncLeaves
import Derived.Test.YtpdlgiioahjhiaaGreatPSd
namespace Go.Proofs.YtpdlgiioahjhiaaGreat
open Go.RowKit
open Nat renaming le_refl → qcgl, le_trans → qcgs
open Go.RowKit renaming Below → QE
set_option linter.unusedVariables false
set_option maxHeartbeats 2000000
set_option maxRecDepth 100000
variable {A : Nat → Prop}
def qhq (p : PartL) : List Comp := if p.told = 0 then [] else if p.told = 3 then [(5, begL p)] else qjf p ((p.told : Int) - 1)
def qqj (p : PartL) : List Comp := if p.told = 0 then qlx else if p.told = 3 then [(1, begL p)] else [(1, qmh (begL p))]
def qqk (p : PartL) : List Comp := if p.told = 0 then [] else if p.told = 3 then [(2, begL p)] else [(1, behL p ((p.told : Int) - 1))]
def qqm (p : PartL) : List Comp := if p.told = 0 then qlx else if p.told = 3 then [(3, begL p)] else [(4, qgk (begL p) ((p.told : Int) - 1))]
def qns (p : PartL) : List Comp := if p.told = 0 then [] else [(4, begL p)]
def qls (p : PartL) : List Comp := if p.told = 0 then [] else qjf p (min ((p.told : Int) - 1) 1)
def qgl (p : PartL) : List Comp := if p.told = 0 then [] else if p.told = 1 ∨ p.maj ≠ [48] then qjf p 0 else if p.told = 2 ∨ p.min ≠ [48] then qjf p 1 else qjf p 2
theorem qcdj (v : Value) (p : PartL) (k : Int) (w : World) (hv : SemV A w v (begL p)) (hp : PShort p) :
  Calls Tryz.prog 149 #[v, .int .i64 k] w fun e w' => QE w.heap.size w w' ∧ ∃ u, e = .returned u ∧ SemV A w' u (qgk (begL p) k) := by
 refine (qbhm v (begL p) k w hv.toAt hp.sem (by have := hp.a; simp only [begL]; omega) (by have := hp.b; simp only [begL]; omega) (by have := hp.c; simp only [begL]; omega)).mono ?_
 rintro e w' ⟨hb, u, rfl, q1, q2, rfl, s1, s2⟩;obtain ⟨z1, z2⟩ := qbpj (begL p) k;exact ⟨hb, _, rfl, q1, q2, rfl, s1, s2, capZ (by rw [z1] at s1; exact s1), capZ (by rw [z2] at s2; exact s2)⟩
theorem str_ne {x : QB} (h : x ≠ [48]) : ((qg x).toList == [48]) = false := by
 rw [Bool.eq_false_iff];intro e;have := LawfulBEq.eq_of_beq e;exact h (by simpa [toL, qj] using this)
theorem str_eq {x : QB} (h : x = [48]) : ((qg x).toList == [48]) = true := by subst h; rw [toL, qj]; rfl
theorem qcdq (v : Value) (p : PartL) (w : World) (hA : ∀ b, w.heap.size ≤ b → A b) (hv : qnz A w v p) (hp : PShort p) :
  Calls Tryz.prog 160 #[v] w (qfq A w (qhq p)) := by
 have hv0 := qb hv;have WI := qb (fun (k : Int) W (hW : QE w.heap.size w W) => qhc v p k W (fun b hb => hA b (qcgs hW.size hb)) (hv.below hW) hp);have BE := qb (fun (k : Int) W (hW : QE w.heap.size w W) => qhf v p k W (fun b hb => hA b (qcgs hW.size hb)) (hv.below hW) hp);obtain ⟨vp, rfl, t1, c1, a1, n1, k1, rfl⟩ := hv;have SB := qb (fun W (hW : QE w.heap.size w W) => (⟨_, _, rfl, t1.below hW, qt W, c1, capZ (qt W)⟩ : SemV A W (.agg #[.string (qg p.maj), .string (qg p.min), .string (qg p.pat), .slice a1 n1 k1, .slice none 0 0]) (begL p)));have O := qb (fun (op : Int) x u W (h : SemV A W u x) => qmt op u x W h);have NO := qb (fun W (hW : QE w.heap.size w W) => qlt W (fun b hb => hA b (qcgs hW.size hb)));have HA := qb hA;clear hA;have hle := hp.t;have PS := qb hp;clear t1 c1 hv0 hp;unfold qjj at WI BE ⊢;have b0 := qb ((Below.refl _ w).alloc (qcgl _) (.cells #[.string (qg p.maj), .string (qg p.min), .string (qg p.pat), .slice a1 n1 k1, .slice none 0 0, .int .i64 (p.told : Int)] 54))
 by_cases h0 : p.told = 0
 ·have e0 : ((p.told : Int) == 0) = true := by simp; omega
  have HP : qhq p = _ := if_pos h0;rw [HP];clear HP h0;go_enter Tryz.func160, Tryz.ntmps160
  (go_wp2_with fail);go_ret
  exact ⟨b0.out, .inl ⟨rfl, rfl⟩⟩
 have e0 : ((p.told : Int) == 0) = false := by simp; omega
 by_cases h3 : p.told = 3
 ·have e3 : ((p.told : Int) == 3) = true := by simp; omega
  have HP : qhq p = _ := (if_neg h0).trans (if_pos h3);rw [HP];clear HP h0 h3;go_enter Tryz.func160, Tryz.ntmps160
  (go_wp2_with fail);generalize w.alloc _ = W0 at *;refine (O.out 5 (begL p) _ _ (SB.out _ b0.out)).mono ?_;rintro e w2 h;have HC := qb (h.back b0.out);obtain ⟨_, h1 | ⟨b2, xs, rfl, h4, h5⟩⟩ := id h
  ·cases h1.1
  clear h h4 h5
  try dsimp only
  (go_wp2_with fail);go_ret
  exact HC.out
 have e3 : ((p.told : Int) == 3) = false := by simp; omega
 have HP : qhq p = _ := (if_neg h0).trans (if_neg h3);rw [HP];clear HP h0 h3;go_enter Tryz.func160, Tryz.ntmps160
 (go_wp2_with fail);generalize w.alloc _ = W0 at *;refine (WI.out ((p.told : Int) - 1) _ b0.out).mono ?_;rintro e w2 h;have HC := qb (h.back b0.out);obtain ⟨_, h1 | ⟨b2, xs, rfl, h4, h5⟩⟩ := id h
 ·cases h1.1
 clear h h4 h5
 try dsimp only
 (go_wp2_with fail);go_ret
 exact HC.out
theorem less_any (v : Value) (p : PartL) (w : World) (hA : ∀ b, w.heap.size ≤ b → A b) (hv : qnz A w v p) (hp : PShort p) :
  Calls Tryz.prog 161 #[v] w (qfq A w (qqj p)) := by
 have hv0 := qb hv;have WI := qb (fun (k : Int) W (hW : QE w.heap.size w W) => qhc v p k W (fun b hb => hA b (qcgs hW.size hb)) (hv.below hW) hp);have BE := qb (fun (k : Int) W (hW : QE w.heap.size w W) => qhf v p k W (fun b hb => hA b (qcgs hW.size hb)) (hv.below hW) hp);obtain ⟨vp, rfl, t1, c1, a1, n1, k1, rfl⟩ := hv;have SB := qb (fun W (hW : QE w.heap.size w W) => (⟨_, _, rfl, t1.below hW, qt W, c1, capZ (qt W)⟩ : SemV A W (.agg #[.string (qg p.maj), .string (qg p.min), .string (qg p.pat), .slice a1 n1 k1, .slice none 0 0]) (begL p)));have O := qb (fun (op : Int) x u W (h : SemV A W u x) => qmt op u x W h);have NO := qb (fun W (hW : QE w.heap.size w W) => qlt W (fun b hb => hA b (qcgs hW.size hb)));have HA := qb hA;clear hA;have hle := hp.t;have PS := qb hp;clear t1 c1 hv0 hp;unfold qjj at WI BE ⊢;have b0 := qb ((Below.refl _ w).alloc (qcgl _) (.cells #[.string (qg p.maj), .string (qg p.min), .string (qg p.pat), .slice a1 n1 k1, .slice none 0 0, .int .i64 (p.told : Int)] 54))
 by_cases h0 : p.told = 0
 ·have e0 : ((p.told : Int) == 0) = true := by simp; omega
  have HP : qqj p = _ := if_pos h0;rw [HP];clear HP h0;go_enter Tryz.func161, Tryz.ntmps161
  (go_wp2_with fail);generalize w.alloc _ = W0 at *;refine (NO.out _ b0.out).mono ?_;rintro e w2 h;have HC := qb (h.back b0.out);obtain ⟨_, h1 | ⟨b2, xs, rfl, h4, h5⟩⟩ := id h
  ·cases h1.1
  clear h h4 h5
  try dsimp only
  (go_wp2_with fail);go_ret
  exact HC.out
 have e0 : ((p.told : Int) == 0) = false := by simp; omega
 by_cases h3 : p.told = 3
 ·have e3 : ((p.told : Int) == 3) = true := by simp; omega
  have HP : qqj p = _ := (if_neg h0).trans (if_pos h3);rw [HP];clear HP h0 h3;go_enter Tryz.func161, Tryz.ntmps161
  (go_wp2_with fail);generalize w.alloc _ = W0 at *;refine (O.out 1 (begL p) _ _ (SB.out _ b0.out)).mono ?_;rintro e w2 h;have HC := qb (h.back b0.out);obtain ⟨_, h1 | ⟨b2, xs, rfl, h4, h5⟩⟩ := id h
  ·cases h1.1
  clear h h4 h5
  try dsimp only
  (go_wp2_with fail);go_ret
  exact HC.out
 have e3 : ((p.told : Int) == 3) = false := by simp; omega
 have HP : qqj p = _ := (if_neg h0).trans (if_neg h3);rw [HP];clear HP h0 h3;go_enter Tryz.func161, Tryz.ntmps161
 (go_wp2_with fail);generalize w.alloc _ = W0 at *;refine (qccr _ (begL p) _ (fun b hb => HA.out b (qcgs b0.out.size hb)) (SB.out _ b0.out)).mono ?_;rintro e w1 ⟨hb1, u, rfl, hu⟩;obtain ⟨q1, q2, rfl, s1, s2, s3, s4⟩ := hu;obtain ⟨z1, y1, rfl, _⟩ := id s1;obtain ⟨z2, y2, rfl, _⟩ := id s2;have SU := qb (⟨_, _, rfl, s1, s2, s3, s4⟩ : SemV A w1 _ _);have b1 := qb (b0.out.trans (hb1.mono b0.out.size));clear s1 s2 s3 s4 hb1
 try dsimp only
 (go_wp2_with fail);refine (O.out 1 (qmh (begL p)) _ _ SU.out).mono ?_;rintro e w2 h;have HC := qb (h.back b1.out);obtain ⟨_, h1 | ⟨b2, xs, rfl, h4, h5⟩⟩ := id h
 ·cases h1.1
 clear h h4 h5
 try dsimp only
 (go_wp2_with fail);go_ret
 exact HC.out
theorem upTo_any (v : Value) (p : PartL) (w : World) (hA : ∀ b, w.heap.size ≤ b → A b) (hv : qnz A w v p) (hp : PShort p) :
  Calls Tryz.prog 87 #[v] w (qfq A w (qqk p)) := by
 have hv0 := qb hv;have WI := qb (fun (k : Int) W (hW : QE w.heap.size w W) => qhc v p k W (fun b hb => hA b (qcgs hW.size hb)) (hv.below hW) hp);have BE := qb (fun (k : Int) W (hW : QE w.heap.size w W) => qhf v p k W (fun b hb => hA b (qcgs hW.size hb)) (hv.below hW) hp);obtain ⟨vp, rfl, t1, c1, a1, n1, k1, rfl⟩ := hv;have SB := qb (fun W (hW : QE w.heap.size w W) => (⟨_, _, rfl, t1.below hW, qt W, c1, capZ (qt W)⟩ : SemV A W (.agg #[.string (qg p.maj), .string (qg p.min), .string (qg p.pat), .slice a1 n1 k1, .slice none 0 0]) (begL p)));have O := qb (fun (op : Int) x u W (h : SemV A W u x) => qmt op u x W h);have NO := qb (fun W (hW : QE w.heap.size w W) => qlt W (fun b hb => hA b (qcgs hW.size hb)));have HA := qb hA;clear hA;have hle := hp.t;have PS := qb hp;clear t1 c1 hv0 hp;unfold qjj at WI BE ⊢;have b0 := qb ((Below.refl _ w).alloc (qcgl _) (.cells #[.string (qg p.maj), .string (qg p.min), .string (qg p.pat), .slice a1 n1 k1, .slice none 0 0, .int .i64 (p.told : Int)] 54))
 by_cases h0 : p.told = 0
 ·have e0 : ((p.told : Int) == 0) = true := by simp; omega
  have HP : qqk p = _ := if_pos h0;rw [HP];clear HP h0;go_enter Tryz.func87, Tryz.ntmps87
  (go_wp2_with fail);go_ret
  exact ⟨b0.out, .inl ⟨rfl, rfl⟩⟩
 have e0 : ((p.told : Int) == 0) = false := by simp; omega
 by_cases h3 : p.told = 3
 ·have e3 : ((p.told : Int) == 3) = true := by simp; omega
  have HP : qqk p = _ := (if_neg h0).trans (if_pos h3);rw [HP];clear HP h0 h3;go_enter Tryz.func87, Tryz.ntmps87
  (go_wp2_with fail);generalize w.alloc _ = W0 at *;refine (O.out 2 (begL p) _ _ (SB.out _ b0.out)).mono ?_;rintro e w2 h;have HC := qb (h.back b0.out);obtain ⟨_, h1 | ⟨b2, xs, rfl, h4, h5⟩⟩ := id h
  ·cases h1.1
  clear h h4 h5
  try dsimp only
  (go_wp2_with fail);go_ret
  exact HC.out
 have e3 : ((p.told : Int) == 3) = false := by simp; omega
 have HP : qqk p = _ := (if_neg h0).trans (if_neg h3);rw [HP];clear HP h0 h3;go_enter Tryz.func87, Tryz.ntmps87
 (go_wp2_with fail);generalize w.alloc _ = W0 at *;refine (BE.out ((p.told : Int) - 1) _ b0.out).mono ?_;rintro e w1 ⟨hb1, u, rfl, hu⟩;obtain ⟨q1, q2, rfl, s1, s2, s3, s4⟩ := hu;obtain ⟨z1, y1, rfl, _⟩ := id s1;obtain ⟨z2, y2, rfl, _⟩ := id s2;have SU := qb (⟨_, _, rfl, s1, s2, s3, s4⟩ : SemV A w1 _ _);have b1 := qb (b0.out.trans (hb1.mono b0.out.size));clear s1 s2 s3 s4 hb1
 try dsimp only
 (go_wp2_with fail);refine (O.out 1 (behL p ((p.told : Int) - 1)) _ _ SU.out).mono ?_;rintro e w2 h;have HC := qb (h.back b1.out);obtain ⟨_, h1 | ⟨b2, xs, rfl, h4, h5⟩⟩ := id h
 ·cases h1.1
 clear h h4 h5
 try dsimp only
 (go_wp2_with fail);go_ret
 exact HC.out
theorem more_any (v : Value) (p : PartL) (w : World) (hA : ∀ b, w.heap.size ≤ b → A b) (hv : qnz A w v p) (hp : PShort p) :
  Calls Tryz.prog 162 #[v] w (qfq A w (qqm p)) := by
 have hv0 := qb hv;have WI := qb (fun (k : Int) W (hW : QE w.heap.size w W) => qhc v p k W (fun b hb => hA b (qcgs hW.size hb)) (hv.below hW) hp);have BE := qb (fun (k : Int) W (hW : QE w.heap.size w W) => qhf v p k W (fun b hb => hA b (qcgs hW.size hb)) (hv.below hW) hp);obtain ⟨vp, rfl, t1, c1, a1, n1, k1, rfl⟩ := hv;have SB := qb (fun W (hW : QE w.heap.size w W) => (⟨_, _, rfl, t1.below hW, qt W, c1, capZ (qt W)⟩ : SemV A W (.agg #[.string (qg p.maj), .string (qg p.min), .string (qg p.pat), .slice a1 n1 k1, .slice none 0 0]) (begL p)));have O := qb (fun (op : Int) x u W (h : SemV A W u x) => qmt op u x W h);have NO := qb (fun W (hW : QE w.heap.size w W) => qlt W (fun b hb => hA b (qcgs hW.size hb)));have HA := qb hA;clear hA;have hle := hp.t;have PS := qb hp;clear t1 c1 hv0 hp;unfold qjj at WI BE ⊢;have b0 := qb ((Below.refl _ w).alloc (qcgl _) (.cells #[.string (qg p.maj), .string (qg p.min), .string (qg p.pat), .slice a1 n1 k1, .slice none 0 0, .int .i64 (p.told : Int)] 54))
 by_cases h0 : p.told = 0
 ·have e0 : ((p.told : Int) == 0) = true := by simp; omega
  have HP : qqm p = _ := if_pos h0;rw [HP];clear HP h0;go_enter Tryz.func162, Tryz.ntmps162
  (go_wp2_with fail);generalize w.alloc _ = W0 at *;refine (NO.out _ b0.out).mono ?_;rintro e w2 h;have HC := qb (h.back b0.out);obtain ⟨_, h1 | ⟨b2, xs, rfl, h4, h5⟩⟩ := id h
  ·cases h1.1
  clear h h4 h5
  try dsimp only
  (go_wp2_with fail);go_ret
  exact HC.out
 have e0 : ((p.told : Int) == 0) = false := by simp; omega
 by_cases h3 : p.told = 3
 ·have e3 : ((p.told : Int) == 3) = true := by simp; omega
  have HP : qqm p = _ := (if_neg h0).trans (if_pos h3);rw [HP];clear HP h0 h3;go_enter Tryz.func162, Tryz.ntmps162
  (go_wp2_with fail);generalize w.alloc _ = W0 at *;refine (O.out 3 (begL p) _ _ (SB.out _ b0.out)).mono ?_;rintro e w2 h;have HC := qb (h.back b0.out);obtain ⟨_, h1 | ⟨b2, xs, rfl, h4, h5⟩⟩ := id h
  ·cases h1.1
  clear h h4 h5
  try dsimp only
  (go_wp2_with fail);go_ret
  exact HC.out
 have e3 : ((p.told : Int) == 3) = false := by simp; omega
 have HP : qqm p = _ := (if_neg h0).trans (if_neg h3);rw [HP];clear HP h0 h3;go_enter Tryz.func162, Tryz.ntmps162
 (go_wp2_with fail);generalize w.alloc _ = W0 at *;refine (qcdj _ p ((p.told : Int) - 1) _ (SB.out _ b0.out) PS.out).mono ?_;rintro e w1 ⟨hb1, u, rfl, hu⟩;obtain ⟨q1, q2, rfl, s1, s2, s3, s4⟩ := hu;obtain ⟨z1, y1, rfl, _⟩ := id s1;obtain ⟨z2, y2, rfl, _⟩ := id s2;have SU := qb (⟨_, _, rfl, s1, s2, s3, s4⟩ : SemV A w1 _ _);have b1 := qb (b0.out.trans (hb1.mono b0.out.size));clear s1 s2 s3 s4 hb1
 try dsimp only
 (go_wp2_with fail);refine (O.out 4 (qgk (begL p) ((p.told : Int) - 1)) _ _ SU.out).mono ?_;rintro e w2 h;have HC := qb (h.back b1.out);obtain ⟨_, h1 | ⟨b2, xs, rfl, h4, h5⟩⟩ := id h
 ·cases h1.1
 clear h h4 h5
 try dsimp only
 (go_wp2_with fail);go_ret
 exact HC.out
theorem from_any (v : Value) (p : PartL) (w : World) (hA : ∀ b, w.heap.size ≤ b → A b) (hv : qnz A w v p) (hp : PShort p) :
  Calls Tryz.prog 85 #[v] w (qfq A w (qns p)) := by
 have hv0 := qb hv;have WI := qb (fun (k : Int) W (hW : QE w.heap.size w W) => qhc v p k W (fun b hb => hA b (qcgs hW.size hb)) (hv.below hW) hp);have BE := qb (fun (k : Int) W (hW : QE w.heap.size w W) => qhf v p k W (fun b hb => hA b (qcgs hW.size hb)) (hv.below hW) hp);obtain ⟨vp, rfl, t1, c1, a1, n1, k1, rfl⟩ := hv;have SB := qb (fun W (hW : QE w.heap.size w W) => (⟨_, _, rfl, t1.below hW, qt W, c1, capZ (qt W)⟩ : SemV A W (.agg #[.string (qg p.maj), .string (qg p.min), .string (qg p.pat), .slice a1 n1 k1, .slice none 0 0]) (begL p)));have O := qb (fun (op : Int) x u W (h : SemV A W u x) => qmt op u x W h);have NO := qb (fun W (hW : QE w.heap.size w W) => qlt W (fun b hb => hA b (qcgs hW.size hb)));have HA := qb hA;clear hA;have hle := hp.t;have PS := qb hp;clear t1 c1 hv0 hp;unfold qjj at WI BE ⊢;have b0 := qb ((Below.refl _ w).alloc (qcgl _) (.cells #[.string (qg p.maj), .string (qg p.min), .string (qg p.pat), .slice a1 n1 k1, .slice none 0 0, .int .i64 (p.told : Int)] 54))
 by_cases h0 : p.told = 0
 ·have e0 : ((p.told : Int) == 0) = true := by simp; omega
  have HP : qns p = _ := if_pos h0;rw [HP];clear HP h0;go_enter Tryz.func85, Tryz.ntmps85
  (go_wp2_with fail);go_ret
  exact ⟨b0.out, .inl ⟨rfl, rfl⟩⟩
 have e0 : ((p.told : Int) == 0) = false := by simp; omega
 have HP : qns p = _ := if_neg h0;rw [HP];clear HP h0;go_enter Tryz.func85, Tryz.ntmps85
 (go_wp2_with fail);generalize w.alloc _ = W0 at *;refine (O.out 4 (begL p) _ _ (SB.out _ b0.out)).mono ?_;rintro e w2 h;have HC := qb (h.back b0.out);obtain ⟨_, h1 | ⟨b2, xs, rfl, h4, h5⟩⟩ := id h
 ·cases h1.1
 clear h h4 h5
 try dsimp only
 (go_wp2_with fail);go_ret
 exact HC.out
theorem qccq (v : Value) (p : PartL) (w : World) (hA : ∀ b, w.heap.size ≤ b → A b) (hv : qnz A w v p) (hp : PShort p) :
  Calls Tryz.prog 163 #[v] w (qfq A w (qls p)) := by
 have hv0 := qb hv;have WI := qb (fun (k : Int) W (hW : QE w.heap.size w W) => qhc v p k W (fun b hb => hA b (qcgs hW.size hb)) (hv.below hW) hp);have BE := qb (fun (k : Int) W (hW : QE w.heap.size w W) => qhf v p k W (fun b hb => hA b (qcgs hW.size hb)) (hv.below hW) hp);obtain ⟨vp, rfl, t1, c1, a1, n1, k1, rfl⟩ := hv;have SB := qb (fun W (hW : QE w.heap.size w W) => (⟨_, _, rfl, t1.below hW, qt W, c1, capZ (qt W)⟩ : SemV A W (.agg #[.string (qg p.maj), .string (qg p.min), .string (qg p.pat), .slice a1 n1 k1, .slice none 0 0]) (begL p)));have O := qb (fun (op : Int) x u W (h : SemV A W u x) => qmt op u x W h);have NO := qb (fun W (hW : QE w.heap.size w W) => qlt W (fun b hb => hA b (qcgs hW.size hb)));have HA := qb hA;clear hA;have hle := hp.t;have PS := qb hp;clear t1 c1 hv0 hp;unfold qjj at WI BE ⊢;have b0 := qb ((Below.refl _ w).alloc (qcgl _) (.cells #[.string (qg p.maj), .string (qg p.min), .string (qg p.pat), .slice a1 n1 k1, .slice none 0 0, .int .i64 (p.told : Int)] 54))
 by_cases h0 : p.told = 0
 ·have e0 : ((p.told : Int) == 0) = true := by simp; omega
  have HP : qls p = _ := if_pos h0;rw [HP];clear HP h0;go_enter Tryz.func163, Tryz.ntmps163
  (go_wp2_with fail);go_ret
  exact ⟨b0.out, .inl ⟨rfl, rfl⟩⟩
 have e0 : ((p.told : Int) == 0) = false := by simp; omega
 have HP : qls p = _ := if_neg h0;rw [HP];clear HP h0;go_enter Tryz.func163, Tryz.ntmps163
 (go_wp2_with fail);generalize w.alloc _ = W0 at *;refine (WI.out (min ((p.told : Int) - 1) 1) _ b0.out).mono ?_;rintro e w2 h;have HC := qb (h.back b0.out);obtain ⟨_, h1 | ⟨b2, xs, rfl, h4, h5⟩⟩ := id h
 ·cases h1.1
 clear h h4 h5
 try dsimp only
 (go_wp2_with fail);go_ret
 exact HC.out
theorem qcbz (v : Value) (p : PartL) (w : World) (hA : ∀ b, w.heap.size ≤ b → A b) (hv : qnz A w v p) (hp : PShort p) :
  Calls Tryz.prog 164 #[v] w (qfq A w (qgl p)) := by
 have hv0 := qb hv;have WI := qb (fun (k : Int) W (hW : QE w.heap.size w W) => qhc v p k W (fun b hb => hA b (qcgs hW.size hb)) (hv.below hW) hp);have BE := qb (fun (k : Int) W (hW : QE w.heap.size w W) => qhf v p k W (fun b hb => hA b (qcgs hW.size hb)) (hv.below hW) hp);obtain ⟨vp, rfl, t1, c1, a1, n1, k1, rfl⟩ := hv;have SB := qb (fun W (hW : QE w.heap.size w W) => (⟨_, _, rfl, t1.below hW, qt W, c1, capZ (qt W)⟩ : SemV A W (.agg #[.string (qg p.maj), .string (qg p.min), .string (qg p.pat), .slice a1 n1 k1, .slice none 0 0]) (begL p)));have O := qb (fun (op : Int) x u W (h : SemV A W u x) => qmt op u x W h);have NO := qb (fun W (hW : QE w.heap.size w W) => qlt W (fun b hb => hA b (qcgs hW.size hb)));have HA := qb hA;clear hA;have hle := hp.t;have PS := qb hp;clear t1 c1 hv0 hp;unfold qjj at WI BE ⊢;have b0 := qb ((Below.refl _ w).alloc (qcgl _) (.cells #[.string (qg p.maj), .string (qg p.min), .string (qg p.pat), .slice a1 n1 k1, .slice none 0 0, .int .i64 (p.told : Int)] 54))
 by_cases h0 : p.told = 0
 ·have e0 : ((p.told : Int) == 0) = true := by simp; omega
  have HP : qgl p = _ := if_pos h0;rw [HP];clear HP h0;go_enter Tryz.func164, Tryz.ntmps164
  (go_wp2_with fail);go_ret
  exact ⟨b0.out, .inl ⟨rfl, rfl⟩⟩
 have e0 : ((p.told : Int) == 0) = false := by simp; omega
 by_cases h1 : p.told = 1
 ·have e1 : ((p.told : Int) == 1) = true := by simp; omega
  have HP : qgl p = _ := (if_neg h0).trans (if_pos (.inl h1));rw [HP];clear HP h0 h1;go_enter Tryz.func164, Tryz.ntmps164
  (go_wp2_with fail);generalize w.alloc _ = W0 at *;refine (WI.out 0 _ b0.out).mono ?_;rintro e w2 h;have HC := qb (h.back b0.out);obtain ⟨_, h1 | ⟨b2, xs, rfl, h4, h5⟩⟩ := id h
  ·cases h1.1
  clear h h4 h5
  try dsimp only
  (go_wp2_with fail);go_ret
  exact HC.out
 have e1 : ((p.told : Int) == 1) = false := by simp; omega
 by_cases hm : p.maj = [48]
 ·have m0 := str_eq hm
  by_cases h2 : p.told = 2
  ·have e2 : ((p.told : Int) == 2) = true := by simp; omega
   have HP : qgl p = _ := (if_neg h0).trans ((if_neg (fun h => h.elim h1 (fun x => x hm))).trans (if_pos (.inl h2)));rw [HP];clear HP h0 h1 h2 hm;go_enter Tryz.func164, Tryz.ntmps164
   (go_wp2_with fail);generalize w.alloc _ = W0 at *;refine (WI.out 1 _ b0.out).mono ?_;rintro e w2 h;have HC := qb (h.back b0.out);obtain ⟨_, h1 | ⟨b2, xs, rfl, h4, h5⟩⟩ := id h
   ·cases h1.1
   clear h h4 h5
   try dsimp only
   (go_wp2_with fail);go_ret
   exact HC.out
  have e2 : ((p.told : Int) == 2) = false := by simp; omega
  by_cases hn : p.min = [48]
  ·have n0 := str_eq hn;have HP : qgl p = _ := (if_neg h0).trans ((if_neg (fun h => h.elim h1 (fun x => x hm))).trans (if_neg (fun h => h.elim h2 (fun x => x hn))));rw [HP];clear HP h0 h1 h2 hm hn;go_enter Tryz.func164, Tryz.ntmps164
   (go_wp2_with fail);generalize w.alloc _ = W0 at *;refine (WI.out 2 _ b0.out).mono ?_;rintro e w2 h;have HC := qb (h.back b0.out);obtain ⟨_, h1 | ⟨b2, xs, rfl, h4, h5⟩⟩ := id h
   ·cases h1.1
   clear h h4 h5
   try dsimp only
   (go_wp2_with fail);go_ret
   exact HC.out
  have n0 := str_ne hn;have HP : qgl p = _ := (if_neg h0).trans ((if_neg (fun h => h.elim h1 (fun x => x hm))).trans (if_pos (.inr hn)));rw [HP];clear HP h0 h1 h2 hm hn;go_enter Tryz.func164, Tryz.ntmps164
  (go_wp2_with fail);generalize w.alloc _ = W0 at *;refine (WI.out 1 _ b0.out).mono ?_;rintro e w2 h;have HC := qb (h.back b0.out);obtain ⟨_, h1 | ⟨b2, xs, rfl, h4, h5⟩⟩ := id h
  ·cases h1.1
  clear h h4 h5
  try dsimp only
  (go_wp2_with fail);go_ret
  exact HC.out
 have m0 := str_ne hm;have HP : qgl p = _ := (if_neg h0).trans (if_pos (.inr hm));rw [HP];clear HP h0 h1 hm;go_enter Tryz.func164, Tryz.ntmps164
 (go_wp2_with fail);generalize w.alloc _ = W0 at *;refine (WI.out 0 _ b0.out).mono ?_;rintro e w2 h;have HC := qb (h.back b0.out);obtain ⟨_, h1 | ⟨b2, xs, rfl, h4, h5⟩⟩ := id h
 ·cases h1.1
 clear h h4 h5
 try dsimp only
 (go_wp2_with fail);go_ret
 exact HC.out
end Go.Proofs.YtpdlgiioahjhiaaGreat

namespace Go.Proofs.YtpdlgiioahjhiaaGreat
open Go.RowKit Go.Shelf
open Nat renaming le_refl → qcgl
open Go renaming World → QW
set_option linter.unusedVariables false
def Book (l D : Nat) (r : Loop) (W : QW) : Prop := W.heap[l]? = some (.loop r) ∧ W.heap[D]? = some (.deferred (some []))
theorem Book.grown {l D : Nat} {r : Loop} {A B : QW} {row : Option Nat} (h : Book l D r A) (hg : A.grownBy B row) (hr : ∀ k, row = some k → ∃ o : Obj, A.heap[k]? = some o ∧ o.isWalk = true) : Book l D r B :=
 ⟨(grownBy_keeps hg hr h.1 rfl).trans h.1, (grownBy_keeps hg hr h.2 rfl).trans h.2⟩
theorem Book.keeps {l D n : Nat} {r : Loop} {A B : QW} (h : Book l D r A) (hk : KeepsFrom n A B) (h1 : n ≤ l) (h2 : n ≤ D) : Book l D r B :=
 ⟨hk.same l _ h1 h.1 rfl, hk.same D _ h2 h.2 rfl⟩
theorem Book.turn {l D : Nat} {r : Loop} {A : QW} (h : Book l D r A) (hne : l ≠ D) (r' : Loop) : Book l D r' (A.putObj l (.loop r')) :=
 ⟨World.putObj_heap_same (Array.getElem?_eq_some_iff.1 h.1).1, (World.putObj_heap_other (Ne.symm hne)).trans h.2⟩
def SeqC {α : Type} (F : Fence) (n : Nat) (P : Program) (g : Nat) (lb : Array Value) (encs : α → Array Value) (C : List α → α → QW → QW → Prop) (G : α → Prop) (Kp : QW → QW → Prop) (S Sp : List α → Prop) (w : QW) : Prop :=
 ∀ (l : Nat) (J Jx : List α → QW → Prop) (W : QW), Below w.heap.size w W → AbidesFrom W.heap.size J → AbidesFrom W.heap.size Jx →
  (∀ pre x W0 W1, J pre W0 → J pre W1 → Below W0.heap.size W0 W1 → C pre x W0 W1 → YieldAt F (n - 1) P l (encs x) W1 fun e W' => (e = .returned (.bool true) ∧ G x ∧ J (pre ++ [x]) W' ∧ Kp W1 W') ∨ (e = .returned (.bool false) ∧ Jx (pre ++ [x]) W')) →
  J [] W → CallsIn F n P g (#[.func (.yield l) #[] #[]] ++ lb) W fun e W' => (∃ v, e = .returned v) ∧ ((∃ xs, S xs ∧ J xs W') ∨ (∃ pre, Sp pre ∧ Jx pre W'))
theorem qbvk {F : Fence} {n : Nat} {P : Program} {α : Type} {g : Operand} {ps : Array Tmp} {assign body : Code} {Q : Exit → Act → QW → Prop} {a : Act} {w : QW}
    (hro : F.round = none) (h1 : 1 ≤ n) {gf : Nat} {lb : Array Value} (hg : a.eval g = .func (.func gf) #[] lb) (hF : F.fn gf) (eg : ∀ args w, (callFunc gf args).run P w = .ok (.enter gf args) w)
    {encs : α → Array Value} {C : List α → α → QW → QW → Prop} {G : α → Prop} {Kp : QW → QW → Prop} {S Sp : List α → Prop} {w0 : QW} (hseq : SeqC F (n - 1) P gf lb encs C G Kp S Sp w0) (hw0 : Below w0.heap.size w0 w)
    (hKt : ∀ {A B D : QW}, Kp A B → Kp B D → Kp A D) (hKb : ∀ (W : QW) (l : Nat) (o o' : Obj), w.heap.size ≤ l → W.heap[l]? = some o → o.isCells = false → o.isWalk = false → Kp W (W.putObj l o'))
    (hps : ∀ x, (encs x).size = ps.size) (I : List α → QW → Prop) (Ix : Code → List α → QW → Prop) (hI : OwnFrom w.heap.size I) (hIx : ∀ c, OwnFrom w.heap.size (Ix c)) (h0 : I [] w) (hG : ∀ pre x W, I (pre ++ [x]) W → G x)
    (Ax : List α → α → Act → QW → Prop) (hAx : ∀ pre x b, OwnFrom w.heap.size (fun (_ : Unit) W => Ax pre x b W))
    (hassign : ∀ (l : Nat) (pre : List α) (x : α) (W0 W : QW) (K : Act → QW → Prop), I pre W0 → I pre W → Below W0.heap.size W0 W → C pre x W0 W → (∀ b W', KeepsFrom w.heap.size W W' → Kp W W' → I pre W' → Ax pre x b W' → K b W') →
      assign.wpIn (F.inRound l) (n - 1 - 1) P (Exit.then K (fun _ _ _ => False)) ⟨(ps.zip (encs x)).foldl (fun t (p, v) => t.setIfInBounds p v) a.tmps, []⟩ W)
    (hbody : ∀ (l : Nat) (pre : List α) (x : α) (b : Act) (W : QW), w.heap.size ≤ l → (∃ r, W.heap[l]? = some (.loop r)) → I pre W → Ax pre x b W → body.wpIn (F.inRound l) (n - 1 - 1) P (ownPostG w.heap.size Kp I Ix (pre ++ [x]) W) b W)
    (hdone : ∀ (D : Nat) (xs : List α) (W : QW), w.heap.size ≤ D → S xs → I xs W → W.heap[D]? = some (.deferred (some [])) → Q .normal ⟨a.tmps, ⟨.collected D, #[]⟩ :: a.defers⟩ W)
    (hstop : ∀ (D : Nat) (c : Code) (pre : List α) (W : QW), w.heap.size ≤ D → Sp pre → Ix c pre W → W.heap[D]? = some (.deferred (some [])) → c.wpIn F n P Q ⟨a.tmps, ⟨.collected D, #[]⟩ :: a.defers⟩ W) :
    (Code.rangeFunc g ps assign body).wpIn F n P Q a w := by
  refine wpIn_rangeFunc fun fn hfn => ?_;rw [hro]
  -- the record in its states
  let R : LoopState → Option Code → Loop := fun st pe => ⟨st, pe, fn, a.tmps, ps, assign, body, w.heap.size⟩
  have hne : w.heap.size + 1 ≠ w.heap.size := by omega
  have hbk : Book (w.heap.size + 1) w.heap.size (R .ready none) ((w.alloc (.deferred (some []))).alloc (.loop (R .ready none))) :=
    ⟨by have := World.alloc_heap_new (w.alloc (.deferred (some []))) (.loop (R .ready none)); rwa [World.size_alloc] at this, (Below.heap_alloc _ _ _ (by simp)).trans (World.alloc_heap_new w _)⟩
  refine ⟨w.heap.size + 1, [⟨.collected w.heap.size, #[]⟩], ((w.alloc (.deferred (some []))).alloc (.loop (R .ready none))), ⟨.fn (.func gf) lb, #[.func (.yield (w.heap.size + 1)) #[] #[]]⟩, ((w.alloc (.deferred (some []))).alloc (.loop (R .ready none))), gf, #[.func (.yield (w.heap.size + 1)) #[] #[]] ++ lb, ((w.alloc (.deferred (some []))).alloc (.loop (R .ready none))), run_enterLoop_outer fn a.tmps ps assign body, ?_, ?_, ?_, fun _ => h1, ?_⟩
  · simp only [resolve, hg]
    simp [go_sem]
  · intro f hf
    simp [Target.leads] at hf;subst hf;exact hF
  · simp [invoke, go_sem, eg]
  have hsz : ((w.alloc (.deferred (some []))).alloc (.loop (R .ready none))).heap.size = w.heap.size + 2 := by simp
  have hst : Below w0.heap.size w0 ((w.alloc (.deferred (some []))).alloc (.loop (R .ready none))) := hw0.trans ((((Below.refl _ w).alloc (qcgl _) _).alloc (by simp) _).mono hw0.size)
  have hi0 : I [] ((w.alloc (.deferred (some []))).alloc (.loop (R .ready none))) := hI.alloc _ (hI.alloc _ h0)
  change CallsIn F (n - 1) P gf _ ((w.alloc (.deferred (some []))).alloc (.loop (R .ready none))) _
  generalize (w.alloc (.deferred (some []))).alloc (.loop (R .ready none)) = V at *
  have hrow : ∀ {A : QW} {row : Option Nat}, (∀ r, row = some r → V.heap.size ≤ r ∧ ∃ o : Obj, A.heap[r]? = some o ∧ o.isWalk = true) → ∀ r, row = some r → w.heap.size ≤ r ∧ ∃ o : Obj, A.heap[r]? = some o ∧ o.isCells = false := by
    intro A row h r e;obtain ⟨hr, o, ho, hw⟩ := h r e;exact ⟨by omega, o, ho, Obj.not_cells_of_walk hw⟩
  refine (hseq (w.heap.size + 1) (fun pre W => I pre W ∧ Book (w.heap.size + 1) w.heap.size (R .ready none) W) (fun pre W => ∃ c, Ix c pre W ∧ Book (w.heap.size + 1) w.heap.size (R .done (some c)) W) V hst
    (fun s A B row h hgr hr => ⟨hI s A B row h.1 hgr (hrow hr), h.2.grown hgr (fun r e => (hr r e).2)⟩)
    (fun s A B row h hgr hr => by obtain ⟨c, hc, hb⟩ := h; exact ⟨c, hIx c s A B row hc hgr (hrow hr), hb.grown hgr (fun r e => (hr r e).2)⟩) ?round ⟨hi0, hbk⟩).mono ?after
  case after =>
    rintro e W ⟨⟨v, rfl⟩, ⟨xs, hS, hi, hb⟩ | ⟨pre, hS, c, hi, hb⟩⟩
    · exact ⟨none, _, run_endLoop (P := P) hb.1 (by simp [R]), hdone _ xs _ (qcgl _) hS (hI.putObj _ hi (by omega) hb.1 rfl) (hb.turn hne _).2⟩
    · exact ⟨some c, _, run_endLoop (P := P) hb.1 (by simp [R]), hstop _ c pre _ (qcgl _) hS ((hIx c).putObj _ hi (by omega) hb.1 rfl) (hb.turn hne _).2⟩
  case round =>
    rintro pre x W0 W ⟨hi9, _⟩ ⟨hi, hb⟩ hbl hc;refine ⟨fn, _, assign, body, run_yield (P := P) (args := encs x) hb.1 (hps x), roundIn_of_wpIn hfn (hassign _ pre x W0 W _ hi9 hi hbl hc ?_)⟩;intro b V1 hk1 hp1 hi1 ha1;have hb1 := hb.keeps hk1 (Nat.le_succ _) (qcgl _);refine ⟨_, run_beginRound (P := P) hb1.1 rfl, ?_⟩;have hb2 := hb1.turn hne { R .ready none with state := .busy };refine wpIn_mono (hbody _ pre x b _ (Nat.le_succ _) ⟨_, hb2.1⟩ (hI.putObj _ hi1 (by omega) hb1.1 rfl) ((hAx pre x b).putObj (s := ()) _ ha1 (by omega) hb1.1 rfl)) ?_
    have hp2 := hKb V1 (w.heap.size + 1) (.loop (R .ready none)) (.loop { R .ready none with state := .busy }) (by omega) hb1.1 rfl rfl
    intro e b3 V3 hp;cases e with
    | normal =>
      obtain ⟨hk3, hp3, hi3⟩ := hp;have hb3 := hb2.keeps hk3 (Nat.le_succ _) (qcgl _);exact ⟨_, _, run_endRound (P := P) none hb3.1, .inl ⟨rfl, hG _ _ _ hi3, ⟨hI.putObj _ hi3 (by omega) hb3.1 rfl, hb3.turn hne _⟩, hKt hp1 (hKt (hKt hp2 hp3) (hKb _ _ _ _ (by omega) hb3.1 rfl rfl))⟩⟩
    | ret =>
      obtain ⟨hk3, hi3⟩ := hp;have hb3 := hb2.keeps hk3 (Nat.le_succ _) (qcgl _);exact ⟨_, _, run_endRound (P := P) (some .ret) hb3.1, .inr ⟨rfl, .ret, (hIx _).putObj _ hi3 (by omega) hb3.1 rfl, hb3.turn hne _⟩⟩
    | exit id =>
      obtain ⟨hk3, hi3⟩ := hp;have hb3 := hb2.keeps hk3 (Nat.le_succ _) (qcgl _);exact ⟨_, _, run_endRound (P := P) (some (.exit id)) hb3.1, .inr ⟨rfl, .exit id, (hIx _).putObj _ hi3 (by omega) hb3.1 rfl, hb3.turn hne _⟩⟩
    | goto t =>
      obtain ⟨hk3, hi3⟩ := hp;have hb3 := hb2.keeps hk3 (Nat.le_succ _) (qcgl _);exact ⟨_, _, run_endRound (P := P) (some (.goto t)) hb3.1, .inr ⟨rfl, .goto t, (hIx _).putObj _ hi3 (by omega) hb3.1 rfl, hb3.turn hne _⟩⟩
    | panic ch => exact hp.elim
    | outgrown => exact hp.elim
end Go.Proofs.YtpdlgiioahjhiaaGreat
