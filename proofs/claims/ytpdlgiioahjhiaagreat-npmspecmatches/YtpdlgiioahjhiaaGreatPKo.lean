/- Plain: what a range means can be written, and is read back a -/
import Derived.Test.YtpdlgiioahjhiaaGreatPEzg
import Derived.Test.YtpdlgiioahjhiaaGreatPEzo
namespace Go.Proofs.YtpdlgiioahjhiaaGreat
open Go.RowKit
set_option linter.unusedVariables false
theorem qqc : ∀ c : UInt8, isC (c.toNat : Int) 1 = true → qkh c = false ∧ c ≠ 118 ∧ isC (c.toNat : Int) 6 = false ∧ c ≠ 60 ∧ c ≠ 61 ∧ c ≠ 62 ∧ c ≠ 126 ∧ c ≠ 94 ∧ c ≠ 124 ∧ c ≠ 45 := by
 intro c h;have hc : 48 ≤ c.toNat ∧ c.toNat ≤ 57 := by
  unfold isC at h;simp at h;omega
 refine ⟨?_, ?_, ?_, ?_, ?_, ?_, ?_, ?_, ?_, ?_⟩
 ·unfold qkh;rw [Bool.or_eq_false_iff, Bool.or_eq_false_iff];refine ⟨⟨?_, ?_⟩, ?_⟩ <;> (rw [beq_eq_false_iff_ne]; rintro rfl; revert hc; decide)
 ·rintro rfl; revert hc; decide
 ·unfold isC;simp;omega
 all_goals (rintro rfl; revert hc; decide)
theorem num_head {B : QB} (hB : numB B = true) : ∃ d r, B = d :: r ∧ isC (d.toNat : Int) 1 = true := by
 have hd := qsj hB;have hr := qjk B hd.1;cases B with
 | nil => exact absurd rfl hd.2
 | cons d r =>
  refine ⟨d, r, rfl, ?_⟩;unfold qz at hr;split at hr
  ·assumption
  ·simp at hr
end Go.Proofs.YtpdlgiioahjhiaaGreat

namespace Go.Proofs.YtpdlgiioahjhiaaGreat
set_option linter.unusedVariables false
theorem endP_err {l : QB} {a : Nat} {p : PartL} {z r : Int} (h : r ≠ 0) : (endP l a p z r).2.2 ≠ 0 := by
 unfold endP;split
 ·simp
 ·split
  ·simp
  ·exact h
theorem rn_err {l : QB} : ∀ {k i a : Nat} {sg : List (Nat × Nat)} {x : Nat × Int}, rnGo l k i a sg = .error x → x.2 ≠ 0
 | 0, i, a, sg, x, h => by
  unfold rnGo at h;split at h
  ·rename_i h1; cases h; exact h1
  ·cases h
 | k + 1, i, a, sg, x, h => by
  unfold rnGo at h;split at h
  ·rename_i h1; cases h; exact h1
  ·split at h
   ·exact rn_err h
   ·cases h
end Go.Proofs.YtpdlgiioahjhiaaGreat

namespace Go.Proofs.YtpdlgiioahjhiaaGreat
open Go.RowKit
set_option linter.unusedVariables false
def Wt (sg : List (Nat × Nat)) : Nat := (sg.map (fun x => x.2 - x.1)).sum
theorem qbxg {l : QB} {a : Nat} (h : (npL l a).2.2 = 0) : a < (npL l a).1 ∧ ((npL l a).2.1 = false → numB (seg l a (npL l a).1) = true) := by
 unfold npL at h ⊢;split
 ·exact ⟨by simp, by simp⟩
 ·rename_i h1;rw [if_neg h1] at h;split
  ·rename_i h2;rw [if_pos h2] at h;exact absurd h (by show misL l.length a ≠ 0; unfold misL; split <;> decide)
  ·rename_i h2;rw [if_neg h2] at h;split
   ·rename_i h3;rw [if_pos h3] at h;cases h
   ·rename_i h3;dsimp only;refine ⟨by omega, fun _ => ?_⟩
    have hz : qcq (seg l a (a + qz 1 (l.drop a))) = false := by
     rw [Bool.eq_false_iff];intro hz;unfold qcq at hz;simp only [Bool.and_eq_true, decide_eq_true_eq, beq_iff_eq] at hz;apply h3;have hh : (seg l a (a + qz 1 (l.drop a))).head? = l[a]? := by
      unfold seg;rw [List.head?_drop, List.getElem?_take, if_pos (by omega)]
     have hlen : (seg l a (a + qz 1 (l.drop a))).length ≤ qz 1 (l.drop a) := by
      unfold seg;rw [List.length_drop, List.length_take];omega
     rw [hh] at hz;exact ⟨hz.1.2, by omega⟩
    have : numR l a = .ok (a + qz 1 (l.drop a)) := by
     unfold numR;rw [if_neg h2, hz, if_neg (by simp)]
    exact (qrz this).2.2
theorem qbzs {l : QB} {a i : Nat} {qp : List (Nat × Nat)} (h : (npL l a).2.2 = 0) (hs : ∀ x ∈ qp, numB (seg l x.1 x.2) = true) (hi : qp.length ≤ i) :
  qp.length ≤ (addS qp i (npL l a).2.1 a (npL l a).1).length ∧ (addS qp i (npL l a).2.1 a (npL l a).1).length ≤ i + 1 ∧ (∀ x ∈ addS qp i (npL l a).2.1 a (npL l a).1, numB (seg l x.1 x.2) = true) ∧
   Wt (addS qp i (npL l a).2.1 a (npL l a).1) + (addS qp i (npL l a).2.1 a (npL l a).1).length + a ≤ Wt qp + qp.length + (npL l a).1 + 1 := by
 obtain ⟨h1, h2⟩ := qbxg h;unfold addS;split
 ·rename_i h3;simp only [Bool.and_eq_true, Bool.not_eq_true', beq_iff_eq] at h3;refine ⟨by simp, by simp; omega, ?_, ?_⟩
  ·intro x hx;rcases List.mem_append.1 hx with hx | hx
   ·exact hs x hx
   ·simp at hx;subst hx;exact h2 h3.1
  ·unfold Wt;simp;omega
 ·exact ⟨Nat.le_refl _, by omega, hs, by omega⟩
theorem qbwx {l : QB} : ∀ (k i a : Nat) (qp sg : List (Nat × Nat)) (e : Nat), rnGo l k i a qp = .ok (sg, e) → (∀ x ∈ qp, numB (seg l x.1 x.2) = true) → qp.length ≤ i →
  a ≤ e ∧ sg.length ≤ i + k + 1 ∧ (∀ x ∈ sg, numB (seg l x.1 x.2) = true) ∧ Wt sg + sg.length + a ≤ Wt qp + qp.length + e + 1
 | 0, i, a, qp, sg, e, h, hs, hi => by
  unfold rnGo at h;split at h
  ·cases h
  ·rename_i h0;have h0 : (npL l a).2.2 = 0 := by simpa using h0
   obtain ⟨q1, q2, q3, q4⟩ := qbzs (i := i) h0 hs hi;have hlt := (qbxg h0).1;injection h with h;injection h with h1 h2;subst h1 h2;exact ⟨by omega, by omega, q3, q4⟩
 | k + 1, i, a, qp, sg, e, h, hs, hi => by
  rw [rnGo] at h;split at h
  ·cases h
  ·rename_i h0;have h0 : (npL l a).2.2 = 0 := by simpa using h0
   obtain ⟨q1, q2, q3, q4⟩ := qbzs (i := i) h0 hs hi;have hlt := (qbxg h0).1;split at h
   ·obtain ⟨r1, r2, r3, r4⟩ := qbwx k (i + 1) _ _ sg e h q3 q2;exact ⟨by omega, by omega, r3, by omega⟩
   ·injection h with h;injection h with h1 h2;subst h1 h2;exact ⟨by omega, by omega, q3, q4⟩
structure GoodP (p : PartL) : Prop where
 a : numB p.maj = true
 b : numB p.min = true
 c : numB p.pat = true
 d : ∀ t ∈ p.pre, preB t = true
 t : p.told ≤ 3
 n : p.told ≠ 3 → p.pre = []
 w : p.told ≠ 0 → p.maj.length + p.min.length + p.pat.length ≤ 50
 s : lenS (begL p) ≤ 54
theorem qcbk {l : QB} {a : Nat} {p : PartL} {z r : Int} (h : (endP l a p z r).2.2 = 0) : r = 0 ∧ (endP l a p z r).1 = p ∧ z - a ≤ 48 := by
 unfold endP at h ⊢;split
 ·rename_i h1;rw [if_pos h1] at h;cases h
 ·rename_i h1;rw [if_neg h1] at h;split
  ·rename_i h2;rw [if_pos h2] at h;cases h
  ·rename_i h2;rw [if_neg h2] at h;exact ⟨h, rfl, by omega⟩
theorem qbbk {t : QB} (h : numB t = true) : 1 ≤ t.length := by
 obtain ⟨d, r, rfl, _⟩ := num_head h;simp
theorem pre_good {l : QB} {a : Nat} (h : (preR l a).2.2 = 0) : ∃ z : Nat, (preR l a).2.1 = (z : Int) ∧ a ≤ z ∧ a + lenI (preR l a).1 ≤ z ∧ ∀ t ∈ (preR l a).1, preB t = true := by
 unfold preR at h ⊢;split
 ·rename_i h1;rw [if_pos h1] at h;generalize hz : min (a + prL (l.drop a)) (a + 48) = z at *;have haz : a ≤ z := by omega
  by_cases h2 : (fauP (preT l a z)).1 = 0
  ·rw [if_pos h2];refine ⟨z, rfl, haz, ?_⟩;dsimp only;unfold fauP at h2;unfold semP;cases hp : qbf (preT l a z) with
   | error y =>
    rw [hp] at h2;dsimp only at h2;exact absurd h2 (qpf hp)
   | ok c =>
    dsimp only;have hx := qbcv hp;obtain ⟨q1, q2, q3, q4, q5⟩ := qxs hp;have hlen := qld (qcf (preT l a z) c);rw [hx] at hlen;have n1 := qbbk q1;have n2 := qbbk q2;have n3 := qbbk q3;have hT : (preT l a z).length ≤ 5 + (z - a) := by
     unfold preT seg;simp;omega
    unfold lenS at hlen;exact ⟨by omega, q4⟩
  ·rw [if_neg h2] at h;exfalso;split at h
   ·exact h2 h
   ·split at h
    ·cases h
    ·revert h
     show misL l.length z ≠ 0;unfold misL;split <;> decide
 ·exact ⟨a, rfl, Nat.le_refl _, Nat.le_refl _, fun t ht => by cases ht⟩
theorem qnr (l : QB) (a e : Nat) : (seg l a e).length ≤ e - a := by
 unfold seg;simp;omega
theorem v_le (l : QB) (a : Nat) : a ≤ vL l a := by
 unfold vL;split <;> omega
theorem qzg {l : QB} {a : Nat} (h : (rpL l a).2.2 = 0) : GoodP (rpL l a).1 := by
 have hv := v_le l a;unfold rpL at h ⊢;cases hrn : rnGo l 2 0 (vL l a) [] with
 | error x =>
  rw [hrn] at h;exact absurd h (endP_err (rn_err hrn))
 | ok x =>
  obtain ⟨sg, e⟩ := x;rw [hrn] at h;dsimp only at h ⊢;obtain ⟨r1, r2, r3, r4⟩ := qbwx 2 0 (vL l a) [] sg e hrn (by intro x hx; cases hx) (Nat.le_refl _)
  have hs0 : numB [48] = true := qmm;split
  ·rename_i h3;rw [if_pos h3] at h;obtain ⟨e1, e2, e3⟩ := qcbk h;obtain ⟨z, p1, p2, p3, p4⟩ := pre_good e1;rw [e2];rw [p1] at e3
   match sg, h3 with
   | [x, y, u], _ =>
    have w1 := qnr l x.1 x.2;have w2 := qnr l y.1 y.2;have w3 := qnr l u.1 u.2;unfold Wt at r4;simp at r4;refine ⟨r3 x (by simp), r3 y (by simp), r3 u (by simp), p4, Nat.le_refl _, fun h => absurd rfl h, fun _ => ?_, ?_⟩
    ·show (seg l x.1 x.2).length + (seg l y.1 y.2).length + (seg l u.1 u.2).length ≤ 50;omega
    ·show (seg l x.1 x.2).length + (seg l y.1 y.2).length + (seg l u.1 u.2).length + 2 + lenI (preR l e).1 + 0 ≤ 54;omega
  ·rename_i h3;rw [if_neg h3] at h;obtain ⟨e1, e2, e3⟩ := qcbk h;rw [e2]
   match sg, h3, r2 with
   | [], _, _ =>
    exact ⟨hs0, hs0, hs0, (fun t ht => by cases ht), Nat.zero_le _, fun _ => rfl, fun h => absurd rfl h, by show 1 + 1 + 1 + 2 + 0 + 0 ≤ 54; omega⟩
   | [x], _, _ =>
    have w1 := qnr l x.1 x.2;unfold Wt at r4;simp at r4;refine ⟨r3 x (by simp), hs0, hs0, (fun t ht => by cases ht), by show 1 ≤ 3; omega, fun _ => rfl, fun _ => ?_, ?_⟩
    ·show (seg l x.1 x.2).length + 1 + 1 ≤ 50;omega
    ·show (seg l x.1 x.2).length + 1 + 1 + 2 + 0 + 0 ≤ 54;omega
   | [x, y], _, _ =>
    have w1 := qnr l x.1 x.2;have w2 := qnr l y.1 y.2;unfold Wt at r4;simp at r4;refine ⟨r3 x (by simp), r3 y (by simp), hs0, (fun t ht => by cases ht), by show 2 ≤ 3; omega, fun _ => rfl, fun _ => ?_, ?_⟩
    ·show (seg l x.1 x.2).length + (seg l y.1 y.2).length + 1 ≤ 50;omega
    ·show (seg l x.1 x.2).length + (seg l y.1 y.2).length + 1 + 2 + 0 + 0 ≤ 54;omega
   | [x, y, u], h3, _ => exact absurd rfl h3
   | x :: y :: u :: v :: r, _, r2 => simp at r2
end Go.Proofs.YtpdlgiioahjhiaaGreat

namespace Go.Proofs.YtpdlgiioahjhiaaGreat
open Go.RowKit
open List renaming mem_singleton → qcfq
set_option linter.unusedVariables false
def FitL (x : SemL) : Prop := fitW x = true ∧ lenS x ≤ 64
def OkS (c : Comp) : Prop := okT1 c = true ∧ lenS c.2 ≤ 64
theorem qbcm {op : Int} {x : SemL} (h1 : (qkl op).2 = true) (h2 : FitL x) (h3 : x.bld = []) : OkS (op, x) := by
 refine ⟨?_, h2.2⟩;unfold okT1;rw [h1, h2.1, h3]
 rfl
theorem qrr {x : SemL} (hl : lenS x ≤ 64) (h1 : numB x.maj = true) (h2 : numB x.min = true) (h3 : numB x.pat = true) (h4 : ∀ t ∈ x.pre, preB t = true) (h5 : x.bld = []) : FitL x := by
 refine ⟨qzz ?_ h1 h2 h3 (List.all_eq_true.2 h4) (by rw [h5]; rfl), hl⟩
 rw [qbmt _ (by omega)]
 omega
theorem qbbx {p : PartL} (h : GoodP p) (h0 : p.told ≠ 0) {k : Int} (hk : k = 0 ∨ k = 1 ∨ k = 2) :
  FitL (qgk (begL p) k) ∧ (qgk (begL p) k).bld = [] ∧ FitL (behL p k) ∧ (behL p k).bld = [] := by
 have hf : fitW (begL p) = true := (qrr (by have := h.s; omega) h.a h.b h.c h.d rfl).1
 have hw := h.w h0;have hr : fitW (rais (begL p) k) = true := by
  by_cases hr : fitW (rais (begL p) k) = true
  ·exact hr
  ·have := qbjw (begL p) k hk (by have := h.s; omega) hf (by simpa using hr)
   have hw' : (begL p).maj.length + (begL p).min.length + (begL p).pat.length ≤ 50 := hw;omega
 have he : qgk (begL p) k = rais (begL p) k := by
  unfold qgk;rw [if_pos hf, if_pos hk, if_pos hr]
 have n1 := qhh p.maj;have n2 := qhh p.min;have n3 := qhh p.pat;unfold behL;rw [he];have hp0 : ∀ t ∈ ([[48]] : List QB), preB t = true := by decide
 rcases hk with rfl | rfl | rfl
 ·have e : rais (begL p) 0 = ⟨qbp p.maj, [48], [48], [], []⟩ := by unfold rais; simp [begL]
  rw [e] at hr ⊢;exact ⟨⟨hr, by show (qbp p.maj).length + 1 + 1 + 2 + 0 + 0 ≤ 64; omega⟩, rfl, qrr (by show (qbp p.maj).length + 1 + 1 + 2 + 2 + 0 ≤ 64; omega) (qpg h.a).1 qmm qmm hp0 rfl, rfl⟩
 ·have e : rais (begL p) 1 = ⟨p.maj, qbp p.min, [48], [], []⟩ := by unfold rais; simp [begL]
  rw [e] at hr ⊢;exact ⟨⟨hr, by show p.maj.length + (qbp p.min).length + 1 + 2 + 0 + 0 ≤ 64; omega⟩, rfl, qrr (by show p.maj.length + (qbp p.min).length + 1 + 2 + 2 + 0 ≤ 64; omega) h.a (qpg h.b).1 qmm hp0 rfl, rfl⟩
 ·have e : rais (begL p) 2 = ⟨p.maj, p.min, qbp p.pat, [], []⟩ := by unfold rais; simp [begL]
  rw [e] at hr ⊢;exact ⟨⟨hr, by show p.maj.length + p.min.length + (qbp p.pat).length + 2 + 0 + 0 ≤ 64; omega⟩, rfl, qrr (by show p.maj.length + p.min.length + (qbp p.pat).length + 2 + 2 + 0 ≤ 64; omega) h.a h.b (qpg h.c).1 hp0 rfl, rfl⟩
theorem mean_ok {p : PartL} (h : GoodP p) (f : Nat) : ∀ c ∈ qr f p, OkS c := by
 have hf : FitL (begL p) := qrr (by have := h.s; omega) h.a h.b h.c h.d rfl
 have hb : ∀ o : Int, (qkl o).2 = true → ∀ c ∈ [((o, begL p) : Comp)], OkS c := by
  intro o ho c hc;rw [qcfq] at hc;subst hc;exact qbcm ho hf rfl
 have hn : ∀ c ∈ qlx, OkS c := by
  intro c hc;unfold qlx at hc;rw [qcfq] at hc;subst hc;exact qbcm rfl (qrr (by show 1 + 1 + 1 + 2 + 2 + 0 ≤ 64; omega) qmm qmm qmm (by show ∀ t ∈ ([[48]] : List QB), preB t = true; decide) rfl) rfl
 have ht := h.t;have hw : p.told ≠ 0 → ∀ k : Int, (k = 0 ∨ k = 1 ∨ k = 2) → ∀ c ∈ qjf p k, OkS c := by
  intro h0 k hk c hc;obtain ⟨_, _, q3, q4⟩ := qbbx h h0 hk;unfold qjf at hc;rcases List.mem_cons.1 hc with rfl | hc
  ·exact qbcm rfl hf rfl
  ·rw [qcfq] at hc;subst hc;exact qbcm rfl q3 q4
 have h9 : ∀ c ∈ ([] : List Comp), OkS c := fun c hc => by cases hc
 have hfi : p.told ≠ 0 → p.told ≠ 3 → ∀ c ∈ [((1, qmh (begL p)) : Comp)], OkS c := by
  intro h0 h3 c hc;rw [qcfq] at hc;subst hc;have hw := h.w h0;exact qbcm rfl (qrr (by show p.maj.length + p.min.length + p.pat.length + 2 + 2 + 0 ≤ 64; omega) h.a h.b h.c (by show ∀ t ∈ ([[48]] : List QB), preB t = true; decide) rfl) rfl
 have hbe : p.told ≠ 0 → ∀ k : Int, (k = 0 ∨ k = 1 ∨ k = 2) → ∀ c ∈ [((1, behL p k) : Comp)], OkS c := by
  intro h0 k hk c hc;rw [qcfq] at hc;subst hc;obtain ⟨_, _, q3, q4⟩ := qbbx h h0 hk;exact qbcm rfl q3 q4
 have hne : p.told ≠ 0 → ∀ k : Int, (k = 0 ∨ k = 1 ∨ k = 2) → ∀ c ∈ [((4, qgk (begL p) k) : Comp)], OkS c := by
  intro h0 k hk c hc;rw [qcfq] at hc;subst hc;obtain ⟨q1, q2, _, _⟩ := qbbx h h0 hk;exact qbcm rfl q1 q2
 unfold qr qhq qqj qqk qqm qns qls qgl
 by_cases h0 : p.told = 0
 ·simp only [h0, if_pos]
  repeat' split
  all_goals first | exact h9 | exact hn
 ·simp only [if_neg h0]
  by_cases h3 : p.told = 3
  ·simp only [h3, if_pos]
   repeat' split
   all_goals first | exact hb _ rfl | exact hw h0 _ (by omega)
  ·simp only [if_neg h3]
   repeat' split
   all_goals first | exact hb _ rfl | exact hw h0 _ (by omega) | exact hfi h0 h3 | exact hbe h0 _ (by omega) | exact hne h0 _ (by omega)
theorem qbjh {l : QB} : ∀ (n k a : Nat), ∀ x ∈ rowG l n k a, x.err = 0 → GoodP x.p
 | 0, _, _, x, h, _ => by cases h
 | n + 1, k, a, x, h, he => by
  unfold rowG at h;split at h
  ·cases h
  ·split at h
   ·simp at h; subst h; cases he
   ·split at h
    ·simp at h; subst h; exact qzg he
    ·rcases List.mem_cons.1 h with rfl | h
     ·exact qzg he
     ·exact qbjh n (k + 1) _ x h he
theorem qbqd {l : QB} {a : Nat} : ∀ x ∈ qfw l a, x.err = 0 → GoodP x.p := by
 intro x h h0;unfold qfw at h;split at h
 ·rename_i hf;unfold qgw at hf;rw [Bool.and_eq_true] at hf;have hr : (qhd l a).2.2 = 0 := by simpa using hf.1
  unfold ftL at h;rcases List.mem_cons.1 h with rfl | h
  ·exact qzg hr
  rcases List.mem_cons.1 h with rfl | h
  ·unfold toI qgh at h0 ⊢;dsimp only at h0 ⊢;split
   ·rename_i hb;rw [if_pos hb] at h0;exact absurd h0 (by show misL _ _ ≠ 0; unfold misL; split <;> decide)
   ·rename_i hb;rw [if_neg hb] at h0;exact qzg h0
  ·split at h
   ·simp at h; subst h; cases h0
   ·cases h
 ·exact qbjh _ _ _ x h h0
theorem qbrq : ∀ (xs : List Item) (a : Int) (D : List Comp), (∀ x ∈ xs, x.err = 0 → GoodP x.p) → (∀ c ∈ D, OkS c) → ∀ c ∈ (qhn a D xs).2.2, OkS c
 | [], a, D, _, hD => hD
 | x :: xs, a, D, h, hD => by
  unfold qhn;split
  ·exact hD
  ·rename_i he;have he : x.err = 0 := by simpa using he
   refine qbrq xs _ _ (fun y hy => h y (List.mem_cons_of_mem _ hy)) ?_;intro c hc;rcases List.mem_append.1 hc with hc | hc
   ·exact hD c hc
   ·exact mean_ok (h x List.mem_cons_self he) _ c hc
theorem one_okT (l : QB) (a : Nat) : ∀ c ∈ (qbr l a).2.2, OkS c := qbrq _ _ [] qbqd (fun c hc => by cases hc)
theorem go_okT {l : QB} : ∀ (n a : Nat) (S : List (List Comp)), n + S.length = 33 → S.length ≤ 31 → (∀ cs ∈ S, ∀ c ∈ cs, OkS c) → (npGo l n a S).1 = 0 →
  (npGo l n a S).2.2 ≠ [] ∧ (npGo l n a S).2.2.length ≤ 32 ∧ ∀ cs ∈ (npGo l n a S).2.2, ∀ c ∈ cs, OkS c
 | 0, a, S, hn, hS, _, _ => by omega
 | n + 1, a, S, hn, hS, hg, h => by
  have hs : ∀ cs ∈ S ++ [(qbr l a).2.2], ∀ c ∈ cs, OkS c := by
   intro cs hc;rcases List.mem_append.1 hc with hc | hc
   ·exact hg cs hc
   ·rw [qcfq] at hc; subst hc; exact one_okT l a
  unfold npGo at h ⊢;split
  ·rename_i h1;rw [if_pos h1] at h;exact absurd h h1
  ·rename_i h1;rw [if_neg h1] at h;split
   ·exact ⟨by simp, by simp; omega, hs⟩
   ·rename_i h2;rw [if_neg h2] at h;split
    ·rename_i h3;rw [if_pos h3] at h;exact absurd h h3
    ·rename_i h3;rw [if_neg h3] at h;have h4 : S.length + 1 ≠ 32 := by
      intro h4;apply h3;unfold qgg;rw [h4];split
      ·rw [if_pos rfl];show (12 : Int) ≠ 0
       decide
      ·show misL _ _ ≠ 0;unfold misL;split <;> decide
     exact go_okT n _ _ (by simp; omega) (by simp; omega) hs h
theorem qcdr {s : QB} (h : (qbq s).1 = 0) : (qbq s).2.2 ≠ [] ∧ (qbq s).2.2.length ≤ 32 ∧ ∀ cs ∈ (qbq s).2.2, ∀ c ∈ cs, OkS c := by
 unfold qbq at h ⊢;split
 ·rename_i h1;rw [if_pos h1] at h;cases h
 ·rename_i h1;rw [if_neg h1] at h;exact go_okT 33 0 [] rfl (by simp) (by simp) h
theorem qbvb {s : QB} (h : (qbq s).1 ≠ 0) : (qbq s).2.2 = [] := by
 have hg : ∀ (n a : Nat) (S : List (List Comp)), (npGo s n a S).1 ≠ 0 → (npGo s n a S).2.2 = [] := by
  intro n
  induction n with
  | zero => intro a S _; rfl
  | succ n ih =>
   intro a S h;unfold npGo at h ⊢;split
   ·rfl
   ·rename_i h1;rw [if_neg h1] at h;split
    ·rename_i h2;rw [if_pos h2] at h;exact absurd rfl h
    ·rename_i h2;rw [if_neg h2] at h;split
     ·rfl
     ·rename_i h3;rw [if_neg h3] at h;exact ih _ _ h
 unfold qbq at h ⊢;split
 ·rfl
 ·rename_i h1;rw [if_neg h1] at h;exact hg _ _ _ h
end Go.Proofs.YtpdlgiioahjhiaaGreat
