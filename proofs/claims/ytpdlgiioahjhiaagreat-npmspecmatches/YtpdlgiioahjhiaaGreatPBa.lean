/- The walk of SemverBack. -/
import Derived.Test.YtpdlgiioahjhiaaGreatPPlainT
import Derived.Test.YtpdlgiioahjhiaaGreatPJoin
namespace Go.Proofs.YtpdlgiioahjhiaaGreat
open Go.RowKit
open Bool renaming and_eq_true → qcgf
set_option linter.unusedVariables false
theorem qsj {l : QB} (h : numB l = true) : AllD l ∧ l ≠ [] := by
 unfold numB digB at h;simp only [qcgf, beq_iff_eq] at h;refine ⟨qkm l h.1.2, fun e => ?_⟩;have := h.1.1;rw [e] at this;simp at this
theorem qcdf {x : SemL} (h : fitW x = true) : wrap64 (lenS x : Int) ≤ 64 ∧ numB x.maj = true ∧ numB x.min = true ∧ numB x.pat = true ∧ x.pre.all preB = true ∧ x.bld.all idB = true := by
 unfold fitW at h;simp only [qcgf, decide_eq_true_eq] at h;exact ⟨h.1.1.1.1.1, h.1.1.1.1.2, h.1.1.1.2, h.1.1.2, h.1.2, h.2⟩
theorem qzz {x : SemL} (h0 : wrap64 (lenS x : Int) ≤ 64) (h1 : numB x.maj = true) (h2 : numB x.min = true) (h3 : numB x.pat = true) (h4 : x.pre.all preB = true) (h5 : x.bld.all idB = true) : fitW x = true := by
 unfold fitW;simp only [qcgf, decide_eq_true_eq];exact ⟨⟨⟨⟨⟨h0, h1⟩, h2⟩, h3⟩, h4⟩, h5⟩
theorem qccp {l : QB} (h : numB l = true) : qbk l = l := by
 have hd := qsj h;unfold numB qcq at h;simp only [qcgf] at h;cases l with
 | nil => exact absurd rfl hd.2
 | cons c r =>
  by_cases hc : c = 48
  ·subst hc;cases r with
   | nil => decide
   | cons d r' =>
    exfalso;have h2 := h.2;simp only [List.head?_cons, List.length_cons, BEq.rfl, Bool.and_true, Bool.not_eq_true'] at h2;rw [h.1] at h2;simp at h2
  ·rw [qbk, if_neg hc]
theorem inc_head (l : QB) (hd : AllD l) (hn : l ≠ []) (ht : qbk l = l) : ∃ c r, incL l = c :: r ∧ c ≠ 48 := by
 cases l with
 | nil => exact absurd rfl hn
 | cons c r =>
  by_cases h9 : ∀ x ∈ c :: r, x = 57
  ·refine ⟨49, List.replicate (c :: r).length 48, ?_, by decide⟩
   unfold incL;have := qqv (c :: r).reverse [] (fun x hx => h9 x (List.mem_reverse.1 hx));rw [List.append_nil] at this;rw [this];simp [incR]
  ·by_cases hc : c = 48
   ·subst hc;rw [qbk, if_pos rfl] at ht;have hr : r = [] := by
     cases r with
     | nil => rfl
     | cons d r' =>
      exfalso;have h1 := qss (d :: r');have h2 : (qbk (d :: r')).length = (d :: r').length + 1 := by rw [ht]; rfl
      have := qmb (d :: r');rcases h1 with ⟨n, c', r'', h, hc', ht'⟩ | ⟨h, ht'⟩
      ·rw [ht'] at h2;have : (d :: r').length = n + (c' :: r'').length := by rw [h]; simp
       omega
      ·rw [ht'] at h2;simp at h2
    subst hr;exact ⟨49, [], by decide, by decide⟩
   ·exact qbjs c r hd hc h9
theorem qpg {l : QB} (h : numB l = true) : numB (qbp l) = true ∧ qbp l ≠ [] := by
 have hd := qsj h;have ht := qccp h;have hv := qcbp l hd.1;have e : qbp l = incL l := by unfold qbp; rw [if_pos (qjk l hd.1), ht]
 obtain ⟨c, r, hc, hne⟩ := inc_head l hd.1 hd.2 ht;have hall := hv.2;rw [e, hc] at hall ⊢;refine ⟨?_, by simp⟩
 have hrun := qjk (c :: r) hall;unfold numB qcq digB;rw [hrun];have : (some c == some (48 : UInt8)) = false := by simpa using hne
 simp [this]
theorem qmm : numB [48] = true := by decide
theorem len_rais (x : SemL) (k : Int) (hk : k = 0 ∨ k = 1 ∨ k = 2) (h : lenS x ≤ 1048576) (hw : x.maj.length + x.min.length + x.pat.length ≤ 50) : wrap64 (lenS (rais x k) : Int) ≤ 64 := by
 have n1 := qhh x.maj;have n2 := qhh x.min;have n3 := qhh x.pat;have : lenS (rais x k) ≤ 64 := by
  rcases hk with rfl | rfl | rfl
  ·have e : rais x 0 = ⟨qbp x.maj, [48], [48], [], []⟩ := by unfold rais; simp
   rw [e]; simp only [lenS, lenI, List.length_cons, List.length_nil]; omega
  ·have e : rais x 1 = ⟨x.maj, qbp x.min, [48], [], []⟩ := by unfold rais; simp
   rw [e]; simp only [lenS, lenI, List.length_cons, List.length_nil]; omega
  ·have e : rais x 2 = ⟨x.maj, x.min, qbp x.pat, [], []⟩ := by unfold rais; simp
   rw [e]; simp only [lenS, lenI]; omega
 rw [qbmt _ (by omega)]
 omega
theorem qbjw (x : SemL) (k : Int) (hk : k = 0 ∨ k = 1 ∨ k = 2) (h : lenS x ≤ 1048576) (hf : fitW x = true) (hn : fitW (rais x k) = false) : 50 < x.maj.length + x.min.length + x.pat.length := by
 rcases Nat.lt_or_ge 50 (x.maj.length + x.min.length + x.pat.length) with h1 | h1
 ·exact h1
 ·exfalso;obtain ⟨_, m1, m2, m3, _, _⟩ := qcdf hf;have hl := len_rais x k hk h h1;have : fitW (rais x k) = true := by
   rcases hk with rfl | rfl | rfl
   ·have e : rais x 0 = ⟨qbp x.maj, [48], [48], [], []⟩ := by unfold rais; simp
    rw [e] at hl ⊢;exact qzz hl (qpg m1).1 qmm qmm rfl rfl
   ·have e : rais x 1 = ⟨x.maj, qbp x.min, [48], [], []⟩ := by unfold rais; simp
    rw [e] at hl ⊢;exact qzz hl m1 (qpg m2).1 qmm rfl rfl
   ·have e : rais x 2 = ⟨x.maj, x.min, qbp x.pat, [], []⟩ := by unfold rais; simp
    rw [e] at hl ⊢;exact qzz hl m1 m2 (qpg m3).1 rfl rfl
  rw [this] at hn;cases hn
end Go.Proofs.YtpdlgiioahjhiaaGreat

namespace Go.Proofs.YtpdlgiioahjhiaaGreat
open Go.RowKit
open List renaming length_cons → qcfg
theorem qbps : ∀ (B C : QB), qz 1 B = B.length → (∀ c, C.head? = some c → isC (c.toNat : Int) 1 = false) → qz 1 (B ++ C) = B.length
 | [], C, _, hC => by
  cases C with
  | nil => rfl
  | cons c r => rw [List.nil_append, qz, if_neg (by rw [hC c rfl]; simp)]; rfl
 | b :: B, C, hB, hC => by
  rw [qz] at hB;split at hB
  ·rename_i hb;rw [List.cons_append, qz, if_pos hb, qbps B C (by simpa using hB) hC]; rfl
  ·simp at hB
theorem qbdm (A B : QB) : (A ++ B).drop A.length = B := by simp
theorem seg_at (A B C : QB) : seg (A ++ B ++ C) A.length (A.length + B.length) = B := by
 unfold seg;rw [show A.length + B.length = (A ++ B).length by simp, List.take_left, qbdm]
theorem qbxj (A B C : QB) (hB : numB B = true) (hC : ∀ c, C.head? = some c → isC (c.toNat : Int) 1 = false) : numR (A ++ B ++ C) A.length = .ok (A.length + B.length) := by
 have hd := qsj hB;have hr : qz 1 ((A ++ B ++ C).drop A.length) = B.length := by
  rw [List.append_assoc, qbdm, qbps B C (qjk B hd.1) hC]
 have hz : qcq B = false := by
  unfold numB at hB;simp only [Bool.and_eq_true, Bool.not_eq_true'] at hB;exact hB.2
 have hl : B.length ≠ 0 := fun h => hd.2 (List.length_eq_zero_iff.1 h);unfold numR;rw [hr, if_neg hl, seg_at, hz, if_neg (by simp)]
theorem qld (x : SemL) : (qng x).length = lenS x := by
 have hj : ∀ ts : List QB, ts ≠ [] → (qbt ts).length + 1 = lenI ts := by
  intro ts hn;cases ts with
  | nil => exact absurd rfl hn
  | cons t r =>
   have hd : ∀ us : List QB, (qkx us).length = lenI us := by
    intro us
    induction us with
    | nil => rfl
    | cons u v ih => simp only [qkx, List.flatMap_cons, List.length_append, qcfg, lenI] at ih ⊢; omega
   simp only [qbt, List.length_append, lenI, hd];omega
 have h1 : (if x.pre = [] then ([] : QB) else 45 :: qbt x.pre).length = lenI x.pre := by
  split
  ·rename_i h; rw [h]; rfl
  ·rename_i h; rw [qcfg, hj _ h]
 have h2 : (if x.bld = [] then ([] : QB) else 43 :: qbt x.bld).length = lenI x.bld := by
  split
  ·rename_i h; rw [h]; rfl
  ·rename_i h; rw [qcfg, hj _ h]
 unfold qng lenS;simp only [List.length_append, qcfg, List.length_nil, h1, h2];omega
theorem qvs {l : QB} {c : Cuts} (h : qbf l = .ok c) : fitW (qcf l c) = true ∧ lenS (qcf l c) ≤ 64 := by
 have ht := qbcv h;have hl := qvx h;have hlen := qld (qcf l c);rw [ht] at hlen;obtain ⟨p1, p2, p3, p4, p5⟩ := qxs h;refine ⟨qzz ?_ p1 p2 p3 (List.all_eq_true.2 p4) (List.all_eq_true.2 p5), by omega⟩
 rw [qbqt _ (by omega)]
 omega
end Go.Proofs.YtpdlgiioahjhiaaGreat

namespace Go.Proofs.YtpdlgiioahjhiaaGreat
open Go.RowKit Go.Shelf
open Below renaming heap_alloc → qcgz
open World renaming alloc_heap_new → qcgj, size_alloc → qcgp
set_option linter.unusedVariables false
set_option maxHeartbeats 1000000
set_option maxRecDepth 100000
theorem qbpz (s : QY) (w : World) (hs : ¬ s.size ≤ 64) : Calls Tryz.prog 76 #[.string s] w (qbdf s.data.toList w) := by
 have hl : (64 : Int) < (s.size : Int) := by omega
 have hp : qbf s.data.toList = .error (12, 64) := by unfold qbf; rw [qh, if_pos (by omega)]
 have HP := qb hp;clear hp;go_enter Tryz.func76, Tryz.ntmps76
 (go_wp2_with fail);refine qpl _ _ w.heap.size ⟨#[]⟩ ⟨#[]⟩ ⟨#[]⟩ (.slice none 0 0) (.slice none 0 0) 12 64 ⟨_, _, _, rfl⟩ ⟨_, _, _, rfl⟩ rfl rfl rfl (qcgj _ _) ?_;exact qhk (x := (64, 12)) HP.out ((Below.refl _ w).alloc (Nat.le_refl _) _)
theorem qbvc (s : QY) (w : World) : Calls Tryz.prog 76 #[.string s] w (qbdf s.data.toList w) := by
 by_cases hs : s.size ≤ 64
 ·exact qblm s w hs
 ·exact qbpz s w hs
def semP (l : QB) : SemL := match qbf l with | .ok c => qcf l c | .error _ => semN
def fauP (l : QB) : Int × Nat := match qbf l with | .ok _ => (0, 0) | .error y => y
theorem qbww (l : QB) : qct (semP l) := by
 unfold semP;cases h : qbf l with
 | ok c => exact qrd h
 | error y => exact ⟨by simp [semN], by simp [semN], by simp [semN], ⟨by simp [semN], by simp [semN]⟩, ⟨by simp [semN], by simp [semN]⟩⟩
theorem qbnn (n : Nat) (W : World) : SemF n W semZ semN := ⟨_, _, rfl, qt W, qt W, (by rintro a i c h; cases h), (by rintro a i c h; cases h)⟩
theorem qst (s : QY) (w : World) :
  Calls Tryz.prog 76 #[.string s] w fun e w' => Below w.heap.size w w' ∧ ∃ v, e = .returned (.tuple #[v, .int .i64 (fauP s.data.toList).1, .int .i64 ((fauP s.data.toList).2 : Int)]) ∧ SemF w.heap.size w' v (semP s.data.toList) := by
 refine (qbvc s w).mono ?_;rintro e w' ⟨hb, h⟩;refine ⟨hb, ?_⟩;unfold fauP semP;cases hp : qbf s.data.toList with
 | error x => rw [hp] at h; exact ⟨_, h, qbnn _ w'⟩
 | ok c =>
  rw [hp] at h;obtain ⟨v, he, h1⟩ := h;exact ⟨v, he, h1⟩
theorem fin10 {R : Ending → World → Prop} (tmps : Array Value) (W : World) (B : Nat) (a b c : QY) (vp vb : Value) (x y : Int) (op : ∃ a i c, vp = .slice a i c) (ob : ∃ a i c, vb = .slice a i c)
  (h2 : tmps.getD 2 undef = .pointer (some ⟨B, 0, none⟩)) (h3 : tmps.getD 3 undef = .pointer (some ⟨B + 1, 0, none⟩)) (e1 : W.heap[B]? = some (.cells #[.string a, .string b, .string c, vp, vb] 33 (0, 0))) (e2 : W.heap[B + 1]? = some (.cells #[.int .i64 x, .int .i64 y] 25 (0, 0)))
  (hR : R (.returned (.tuple #[.agg #[.string a, .string b, .string c, vp, vb], .agg #[.int .i64 x, .int .i64 y]])) W) :
  bodyPost Tryz.prog Tryz.f44 R .ret { tmps := tmps, defers := [] } W := by
 obtain ⟨a1, i1, c1, rfl⟩ := op;obtain ⟨a2, i2, c2, rfl⟩ := ob;obtain ⟨r0, r1, r2, r3, r4⟩ := qcd e1;have r5 := qd 0 e2 rfl;have r6 := qd 1 e2 rfl;rw [Array.getD_eq_getD_getElem?] at h2 h3;refine ⟨rfl, _, ?_, hR⟩;simp [results, Tryz.results44, go_sem, h2, h3, r0, r1, r2, r3, r4, r5, r6]
 try rfl
theorem qbwn (s : QY) (w : World) :
  Calls Tryz.prog 44 #[.string s] w fun e w' => Below w.heap.size w w' ∧ ∃ v, e = .returned (.tuple #[v, .agg #[.int .i64 (fauP s.data.toList).1, .int .i64 ((fauP s.data.toList).2 : Int)]]) ∧ SemF w.heap.size w' v (semP s.data.toList) := by
 have R1 := qb (fun W => qst s W);generalize semP s.data.toList = x at *;generalize fauP s.data.toList = f at *;obtain ⟨f1, f2⟩ := f;simp only at R1 ⊢;have b0 := ((Below.refl w.heap.size w).alloc (Nat.le_refl _) (.cells #[.string ⟨#[]⟩, .string ⟨#[]⟩, .string ⟨#[]⟩, .slice none 0 0, .slice none 0 0] 33)).alloc (by simp) (.cells #[.int .i64 0, .int .i64 0] 25)
 have k1 := qcgj w (.cells #[.string ⟨#[]⟩, .string ⟨#[]⟩, .string ⟨#[]⟩, .slice none 0 0, .slice none 0 0] 33);have k2 := qcgj (w.alloc (.cells #[.string ⟨#[]⟩, .string ⟨#[]⟩, .string ⟨#[]⟩, .slice none 0 0, .slice none 0 0] 33)) (.cells #[.int .i64 0, .int .i64 0] 25);simp only [qcgp] at k2;have k1' := qb ((qcgz (w.alloc (.cells #[.string ⟨#[]⟩, .string ⟨#[]⟩, .string ⟨#[]⟩, .slice none 0 0, .slice none 0 0] 33)) (.cells #[.int .i64 0, .int .i64 0] 25) w.heap.size (by simp)).trans k1)
 have k2' := qb k2;clear k1 k2;go_enter Tryz.func44, Tryz.ntmps44
 (go_wp2_with fail);refine (R1.out _).mono ?_;rintro e w1 ⟨b1, v, rfl, hv⟩;simp only [qcgp] at b1;have B1 := b0.trans (b1.mono (by omega))
 have g1 := (b1.block w.heap.size (by omega)).trans k1'.out
 have g2 := (b1.block (w.heap.size + 1) (by omega)).trans k2'.out
 obtain ⟨q0, q1, q2, q3, q4⟩ := qcd g1;have z0 := qf 0 g1;have z1 := qf 1 g1;have z2 := qf 2 g1;have z3 := qf 3 g1;have z4 := qf 4 g1;have y0 := qf 0 g2;have y1 := qf 1 g2;have y2 := qd 0 g2 rfl;have y3 := qd 1 g2 rfl;have hlt1 := (Array.getElem?_eq_some_iff.1 g1).1;have hlt2 := (Array.getElem?_eq_some_iff.1 g2).1;have G1 := qb g1;have G2 := qb g2;clear g1 g2;have HV := qb hv;obtain ⟨vp, vb, rfl, ⟨a3, c3, rfl, _⟩, ⟨a4, c4, rfl, _⟩, _, _⟩ := hv;(go_wp2_with fail);obtain ⟨W5, hW5, g5, hb5⟩ := qcg (W := w1) (.string (qg x.maj)) (.string (qg x.min)) (.string (qg x.pat)) (.slice a3 x.pre.length c3) (.slice a4 x.bld.length c4) G1.out;have t5 := qnw hW5;rw [← hW5];have g6 := (t5.block (w.heap.size + 1) hlt2 (by omega)).trans G2.out
 obtain ⟨W6, hW6, h61, h62, h63, h64⟩ := qsb 0 (.int .i64 f1) g6;rw [← hW6];obtain ⟨W7, hW7, h71, h72, h73, h74⟩ := qsb 1 (.int .i64 (f2 : Int)) h61;rw [← hW7];have k5 := (h72 w.heap.size (by omega)).trans ((h62 w.heap.size (by omega)).trans g5)
 have s5 := t5.size;have B7 := ((B1.trans (hb5 _ (Nat.le_refl _))).trans (h63 _ (by omega))).trans (h73 _ (by omega))
 have S7 := HV.out.young (W' := W7) (fun j h1 h2 => by
  simp only [qcgp] at h1;rw [h72 j (by omega), h62 j (by omega), t5.block j h2 (by omega)]) (by rw [h74, h64]; exact s5)
 refine fin10 _ _ w.heap.size _ _ _ _ _ f1 f2 ⟨_, _, _, rfl⟩ ⟨_, _, _, rfl⟩ rfl rfl ((qcgz _ _ _ (by rw [h74, h64]; omega)).trans k5) ((qcgz _ _ _ (by rw [h74, h64]; omega)).trans h71) ?_
 refine ⟨B7.alloc B7.size _, _, rfl, ?_⟩;refine (S7.young (fun j _ h2 => qcgz _ _ _ h2) (by simp)).mono (by simp only [qcgp]; omega)
theorem qbdw (n m : Nat) : ∀ ts : List QB, ts.length ≤ n → (∀ t ∈ ts, t.length ≤ m) → lenI ts ≤ n * (m + 1) := by
 intro ts
 induction ts generalizing n with
 | nil => intro _ _; simp [lenI]
 | cons t r ih =>
  intro h1 h2;cases n with
  | zero => simp at h1
  | succ n =>
   have := ih n (by simpa using h1) (fun u hu => h2 u (List.mem_cons_of_mem _ hu))
   have ht := h2 t List.mem_cons_self;simp only [lenI];rw [Nat.succ_mul];omega
theorem qbck (l : QB) : lenS ⟨(semP l).maj, (semP l).min, (semP l).pat, (semP l).pre, []⟩ ≤ 1048576 ∧ lenS (semP l) ≤ 1048576 := by
 unfold semP;cases h : qbf l with
 | error y => simp [semN, lenS, lenI]
 | ok c =>
  have hl := qvx h;have hx := qqs h;have b1 := qbdw 65 64 (qcf l c).pre (by simpa [qcf] using qpx l hl c.pre hx.1) (by intro t ht; obtain ⟨x, _, rfl⟩ := List.mem_map.1 ht; exact qlh l hl _ _)
  have b2 := qbdw 65 64 (qcf l c).bld (by simpa [qcf] using qpx l hl c.bld hx.2) (by intro t ht; obtain ⟨x, _, rfl⟩ := List.mem_map.1 ht; exact qlh l hl _ _)
  have s1 : (qcf l c).maj.length ≤ 64 := qlh l hl _ _;have s2 : (qcf l c).min.length ≤ 64 := qlh l hl _ _;have s3 : (qcf l c).pat.length ≤ 64 := qlh l hl _ _;simp only [lenS, lenI];omega
end Go.Proofs.YtpdlgiioahjhiaaGreat

namespace Go.Proofs.YtpdlgiioahjhiaaGreat
open Go.RowKit Go.Shelf
set_option linter.unusedVariables false
theorem qsd {W : World} {base : Nat} {e : TypeId} {size : Nat} {v : Value} {k : Nat} {xs : List Value} (h : W.ownsRow base e size v k xs) : Cap v := by
 rintro a n c rfl;rcases h.2 with ⟨h1, _⟩ | ⟨g, cap, cur, h1, _, _, h2, _⟩
 ·cases h1; exact Nat.le_refl _
 ·cases h1; exact h2
theorem qzl : Cap (.slice none 0 0) := by
 rintro a n c h; cases h; exact Nat.le_refl _
theorem qbkd {a b c p q : Value} (hp : Cap p) (hq : Cap q) : CapS (.agg #[a, b, c, p, q]) := by
 rintro a' b' c' p' q' h;cases h;exact ⟨hp, hq⟩
theorem qxc (PA : ∀ (s : QY) (w : World), s.size ≤ 64 → Calls Tryz.prog 39 #[.string s] w (qtn s w)) (s : QY) (w : World) :
  Calls Tryz.prog 39 #[.string s] w fun e w' => Below w.heap.size w w' ∧ ∃ v, e = .returned (.tuple #[v, .agg #[.int .i64 (fauP s.data.toList).1, .int .i64 ((fauP s.data.toList).2 : Int)]]) ∧ SemF w.heap.size w' v (semP s.data.toList) ∧ CapS v := by
 by_cases hs : s.size ≤ 64
 ·refine (PA s w hs).mono ?_;rintro e w' ⟨hb, h⟩;refine ⟨hb, ?_⟩;unfold fauP semP;cases hp : qbf s.data.toList with
  | error x => rw [hp] at h; exact ⟨_, h, qbnn _ w', qbkd qzl qzl⟩
  | ok c =>
   rw [hp] at h;obtain ⟨vp, vb, he, h1, h2⟩ := h;refine ⟨_, he, ⟨vp, vb, ?_, qdl h1, qdl h2, qds h1, qds h2⟩, qbkd (qsd h1) (qsd h2)⟩;simp only [semV, qcf, qbx]
 ·refine (qbdp s w hs).mono ?_;rintro e w' ⟨hb, he⟩;refine ⟨hb, ?_⟩;have hp : qbf s.data.toList = .error (12, 64) := by unfold qbf; rw [qh, if_pos (by omega)]
  unfold fauP semP;rw [hp];exact ⟨_, he, qbnn _ w', qbkd qzl qzl⟩
end Go.Proofs.YtpdlgiioahjhiaaGreat
