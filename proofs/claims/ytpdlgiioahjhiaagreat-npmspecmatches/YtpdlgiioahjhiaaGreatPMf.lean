/- Walks: a set, as the document reads it. -/
import Derived.Test.YtpdlgiioahjhiaaGreatPMe
namespace Go.Proofs.YtpdlgiioahjhiaaGreat
open Go.RowKit Go.Shelf
open _root_.Array renaming getElem?_eq_some_iff → qcgg
set_option linter.unusedVariables false
set_option maxHeartbeats 8000000
set_option maxRecDepth 100000
variable {A : Nat → Prop}
def setA (l : QB) (a : Nat) : Nat := if (qbr l a).1 = 0 then blk l (qbr l a).2.1.toNat else (qbr l a).2.1.toNat
def SetQ (s : QY) (a B : Nat) (w : World) (r : Ending) (w' : World) : Prop :=
 (∃ q, NrAt w' B s (setA s.data.toList a) (qbr s.data.toList a).1 q) ∧ Turn B w w' ∧ ∃ v, r = .returned v ∧ (∃ b n c, v = .slice b n c) ∧
  ((qbr s.data.toList a).1 = 0 → setA s.data.toList a ≤ s.size ∧ ∃ xs, w'.ownsRow w.heap.size 35 6 v (qbr s.data.toList a).2.2.length xs ∧ qbw (fun b => w.heap.size ≤ b) w' (qbr s.data.toList a).2.2 xs) ∧
  ((qbr s.data.toList a).1 ≠ 0 → (qbr s.data.toList a).2.1 = (setA s.data.toList a : Int))
theorem qrk {s : QY} {a B : Nat} {w W : World} {v : Value} {e : Int} {p : Nat} {q : Int} {cs : List Comp} (t : Turn B w W) (h : NrAt W B s p e q) (ho : qbr s.data.toList a = (e, (p : Int), cs)) (he : e ≠ 0) (hv : ∃ b n c, v = .slice b n c) : SetQ s a B w (.returned v) W := by
 have h1 : setA s.data.toList a = p := by unfold setA; rw [ho]; dsimp only; rw [if_neg he, Int.toNat_natCast]
 unfold SetQ;rw [h1, ho];exact ⟨⟨q, h⟩, t, v, rfl, hv, (fun h => absurd h he), fun _ => rfl⟩
theorem qbzx {s : QY} {a B : Nat} {w W : World} {v : Value} {z c : Nat} {q : Int} {cs : List Comp} {xs : List Value} {A : Nat → Prop} (t : Turn B w W) (h : NrAt W B s c 0 q) (ho : qbr s.data.toList a = (0, (z : Int), cs)) (hz : blk s.data.toList z = c) (hc : c ≤ s.size) (hv : ∃ b n c, v = .slice b n c)
  (hr : W.ownsRow w.heap.size 35 6 v cs.length xs) (hcs : qbw (fun b => w.heap.size ≤ b ∧ A b) W cs xs) : SetQ s a B w (.returned v) W := by
 have h1 : setA s.data.toList a = c := by unfold setA; rw [ho]; dsimp only; rw [if_pos rfl, Int.toNat_natCast, hz]
 unfold SetQ;rw [h1, ho];exact ⟨⟨q, h⟩, t, v, rfl, hv, (fun _ => ⟨hc, xs, hr, hcs.keep (A' := fun b => w.heap.size ≤ b) ⟨Nat.le_refl _, fun _ _ _ _ _ h => h⟩ (fun b hb _ => hb.1)⟩), fun h => absurd rfl h⟩
theorem qcdv {l : QB} {e : Nat} (h : qcc l e = true) : ¬ l[e]? = some 45 := by
 intro h2;unfold qcc at h;rw [h2] at h;have h3 := (List.getElem?_eq_some_iff.1 h2).1;rw [decide_eq_false (by omega)] at h
 cases h
structure OB (w W : World) (B : Nat) (s : QY) (c : Nat) (e q : Int) (v : Value) (out : List Comp) : Prop where
 rd : NrAt W B s c e q
 trn : Turn B w W
 row : ∃ xs, W.ownsRow w.heap.size 35 6 v out.length xs ∧ qbw (fun b => w.heap.size ≤ b ∧ v.ownBlock ≠ some b) W out xs
 hB : B < w.heap.size
section
variable {w W W' : World} {B c c' : Nat} {s : ByteArray} {e e' q q' : Int} {v : Value} {out : List Comp}
theorem OB.turn (h : OB w W B s c e q v out) (t : Turn B W W') (r : NrAt W' B s c' e' q') : OB w W' B s c' e' q' v out := by
 have K : Keep (fun b => w.heap.size ≤ b) W W' := qjd t (fun b hb => by have := h.hB; omega)
 obtain ⟨xs, h1, h2⟩ := h.row;exact ⟨r, h.trn.trans t, ⟨xs, qgq h1 K (fun g hg => (qcn h1 g hg).1), h2.keep ⟨K.1, fun b cs t m hb => K.2 b cs t m hb.1⟩ (fun b hb _ => hb)⟩, h.hB⟩
theorem OB.below (h : OB w W B s c e q v out) (t : Below W.heap.size W W') : OB w W' B s c e q v out := h.turn (Turn.ofBelow t) (h.rd.below t)
theorem OB.drewN (h : OB w W B s c e q v out) (k : Nat) : OB w (W.drewN k) B s c e q v out := h.turn (Turn.drewN B W k) (h.rd.drewN k)
theorem OB.place (h : OB w W B s c e q v out) (x : Nat) : OB w (W.setCell ⟨B, 1, none⟩ (.int .i64 (x : Int))) B s x e q v out := h.turn (Turn.set B 1 W _) (h.rd.place x)
theorem OB.seen (h : OB w W B s c e q v out) : W.cell? ⟨B, 0, none⟩ = some (.string s) ∧ W.cell? ⟨B, 1, none⟩ = some (.int .i64 (c : Int)) ∧ W.cell? ⟨B, 2, none⟩ = some (.int .i64 e) := ⟨h.rd.seen.1, h.rd.seen.2.1, h.rd.seen.2.2.1⟩
theorem OB.slice (h : OB w W B s c e q v out) : ∃ a k, v = .slice a out.length k := by
 obtain ⟨xs, h1, _⟩ := h.row;obtain ⟨a, k, hv, _⟩ := qdd h1;exact ⟨a, k, hv⟩
theorem OB.ends_any (h : OB w W B s c 0 q v out) (hc : c ≤ s.size) : Calls Tryz.prog 94 #[.pointer (some ⟨B, 0, none⟩)] W fun r w' => r = .returned (.bool (qcc s.data.toList c)) ∧ ∃ n, w' = W.drewN n := by
 have := qbjt B s c 0 q W h.rd;rw [qbsn hc] at this;exact this
theorem OB.app (h : OB w W B s c e q v out) {u : Value} {ds : List Comp} {ys : List Value} {b2 : Nat} (hou : W.ownsRow b2 35 6 u ds.length ys) (hd : qbw (fun b => w.heap.size ≤ b ∧ v.ownBlock ≠ some b) W ds ys) (hn : out.length + ds.length ≤ 1048576) :
  ∃ v' W', (Builtin.append_ #[39, 39] 39 #[v, u]).run Tryz.prog W = .ok v' W' ∧ OB w W' B s c e q v' (out ++ ds) := by
 obtain ⟨xs, h1, h2⟩ := h.row;obtain ⟨v', W', hrun, hown, hcs, hg, hp⟩ := app_R h1 h2 hou hd h.trn.size hn;have hlt := qcn h1;have hgb : ∀ k, k < w.heap.size → W'.heap[k]? = W.heap[k]? := fun k h3 => hg.block k (Nat.lt_of_lt_of_le h3 h.trn.size) (fun e => by have := (hlt k e.symm).1; omega)
 refine ⟨v', W', hrun, (hgb B h.hB).trans h.rd, ⟨hg.os.trans h.trn.os, hg.tape.trans h.trn.tape, hg.output.trans h.trn.output, Nat.le_trans h.trn.size hg.size, fun k h3 h4 => (hgb k h3).trans (h.trn.block k h3 h4)⟩, ⟨_, hown, qbw.keep (A := fun b => w.heap.size ≤ b ∧ v.ownBlock ≠ some b) ⟨hg.size, fun b cs t m hb hh => (hg.block b (qcgg.1 hh).1 hb.2.symm).trans hh⟩ (fun b hb hbl => ⟨hb.1, ?_⟩) hcs⟩, h.hB⟩;rcases hp with hp | hp
 ·rw [hp]; exact hb.2
 ·rw [hp]; intro e; simp only [Option.some.injEq] at e; omega
end
theorem nset_any (B : Nat) (s : QY) (a : Nat) (q0 : Int) (w : World) (h : NrAt w B s a 0 q0) (ha : a ≤ s.size) (hs : s.size ≤ 256) :
  Calls Tryz.prog 58 #[.pointer (some ⟨B, 0, none⟩)] w (SetQ s a B w) := by
 obtain ⟨c0, c1, c2, c3, f1, f2, f3⟩ := h.seen;have hBs := h.lt;have H0 := qb h;have HAL : Hid (a ≤ s.data.toList.length) := by show _ ≤ _; rw [qh]; exact ha
 have HSL : Hid (s.data.toList.length ≤ 256) := by show _ ≤ _; rw [qh]; exact hs
 clear h;go_enter Tryz.func58, Tryz.ntmps58
 (go_wp2_with fail);refine (qjg B s a 0 q0 _ H0.out ha hs).mono ?_;rintro r w1 ⟨rfl, h1, t1⟩;rw [show bkA s.data.toList a 0 = blk s.data.toList a from if_pos rfl] at h1;have Q1 : Hid (OB w w1 B s (blk s.data.toList a) 0 q0 (.slice none 0 0) []) := ⟨h1, t1, ⟨[], World.ownsRow_nil _ _ _ _, rfl⟩, hBs⟩;clear h1 t1 c0 c1 c2 c3 f1 f2 f3;(go_wp2_with fail);go_loopw [3, 4] (fun vv iv wr => ∃ (n c : Nat) (e q : Int) (v : Value) (out : List Comp), n ≤ 33 ∧ c ≤ s.size ∧ vv = v ∧ iv = .int .i64 (n : Int) ∧ Hid (OB w wr B s c e q v out) ∧ Hid (e = 0 ∧ SetI s.data.toList a n c out ∨ e = 10 ∧ ∃ cs, qbr s.data.toList a = (10, (c : Int), cs))) (fun _ i _ => 34 - (intOf i).toNat)
 case atStart =>
  refine ⟨0, blk s.data.toList a, 0, q0, _, [], by omega, ?_, rfl, rfl, Q1, .inl ⟨rfl, SetI.start HAL.out⟩⟩
  have := qdh HAL.out;rw [qh] at this;exact this
 case round =>
  obtain ⟨n, c, e, q, v, out, hn33, hcs, rfl, rfl, Q2, HI⟩ := hrel;obtain ⟨va0, vk0, hv0⟩ := Q2.out.slice;subst hv0;obtain ⟨c0, c1, c2⟩ := Q2.out.seen;rcases HI.out with ⟨rfl, hI⟩ | ⟨rfl, cs, h10⟩
  ·have HS := qb hI;have hn32 := hI.num;clear hI HI Q1;have EN := qb (Q2.out.ends_any hcs);have hEa := fun he => HS.out.ends HAL.out he;have HEA := qb hEa;clear hEa;cases hE : qcc s.data.toList c
   ·rw [hE] at EN;have HE := qb hE;clear HEA hE
    by_cases hn : n = 32
    ·subst hn;have HM : Hid (qbr s.data.toList a = (12, (c : Int), out)) := HS.out.many HAL.out HE.out;(go_wp2_with fail);refine EN.out.mono ?_;rintro r w2 ⟨rfl, n2, rfl⟩;have Q3 := qb (Q2.out.drewN n2);generalize wr.drewN n2 = W3 at *;clear c0 c1 c2 EN Q2;(go_wp2_with fail);refine (qcr B s c 0 q 12 _ Q3.out.rd).mono ?_;rintro r w4 ⟨rfl, h4, t4⟩;rw [qbj] at h4;have Q4 := qb (Q3.out.turn t4 h4);clear h4 t4;(go_wp2_with fail);go_ret
     exact qrk Q4.out.trn Q4.out.rd HM.out (by decide) ⟨_, _, _, rfl⟩
    ·have gn : ((n : Int) == 32) = false := by simp; omega
     have HN32 := qb hn;clear hn;(go_wp2_with fail);refine EN.out.mono ?_;rintro r w2 ⟨rfl, n2, rfl⟩;have Q3 := qb (Q2.out.drewN n2);generalize wr.drewN n2 = W3 at *;clear c0 c1 c2 EN Q2;obtain ⟨c0, c1, c2⟩ := Q3.out.seen;(go_wp2_with fail);refine (qcck B s c q _ Q3.out.rd hcs hs).mono ?_;rintro r w4 ⟨rfl, h4, t4⟩;have Q4 := qb (Q3.out.turn t4 h4);clear h4 t4 c0 c1 c2;obtain ⟨c0, c1, c2⟩ := Q4.out.seen;have FN := qb (par_fn s.data.toList c);have SBAD := qb (fun h => HS.out.bad HAL.out HSL.out HE.out HN32.out h);have SFORM := qb (fun h h1 h2 => HS.out.form HAL.out HSL.out HE.out HN32.out h h1 h2);have SNEXT := qb (fun h h1 h2 => HS.out.next HAL.out HSL.out HE.out HN32.out h h1 h2);have PLE := (qbmj (l := s.data.toList) (c := c) (by rw [qh]; exact hcs))
     have hol := PLE.1;have hbl := PLE.2;rw [qh] at hol hbl;clear PLE;obtain ⟨b, hbb⟩ : ∃ b, parB s.data.toList c = b := ⟨_, rfl⟩;rw [hbb] at SBAD SFORM SNEXT hbl
     by_cases hp : (opD s.data.toList c).2 = c
     ·have hb := (qwx hp).2;have SFR := qb (fun (h0 : n = 0) => (show SetI s.data.toList a 0 c out from h0 ▸ HS.out).from_ HSL.out hp);have Q5 := Q4;rw [hp] at Q5 c1;clear Q4 hol;generalize (opD s.data.toList c).1 = op at *;generalize (opL s.data.toList c).2 = f at *;have hbc : b = c := hbb.symm.trans hb;clear hbb hb hp;subst hbc;have g5 : ((b : Int) == (b : Int)) = true := by simp
      (go_wp2_with fail);refine (qpr B s b q _ Q5.out.rd hbl hs).mono ?_;rintro r w6 ⟨h6, t6, xx, yy, zz, vv, nn, rfl, ⟨va, vn, vc, rfl⟩, hok⟩;have Q6 := qb (Q5.out.turn t6 h6);have HOK := qb hok;have SZ56 := qb t6.size;have OL5 := qb (qcn Q5.out.row.choose_spec.1);clear h6 t6 hok;have RL := qb (fun h => qvr (l := s.data.toList) (b := b) (by rw [qh]; exact hbl) HSL.out h)
      have MP := qb (fun h A x n m W h1 h2 h3 => qsp (l := s.data.toList) (b := b) HSL.out h op f FN.out A x n m W h1 h2 h3);have PG := qb (fun h => qbbm (l := s.data.toList) (sg := (rpD s.data.toList b).1) (qbcp h).2.2.1 (rpD s.data.toList b).2.1);generalize rpD s.data.toList b = D at *;obtain ⟨sg, pr2, e2, r2⟩ := D;dsimp only at *;have n7 := World.alloc_heap_new w6 (.cells #[.string xx, .string yy, .string zz, .slice va vn vc, .int .i64 (nn : Int)] 123);have B7 := qb ((Below.refl _ w6).alloc (Nat.le_refl _) (.cells #[.string xx, .string yy, .string zz, .slice va vn vc, .int .i64 (nn : Int)] 123));have N7 := qb n7;clear n7 c0 c1 c2;have Q7 := qb (Q6.out.below B7.out);have hB6 : B < w6.heap.size := Q6.out.rd.lt;obtain ⟨c0, c1, c2⟩ := Q6.out.seen;obtain ⟨e0, e1, e22⟩ := Q7.out.seen
      by_cases hr2 : r2 = 0
      ·subst hr2;obtain ⟨hx, hy, hz, hn, htx, hfr, hcp⟩ := HOK.out rfl;rw [qbkn] at hx hy hz;subst hx hy hz hn;have he2 := RL.out rfl;rw [qh] at he2;have HPP := qb (PG.out rfl);have MP2 := qb (MP.out rfl);have CF := qb (qsf htx hcp hfr);have HTX := qb (htx.below B7.out);clear htx hfr hcp HOK MP RL PG SBAD;generalize segE s.data.toList sg 0 = ta at *;generalize segE s.data.toList sg 1 = tb at *;generalize segE s.data.toList sg 2 = tc at *;generalize sg.length = nn at *;(go_wp2_with fail);generalize w6.alloc _ = W7 at *;have OL7 := qb (qcn Q7.out.row.choose_spec.1);have L67 : Hid (w6.heap.size < W7.heap.size) := (qcgg.1 N7.out).1;have CF7 : Hid (CapA (fun q => w.heap.size ≤ q ∧ (Value.slice va0 out.length vk0).ownBlock ≠ some q) (.slice va vn vc)) := qzm (fun q hq => ⟨by have := Q5.out.trn.size; have := hq.1; omega, fun e => by have := (OL5.out q e).2; have := hq.1; omega⟩) CF.out
       refine (MP2.out (fun q => w.heap.size ≤ q ∧ (Value.slice va0 out.length vk0).ownBlock ≠ some q) va vn vc W7 (fun q hq => ⟨by have := Q7.out.trn.size; omega, fun e => by have := (OL7.out q e).2; omega⟩) HTX.out CF7.out).mono ?_
       rintro e w8 ⟨b8, v2, x2, rfl, o8, k8⟩;have Q8 := qb (Q7.out.below b8);have O8 := qb o8;have C8 := qb k8;have P8 : Hid (w8.heap[w6.heap.size]? = some (.cells #[.string (qg ta), .string (qg tb), .string (qg tc), .slice va vn vc, .int .i64 (nn : Int)] 123 (0, 0))) := (b8.block _ L67.out).trans N7.out;have TX8 := qb (HTX.out.below b8);have SZ8 := qb b8.size;clear b8 o8 k8 c0 c1 c2 e0 e1 e22 MP2;obtain ⟨c0, c1, c2⟩ := Q8.out.seen;(go_wp2_with fail);refine (qjg B s e2 0 b _ Q8.out.rd he2 hs).mono ?_;rintro r w9 ⟨rfl, h9, t9⟩;rw [show bkA s.data.toList e2 0 = blk s.data.toList e2 from if_pos rfl] at h9;have Q9 := qb (Q8.out.turn t9 h9);have hB7 : B < W7.heap.size := Q7.out.rd.lt;have O9 : Hid (w9.ownsRow W7.heap.size 35 6 v2 (qr f (qcw s.data.toList sg pr2)).length x2) := qgq O8.out (qjd (A := fun q => W7.heap.size ≤ q) t9 (fun q hq => by omega)) (fun g hg => (qcn O8.out g hg).1)
       have KT := qjd (A := fun q => w.heap.size ≤ q ∧ (Value.slice va0 out.length vk0).ownBlock ≠ some q) t9 (fun q hq => by have := hq.1; have := Q8.out.hB; omega)
       have C9 : Hid (qbw (fun q => w.heap.size ≤ q ∧ (Value.slice va0 out.length vk0).ownBlock ≠ some q) w9 (qr f (qcw s.data.toList sg pr2)) x2) := C8.out.keep KT (fun q hq _ => hq);have P9 : Hid (w9.heap[w6.heap.size]? = some (.cells #[.string (qg ta), .string (qg tb), .string (qg tc), .slice va vn vc, .int .i64 (nn : Int)] 123 (0, 0))) := (t9.block _ (Nat.lt_of_lt_of_le L67.out SZ8.out) (by omega)).trans P8.out
       have TX9 := qb (qkg TX8.out CF7.out KT);have CF9 := CF7;clear h9 t9 KT c0 c1 c2 O8 C8 TX8;have he3 := qdh (l := s.data.toList) (a := e2) (by rw [qh]; exact he2)
       rw [qh] at he3;have hge := blk_ge s.data.toList e2;obtain ⟨e3, hb3⟩ : ∃ e3, blk s.data.toList e2 = e3 := ⟨_, rfl⟩;rw [hb3] at he3 hge Q9 SNEXT SFORM SFR;have HB3 := qb hb3;clear hb3;obtain ⟨c0, c1, c2⟩ := Q9.out.seen;have u0 : w9.cell? ⟨w6.heap.size, 0, none⟩ = some (.string (qg ta)) := qd 0 P9.out rfl;have u1 : w9.cell? ⟨w6.heap.size, 1, none⟩ = some (.string (qg tb)) := qd 1 P9.out rfl;have u2 : w9.cell? ⟨w6.heap.size, 2, none⟩ = some (.string (qg tc)) := qd 2 P9.out rfl;have u3 : w9.cell? ⟨w6.heap.size, 3, none⟩ = some (.slice va vn vc) := qd 3 P9.out rfl;have u4 : w9.cell? ⟨w6.heap.size, 4, none⟩ = some (.int .i64 (nn : Int)) := qd 4 P9.out rfl
       by_cases hn0 : n = 0
       ·subst hn0;have g0 : (((0 : Nat) : Int) == 0) = true := rfl
        by_cases h3 : e2 < e3
        ·have g1 : decide ((e2 : Int) < (e3 : Int)) = true := decide_eq_true (by omega)
         have IS0 := qcp B s e3 0 b 45 _ Q9.out.rd;rw [show (decide ((0 : Int) = 0) && atB s.data.toList e3 45) = atB s.data.toList e3 45 by simp] at IS0
         cases h45 : atB s.data.toList e3 45
         ·rw [h45] at IS0;have IS := qb IS0;have H45 : Hid (¬ s.data.toList[e3]? = some 45) := fun h => by rw [(qbz _ _ 45).2 h] at h45; cases h45
          clear IS0 h45;(go_wp2_with fail);refine (IS.out).mono ?_;rintro r w10 ⟨rfl, n10, rfl⟩;have Q10 := qb (Q9.out.drewN n10);have KB : Keep (fun _ => True) w9 (w9.drewN n10) := qfh (qbm _ _ n10);have O10 := qb (qgq O9.out KB (fun _ _ => trivial));have C10 := qb (qbw.keep (qfh (qbm _ _ n10)) (fun q hq _ => hq) C9.out);clear IS KB Q9 O9 C9;have Q9 := Q10;have O9 := O10;have C9 := C10;clear Q10 O10 C10;obtain ⟨v', w11, hrun, hob⟩ := Q9.out.app O9.out C9.out (by have := HS.out.len; have := qjl f (qcw s.data.toList sg pr2); omega)
          obtain ⟨av', kv', hv'⟩ := hob.slice;generalize (out ++ qr f (qcw s.data.toList sg pr2)).length = LL at hv';subst hv';have Q11 := qb hob;clear hob u0 u1 u2 u3 u4 O9 C9;obtain ⟨m0, m1, m2⟩ := Q11.out.seen
          by_cases h32 : e3 = e2
          ·have k1 : ((e3 : Int) == (e2 : Int)) = true := by simp; omega
           have EN3 := Q11.out.ends_any he3;cases hE3 : qcc s.data.toList e3
           ·rw [hE3] at EN3;have EN4 := qb EN3;have HF := qb (SFORM.out (by simp) (by rw [← h32]; exact hE3) h32)
            have HE32 := qb h32;clear EN3 hE3 h32;go_wp2_with (at_builtin; refine qbl rfl _ _ 39 rfl _ _ _ rfl rfl hrun ?_)
            refine EN4.out.mono ?_;rintro r w12 ⟨rfl, n12, rfl⟩;have Q12 := qb (Q11.out.drewN n12);clear c0 c1 c2 EN4 hrun;(go_wp2_with fail);refine (qcr B s e3 0 b 10 _ Q12.out.rd).mono ?_;rintro r w13 ⟨rfl, h13, t13⟩;rw [qbj] at h13;have Q13 := qb (Q12.out.turn t13 h13);clear h13 t13;(go_wp2_with fail);go_roundw
            case rel => exact ⟨0 + 1, e3, 10, b, _, out ++ qr f (qcw s.data.toList sg pr2), by omega, he3, rfl, by go_num, Q13, .inr ⟨rfl, out, by rw [HE32.out]; exact HF.out⟩⟩
            case measure => (simp [intOf]; try omega)
           ·rw [hE3] at EN3;have EN4 := qb EN3;have HF := qb (SNEXT.out (by simp) (.inl (by rw [← h32]; exact hE3)) (fun _ _ h => H45.out h))
            clear EN3 hE3 h32;go_wp2_with (at_builtin; refine qbl rfl _ _ 39 rfl _ _ _ rfl rfl hrun ?_)
            refine EN4.out.mono ?_;rintro r w12 ⟨rfl, n12, rfl⟩;have Q12 := qb (Q11.out.drewN n12);clear c0 c1 c2 EN4 hrun;(go_wp2_with fail);go_roundw
            case rel => exact ⟨0 + 1, e3, 0, b, _, out ++ qr f (qcw s.data.toList sg pr2), by omega, he3, rfl, by go_num, Q12, .inl ⟨rfl, HF.out⟩⟩
            case measure => (simp [intOf]; try omega)
          ·have k1 : ((e3 : Int) == (e2 : Int)) = false := by simp; omega
           have HF := qb (SNEXT.out (by simp) (.inr h32) (fun _ _ h => H45.out h))
           clear h32;go_wp2_with (at_builtin; refine qbl rfl _ _ 39 rfl _ _ _ rfl rfl hrun ?_)
           go_roundw
           case rel => exact ⟨0 + 1, e3, 0, b, _, out ++ qr f (qcw s.data.toList sg pr2), by omega, he3, rfl, by go_num, Q11, .inl ⟨rfl, HF.out⟩⟩
           case measure => (simp [intOf]; try omega)
         ·rw [h45] at IS0;have IS := qb IS0;have h45' := (qbz _ _ 45).1 h45;have h3lt : e3 < s.size := by have := (List.getElem?_eq_some_iff.1 h45').1; rw [qh] at this; exact this
          have SFROM := qb (SFR.out rfl (by simp) (by omega) h45')
          clear IS0 h45 h45';(go_wp2_with fail);refine (IS.out).mono ?_;rintro r w10 ⟨rfl, n10, rfl⟩;have Q10 := qb (Q9.out.drewN n10);have P10 : Hid ((w9.drewN n10).heap[w6.heap.size]? = some (.cells #[.string (qg ta), .string (qg tb), .string (qg tc), .slice va vn vc, .int .i64 (nn : Int)] 123 (0, 0))) := by
           show _ = _;rw [qjs]; exact P9.out
          have TX10 := qb (TX9.out.below (qbm _ _ n10));clear c0 c1 c2 u0 u1 u2 u3 u4 IS;generalize w9.drewN n10 = W10 at *;have u0 : W10.cell? ⟨w6.heap.size, 0, none⟩ = some (.string (qg ta)) := qd 0 P10.out rfl;have u1 : W10.cell? ⟨w6.heap.size, 1, none⟩ = some (.string (qg tb)) := qd 1 P10.out rfl;have u2 : W10.cell? ⟨w6.heap.size, 2, none⟩ = some (.string (qg tc)) := qd 2 P10.out rfl;have u3 : W10.cell? ⟨w6.heap.size, 3, none⟩ = some (.slice va vn vc) := qd 3 P10.out rfl;have u4 : W10.cell? ⟨w6.heap.size, 4, none⟩ = some (.int .i64 (nn : Int)) := qd 4 P10.out rfl;(go_wp2_with fail);refine (qbth (A := fun q => w.heap.size ≤ q) B s e3 b ta tb tc pr2 va vn vc nn _ Q10.out.rd h3lt hs (fun q hq => by have := Q10.out.trn.size; omega) (fun q hq => by have := Q10.out.hB; omega) TX10.out (qzm (fun q hq => hq.1) CF9.out)).mono ?_
          rintro r w11 ⟨⟨q11, h11⟩, t11, v11, rfl, ⟨b11, n11, c11, rfl⟩, hok11⟩;have H11 := qb h11;have T11 := qb (Q10.out.trn.trans t11);have OK11 := qb hok11;clear h11 t11 hok11 u0 u1 u2 u3 u4;(go_wp2_with fail);go_ret
          obtain ⟨p, ds, g1, g2, g3⟩ := toD_fold (l := s.data.toList) HSL.out (e := e2) (by rw [HB3.out, qh]; exact h3lt) (e2 : Int) (qr 85 (qcw s.data.toList sg pr2))
          have g0 := SFROM.out.trans g1;rw [HB3.out] at g0 g2 g3
          by_cases hz : (toD s.data.toList e3).1 = 0
          ·obtain ⟨⟨qq, g4, g5, g6⟩, g7⟩ := g3 hz;obtain ⟨xs, g8, g9⟩ := OK11.out hz;rw [g4, g7, hz] at g0;have h11 := H11.out;rw [hz] at h11;rw [HPP.out] at g0;exact qbzx T11.out h11 g0 g6 (by have := qdh g5; rw [g6, qh] at this; exact this) ⟨_, _, _, rfl⟩ (qqq g8 Q10.out.trn.size) g9
          ·rw [g2 hz] at g0;exact qrk T11.out H11.out g0 hz ⟨_, _, _, rfl⟩
        ·have g1 : decide ((e2 : Int) < (e3 : Int)) = false := decide_eq_false (by omega)
         have g2 : decide (e2 < e3) = false := decide_eq_false (by omega)
         have HN3 := qb h3;clear h3;obtain ⟨v', w11, hrun, hob⟩ := Q9.out.app O9.out C9.out (by have := HS.out.len; have := qjl f (qcw s.data.toList sg pr2); omega)
         obtain ⟨av', kv', hv'⟩ := hob.slice;generalize (out ++ qr f (qcw s.data.toList sg pr2)).length = LL at hv';subst hv';have Q11 := qb hob;clear hob u0 u1 u2 u3 u4 O9 C9;obtain ⟨m0, m1, m2⟩ := Q11.out.seen
         by_cases h32 : e3 = e2
         ·have k1 : ((e3 : Int) == (e2 : Int)) = true := by simp; omega
          have EN3 := Q11.out.ends_any he3;cases hE3 : qcc s.data.toList e3
          ·rw [hE3] at EN3;have EN4 := qb EN3;have HF := qb (SFORM.out (by simp) (by rw [← h32]; exact hE3) h32)
           have HE32 := qb h32;clear EN3 hE3 h32;go_wp2_with (at_builtin; refine qbl rfl _ _ 39 rfl _ _ _ rfl rfl hrun ?_)
           refine EN4.out.mono ?_;rintro r w12 ⟨rfl, n12, rfl⟩;have Q12 := qb (Q11.out.drewN n12);clear c0 c1 c2 EN4 hrun;(go_wp2_with fail);refine (qcr B s e3 0 b 10 _ Q12.out.rd).mono ?_;rintro r w13 ⟨rfl, h13, t13⟩;rw [qbj] at h13;have Q13 := qb (Q12.out.turn t13 h13);clear h13 t13;(go_wp2_with fail);go_roundw
           case rel => exact ⟨0 + 1, e3, 10, b, _, out ++ qr f (qcw s.data.toList sg pr2), by omega, he3, rfl, by go_num, Q13, .inr ⟨rfl, out, by rw [HE32.out]; exact HF.out⟩⟩
           case measure => (simp [intOf]; try omega)
          ·rw [hE3] at EN3;have EN4 := qb EN3;have HF := qb (SNEXT.out (by simp) (.inl (by rw [← h32]; exact hE3)) (fun _ _ h => qcdv hE3 h))
           clear EN3 hE3 h32;go_wp2_with (at_builtin; refine qbl rfl _ _ 39 rfl _ _ _ rfl rfl hrun ?_)
           refine EN4.out.mono ?_;rintro r w12 ⟨rfl, n12, rfl⟩;have Q12 := qb (Q11.out.drewN n12);clear c0 c1 c2 EN4 hrun;(go_wp2_with fail);go_roundw
           case rel => exact ⟨0 + 1, e3, 0, b, _, out ++ qr f (qcw s.data.toList sg pr2), by omega, he3, rfl, by go_num, Q12, .inl ⟨rfl, HF.out⟩⟩
           case measure => (simp [intOf]; try omega)
         ·have k1 : ((e3 : Int) == (e2 : Int)) = false := by simp; omega
          have HF := qb (SNEXT.out (by simp) (.inr h32) (fun _ _ _ => absurd (show e3 = e2 by have := HN3.out; omega) h32))
          clear h32;go_wp2_with (at_builtin; refine qbl rfl _ _ 39 rfl _ _ _ rfl rfl hrun ?_)
          go_roundw
          case rel => exact ⟨0 + 1, e3, 0, b, _, out ++ qr f (qcw s.data.toList sg pr2), by omega, he3, rfl, by go_num, Q11, .inl ⟨rfl, HF.out⟩⟩
          case measure => (simp [intOf]; try omega)
       ·have g0 : ((n : Int) == 0) = false := by simp; omega
        obtain ⟨v', w11, hrun, hob⟩ := Q9.out.app O9.out C9.out (by have := HS.out.len; have := qjl f (qcw s.data.toList sg pr2); omega)
        obtain ⟨av', kv', hv'⟩ := hob.slice;generalize (out ++ qr f (qcw s.data.toList sg pr2)).length = LL at hv';subst hv';have Q11 := qb hob;clear hob u0 u1 u2 u3 u4 O9 C9;obtain ⟨m0, m1, m2⟩ := Q11.out.seen
        by_cases h32 : e3 = e2
        ·have k1 : ((e3 : Int) == (e2 : Int)) = true := by simp; omega
         have EN3 := Q11.out.ends_any he3;cases hE3 : qcc s.data.toList e3
         ·rw [hE3] at EN3;have EN4 := qb EN3;have HF := qb (SFORM.out (by simp) (by rw [← h32]; exact hE3) h32)
          have HE32 := qb h32;clear EN3 hE3 h32;go_wp2_with (at_builtin; refine qbl rfl _ _ 39 rfl _ _ _ rfl rfl hrun ?_)
          refine EN4.out.mono ?_;rintro r w12 ⟨rfl, n12, rfl⟩;have Q12 := qb (Q11.out.drewN n12);clear c0 c1 c2 EN4 hrun;(go_wp2_with fail);refine (qcr B s e3 0 b 10 _ Q12.out.rd).mono ?_;rintro r w13 ⟨rfl, h13, t13⟩;rw [qbj] at h13;have Q13 := qb (Q12.out.turn t13 h13);clear h13 t13;(go_wp2_with fail);go_roundw
          case rel => exact ⟨n + 1, e3, 10, b, _, out ++ qr f (qcw s.data.toList sg pr2), by omega, he3, rfl, by go_num, Q13, .inr ⟨rfl, out, by rw [HE32.out]; exact HF.out⟩⟩
          case measure => (simp [intOf]; try omega)
         ·rw [hE3] at EN3;have EN4 := qb EN3;have HF := qb (SNEXT.out (by simp) (.inl (by rw [← h32]; exact hE3)) (fun _ h => absurd h hn0))
          clear EN3 hE3 h32;go_wp2_with (at_builtin; refine qbl rfl _ _ 39 rfl _ _ _ rfl rfl hrun ?_)
          refine EN4.out.mono ?_;rintro r w12 ⟨rfl, n12, rfl⟩;have Q12 := qb (Q11.out.drewN n12);clear c0 c1 c2 EN4 hrun;(go_wp2_with fail);go_roundw
          case rel => exact ⟨n + 1, e3, 0, b, _, out ++ qr f (qcw s.data.toList sg pr2), by omega, he3, rfl, by go_num, Q12, .inl ⟨rfl, HF.out⟩⟩
          case measure => (simp [intOf]; try omega)
        ·have k1 : ((e3 : Int) == (e2 : Int)) = false := by simp; omega
         have HF := qb (SNEXT.out (by simp) (.inr h32) (fun _ h => absurd h hn0))
         clear h32;go_wp2_with (at_builtin; refine qbl rfl _ _ 39 rfl _ _ _ rfl rfl hrun ?_)
         go_roundw
         case rel => exact ⟨n + 1, e3, 0, b, _, out ++ qr f (qcw s.data.toList sg pr2), by omega, he3, rfl, by go_num, Q11, .inl ⟨rfl, HF.out⟩⟩
         case measure => (simp [intOf]; try omega)
      ·have HNe := qb hr2;have hb1 : (r2 == 0) = false := by simpa using hr2
       have hb2 : (r2 != 0) = true := by simpa using hr2
       have HBAD := qb (SBAD.out hr2);clear hr2 MP HOK RL SBAD PG;(go_wp2_with fail);go_ret
       exact qrk Q7.out.trn Q7.out.rd HBAD.out HNe.out ⟨_, _, _, rfl⟩
     ·have hbo : blk s.data.toList (opD s.data.toList c).2 = b := (if_neg hp : parB s.data.toList c = _).symm.trans hbb;have HPL := qb hp;have g5 : (((opD s.data.toList c).2 : Int) == (c : Int)) = false := by simp; omega
      have HBO := qb hbo;clear hbo hbb hp;generalize (opD s.data.toList c).1 = op at *;generalize (opL s.data.toList c).2 = f at *;generalize (opD s.data.toList c).2 = o at *;(go_wp2_with fail);refine (qjg B s o 0 q _ Q4.out.rd hol hs).mono ?_;rintro r w5 ⟨rfl, h5, t5⟩;rw [show bkA s.data.toList o 0 = b from (if_pos rfl).trans HBO.out] at h5;have Q5 := qb (Q4.out.turn t5 h5);clear h5 t5 c0 c1 c2;obtain ⟨c0, c1, c2⟩ := Q5.out.seen;(go_wp2_with fail);refine (qpr B s b q _ Q5.out.rd hbl hs).mono ?_;rintro r w6 ⟨h6, t6, xx, yy, zz, vv, nn, rfl, ⟨va, vn, vc, rfl⟩, hok⟩;have Q6 := qb (Q5.out.turn t6 h6);have HOK := qb hok;have SZ56 := qb t6.size;have OL5 := qb (qcn Q5.out.row.choose_spec.1);clear h6 t6 hok;have RL := qb (fun h => qvr (l := s.data.toList) (b := b) (by rw [qh]; exact hbl) HSL.out h)
      have MP := qb (fun h A x n m W h1 h2 h3 => qsp (l := s.data.toList) (b := b) HSL.out h op f FN.out A x n m W h1 h2 h3);have PG := qb (fun h => qbbm (l := s.data.toList) (sg := (rpD s.data.toList b).1) (qbcp h).2.2.1 (rpD s.data.toList b).2.1);generalize rpD s.data.toList b = D at *;obtain ⟨sg, pr2, e2, r2⟩ := D;dsimp only at *;have n7 := World.alloc_heap_new w6 (.cells #[.string xx, .string yy, .string zz, .slice va vn vc, .int .i64 (nn : Int)] 123);have B7 := qb ((Below.refl _ w6).alloc (Nat.le_refl _) (.cells #[.string xx, .string yy, .string zz, .slice va vn vc, .int .i64 (nn : Int)] 123));have N7 := qb n7;clear n7 c0 c1 c2;have Q7 := qb (Q6.out.below B7.out);have hB6 : B < w6.heap.size := Q6.out.rd.lt;obtain ⟨c0, c1, c2⟩ := Q6.out.seen;obtain ⟨e0, e1, e22⟩ := Q7.out.seen
      by_cases hr2 : r2 = 0
      ·subst hr2;obtain ⟨hx, hy, hz, hn, htx, hfr, hcp⟩ := HOK.out rfl;rw [qbkn] at hx hy hz;subst hx hy hz hn;have he2 := RL.out rfl;rw [qh] at he2;have HPP := qb (PG.out rfl);have MP2 := qb (MP.out rfl);have CF := qb (qsf htx hcp hfr);have HTX := qb (htx.below B7.out);clear htx hfr hcp HOK MP RL PG SBAD;generalize segE s.data.toList sg 0 = ta at *;generalize segE s.data.toList sg 1 = tb at *;generalize segE s.data.toList sg 2 = tc at *;generalize sg.length = nn at *;(go_wp2_with fail);generalize w6.alloc _ = W7 at *;have OL7 := qb (qcn Q7.out.row.choose_spec.1);have L67 : Hid (w6.heap.size < W7.heap.size) := (qcgg.1 N7.out).1;have CF7 : Hid (CapA (fun q => w.heap.size ≤ q ∧ (Value.slice va0 out.length vk0).ownBlock ≠ some q) (.slice va vn vc)) := qzm (fun q hq => ⟨by have := Q5.out.trn.size; have := hq.1; omega, fun e => by have := (OL5.out q e).2; have := hq.1; omega⟩) CF.out
       refine (MP2.out (fun q => w.heap.size ≤ q ∧ (Value.slice va0 out.length vk0).ownBlock ≠ some q) va vn vc W7 (fun q hq => ⟨by have := Q7.out.trn.size; omega, fun e => by have := (OL7.out q e).2; omega⟩) HTX.out CF7.out).mono ?_
       rintro e w8 ⟨b8, v2, x2, rfl, o8, k8⟩;have Q8 := qb (Q7.out.below b8);have O8 := qb o8;have C8 := qb k8;have P8 : Hid (w8.heap[w6.heap.size]? = some (.cells #[.string (qg ta), .string (qg tb), .string (qg tc), .slice va vn vc, .int .i64 (nn : Int)] 123 (0, 0))) := (b8.block _ L67.out).trans N7.out;have TX8 := qb (HTX.out.below b8);have SZ8 := qb b8.size;clear b8 o8 k8 c0 c1 c2 e0 e1 e22 MP2;obtain ⟨c0, c1, c2⟩ := Q8.out.seen;(go_wp2_with fail);refine (qjg B s e2 0 b _ Q8.out.rd he2 hs).mono ?_;rintro r w9 ⟨rfl, h9, t9⟩;rw [show bkA s.data.toList e2 0 = blk s.data.toList e2 from if_pos rfl] at h9;have Q9 := qb (Q8.out.turn t9 h9);have hB7 : B < W7.heap.size := Q7.out.rd.lt;have O9 : Hid (w9.ownsRow W7.heap.size 35 6 v2 (qr f (qcw s.data.toList sg pr2)).length x2) := qgq O8.out (qjd (A := fun q => W7.heap.size ≤ q) t9 (fun q hq => by omega)) (fun g hg => (qcn O8.out g hg).1)
       have KT := qjd (A := fun q => w.heap.size ≤ q ∧ (Value.slice va0 out.length vk0).ownBlock ≠ some q) t9 (fun q hq => by have := hq.1; have := Q8.out.hB; omega)
       have C9 : Hid (qbw (fun q => w.heap.size ≤ q ∧ (Value.slice va0 out.length vk0).ownBlock ≠ some q) w9 (qr f (qcw s.data.toList sg pr2)) x2) := C8.out.keep KT (fun q hq _ => hq);have P9 : Hid (w9.heap[w6.heap.size]? = some (.cells #[.string (qg ta), .string (qg tb), .string (qg tc), .slice va vn vc, .int .i64 (nn : Int)] 123 (0, 0))) := (t9.block _ (Nat.lt_of_lt_of_le L67.out SZ8.out) (by omega)).trans P8.out
       have TX9 := qb (qkg TX8.out CF7.out KT);have CF9 := CF7;clear h9 t9 KT c0 c1 c2 O8 C8 TX8;have he3 := qdh (l := s.data.toList) (a := e2) (by rw [qh]; exact he2)
       rw [qh] at he3;have hge := blk_ge s.data.toList e2;obtain ⟨e3, hb3⟩ : ∃ e3, blk s.data.toList e2 = e3 := ⟨_, rfl⟩;rw [hb3] at he3 hge Q9 SNEXT SFORM;have HB3 := qb hb3;clear hb3;obtain ⟨c0, c1, c2⟩ := Q9.out.seen;have u0 : w9.cell? ⟨w6.heap.size, 0, none⟩ = some (.string (qg ta)) := qd 0 P9.out rfl;have u1 : w9.cell? ⟨w6.heap.size, 1, none⟩ = some (.string (qg tb)) := qd 1 P9.out rfl;have u2 : w9.cell? ⟨w6.heap.size, 2, none⟩ = some (.string (qg tc)) := qd 2 P9.out rfl;have u3 : w9.cell? ⟨w6.heap.size, 3, none⟩ = some (.slice va vn vc) := qd 3 P9.out rfl;have u4 : w9.cell? ⟨w6.heap.size, 4, none⟩ = some (.int .i64 (nn : Int)) := qd 4 P9.out rfl;obtain ⟨v', w11, hrun, hob⟩ := Q9.out.app O9.out C9.out (by have := HS.out.len; have := qjl f (qcw s.data.toList sg pr2); omega)
       obtain ⟨av', kv', hv'⟩ := hob.slice;generalize (out ++ qr f (qcw s.data.toList sg pr2)).length = LL at hv';subst hv';have Q11 := qb hob;clear hob u0 u1 u2 u3 u4 O9 C9;obtain ⟨m0, m1, m2⟩ := Q11.out.seen
       by_cases h32 : e3 = e2
       ·have k1 : ((e3 : Int) == (e2 : Int)) = true := by simp; omega
        have EN3 := Q11.out.ends_any he3;cases hE3 : qcc s.data.toList e3
        ·rw [hE3] at EN3;have EN4 := qb EN3;have HF := qb (SFORM.out (by simp) (by rw [← h32]; exact hE3) h32)
         have HE32 := qb h32;clear EN3 hE3 h32;go_wp2_with (at_builtin; refine qbl rfl _ _ 39 rfl _ _ _ rfl rfl hrun ?_)
         refine EN4.out.mono ?_;rintro r w12 ⟨rfl, n12, rfl⟩;have Q12 := qb (Q11.out.drewN n12);clear c0 c1 c2 EN4 hrun;(go_wp2_with fail);refine (qcr B s e3 0 b 10 _ Q12.out.rd).mono ?_;rintro r w13 ⟨rfl, h13, t13⟩;rw [qbj] at h13;have Q13 := qb (Q12.out.turn t13 h13);clear h13 t13;(go_wp2_with fail);go_roundw
         case rel => exact ⟨n + 1, e3, 10, b, _, out ++ qr f (qcw s.data.toList sg pr2), by omega, he3, rfl, by go_num, Q13, .inr ⟨rfl, out, by rw [HE32.out]; exact HF.out⟩⟩
         case measure => (simp [intOf]; try omega)
        ·rw [hE3] at EN3;have EN4 := qb EN3;have HF := qb (SNEXT.out (by simp) (.inl (by rw [← h32]; exact hE3)) (fun h => absurd h HPL.out))
         clear EN3 hE3 h32;go_wp2_with (at_builtin; refine qbl rfl _ _ 39 rfl _ _ _ rfl rfl hrun ?_)
         refine EN4.out.mono ?_;rintro r w12 ⟨rfl, n12, rfl⟩;have Q12 := qb (Q11.out.drewN n12);clear c0 c1 c2 EN4 hrun;(go_wp2_with fail);go_roundw
         case rel => exact ⟨n + 1, e3, 0, b, _, out ++ qr f (qcw s.data.toList sg pr2), by omega, he3, rfl, by go_num, Q12, .inl ⟨rfl, HF.out⟩⟩
         case measure => (simp [intOf]; try omega)
       ·have k1 : ((e3 : Int) == (e2 : Int)) = false := by simp; omega
        have HF := qb (SNEXT.out (by simp) (.inr h32) (fun h => absurd h HPL.out))
        clear h32;go_wp2_with (at_builtin; refine qbl rfl _ _ 39 rfl _ _ _ rfl rfl hrun ?_)
        go_roundw
        case rel => exact ⟨n + 1, e3, 0, b, _, out ++ qr f (qcw s.data.toList sg pr2), by omega, he3, rfl, by go_num, Q11, .inl ⟨rfl, HF.out⟩⟩
        case measure => (simp [intOf]; try omega)
      ·have HNe := qb hr2;have hb1 : (r2 == 0) = false := by simpa using hr2
       have hb2 : (r2 != 0) = true := by simpa using hr2
       have HBAD := qb (SBAD.out hr2);clear hr2 MP HOK RL SBAD PG;(go_wp2_with fail);go_ret
       exact qrk Q7.out.trn Q7.out.rd HBAD.out HNe.out ⟨_, _, _, rfl⟩
   ·rw [hE] at EN;obtain ⟨z, hz1, hz2, hz3⟩ := HEA.out hE;have HZ2 := qb hz2;have HZ3 := qb hz3;clear HEA hE hz1 hz2 hz3;(go_wp2_with fail);refine EN.out.mono ?_;rintro r w2 ⟨rfl, n2, rfl⟩;have Q3 := qb (Q2.out.drewN n2);generalize wr.drewN n2 = W3 at *;clear c0 c1 c2 EN Q2;(go_wp2_with fail);go_ret
    obtain ⟨xs, hr1, hr2⟩ := Q3.out.row;exact qbzx Q3.out.trn Q3.out.rd HZ3.out HZ2.out hcs ⟨_, _, _, rfl⟩ hr1 hr2
  ·have H10 := qb h10;clear h10 HI Q1;(go_wp2_with fail);go_ret
   exact qrk Q2.out.trn Q2.out.rd H10.out (by decide) ⟨_, _, _, rfl⟩
end Go.Proofs.YtpdlgiioahjhiaaGreat
