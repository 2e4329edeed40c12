/- Walks: the rest of a from-to, as the document reads it. -/
import Derived.Deep.RegionHeld3
import Derived.BigQuiet
import Derived.Deep.QuietTactic
import Derived.Test.YtpdlgiioahjhiaaGreatPMd
import Derived.Test.YtpdlgiioahjhiaaGreatPLs
namespace Go.Proofs.YtpdlgiioahjhiaaGreat
open Go.RowKit Go.Shelf
open _root_.Array renaming getElem?_eq_some_iff → qcgg
set_option linter.unusedVariables false
set_option maxHeartbeats 8000000
set_option maxRecDepth 100000
variable {A : Nat → Prop}
def qbhj (A : Nat → Prop) (s : QY) (d B : Nat) (cs1 : List Comp) (w : World) (r : Ending) (w' : World) : Prop :=
  (∃ q, NrAt w' B s (toD s.data.toList d).2 (toD s.data.toList d).1 q) ∧ Turn B w w' ∧ ∃ v, r = .returned v ∧ (∃ b n c, v = .slice b n c) ∧
    ((toD s.data.toList d).1 = 0 → ∃ xs, w'.ownsRow w.heap.size 35 6 v (cs1 ++ qr 87 (toPD s.data.toList d)).length xs ∧ qbw (fun b => A b ∧ v.ownBlock ≠ some b) w' (cs1 ++ qr 87 (toPD s.data.toList d)) xs)
structure FB (w W : World) (B : Nat) (s : QY) (b : Nat) (e p : Int) (x y z v : Value) (N : Int) : Prop where
 rd : NrAt W B s b e p
 par : W.heap[w.heap.size]? = some (.cells #[x, y, z, v, .int .i64 N] 123 (0, 0))
 trn : Turn B w W
 hB : B < w.heap.size
section
variable {w W W' : World} {B b b' : Nat} {s : ByteArray} {e e' p p' : Int} {x y z v : Value} {N : Int}
theorem FB.lt (h : FB w W B s b e p x y z v N) : w.heap.size < W.heap.size := (qcgg.1 h.par).1
theorem FB.turn (h : FB w W B s b e p x y z v N) (t : Turn B W W') (r : NrAt W' B s b' e' p') : FB w W' B s b' e' p' x y z v N :=
 ⟨r, (t.block _ h.lt (by have := h.hB; omega)).trans h.par, h.trn.trans t, h.hB⟩
theorem FB.below (h : FB w W B s b e p x y z v N) (t : Below W.heap.size W W') : FB w W' B s b e p x y z v N := h.turn (Turn.ofBelow t) (h.rd.below t)
theorem FB.drewN (h : FB w W B s b e p x y z v N) (k : Nat) : FB w (W.drewN k) B s b e p x y z v N := h.turn (Turn.drewN B W k) (h.rd.drewN k)
theorem FB.seen (h : FB w W B s b e p x y z v N) :
  (W.cell? ⟨B, 0, none⟩ = some (.string s) ∧ W.cell? ⟨B, 1, none⟩ = some (.int .i64 (b : Int)) ∧ W.cell? ⟨B, 2, none⟩ = some (.int .i64 e)) ∧
  W.cell? ⟨w.heap.size, 0, none⟩ = some x ∧ W.cell? ⟨w.heap.size, 1, none⟩ = some y ∧ W.cell? ⟨w.heap.size, 2, none⟩ = some z ∧ W.cell? ⟨w.heap.size, 3, none⟩ = some v ∧ W.cell? ⟨w.heap.size, 4, none⟩ = some (.int .i64 N) :=
 ⟨⟨h.rd.seen.1, h.rd.seen.2.1, h.rd.seen.2.2.1⟩, qd 0 h.par rfl, qd 1 h.par rfl, qd 2 h.par rfl, qd 3 h.par rfl, qd 4 h.par rfl⟩
theorem FB.start (h : NrAt w B s b 0 p) (x y z v : Value) (N : Int) : FB w ((w.setCell ⟨B, 1, none⟩ (.int .i64 ((b : Int) + 1))).alloc (.cells #[x, y, z, v, .int .i64 N] 123)) B s (b + 1) 0 p x y z v N := by
 have h1 := h.step;have t1 := Turn.set B 1 w (.int .i64 ((b : Int) + 1));have hsz : (w.setCell ⟨B, 1, none⟩ (.int .i64 ((b : Int) + 1))).heap.size = w.heap.size := Array.size_modify;generalize w.setCell ⟨B, 1, none⟩ (.int .i64 ((b : Int) + 1)) = w1 at *;refine ⟨h1.alloc _, ?_, t1.alloc _, h.lt⟩;rw [← hsz];exact World.alloc_heap_new w1 _
end
theorem qbsn {s : QY} {a : Nat} (h : a ≤ s.size) : (decide (s.size ≤ a) || atB s.data.toList a 124) = qcc s.data.toList a := by
 unfold qcc atB;rw [qh]
 congr 1
 ·by_cases h1 : a = s.size
  ·rw [decide_eq_true h1, decide_eq_true (by omega)]
  ·rw [decide_eq_false h1, decide_eq_false (by omega)]
 ·by_cases h1 : s.data.toList[a]? = some 124
  ·rw [decide_eq_true h1, h1]; rfl
  ·rw [decide_eq_false h1];simpa using h1
theorem mean_85 (a b c : QB) (pr : List QB) (N : Nat) (hN : N ≠ 0) : qr 85 (pD a b c pr N) = [(4, (⟨zN a, zN b, zN c, pr, []⟩ : SemL))] := by
 show qns (pD a b c pr N) = _;unfold qns;rw [if_neg (show ¬ (pD a b c pr N).told = 0 from hN)]
 rfl
theorem qbvd (a b c : QB) (pr : List QB) (x : Option Addr) (n m N : Nat) (w : World) (ht : Txt w (.slice x n m) pr) (hc : CapA A (.slice x n m)) :
  Calls Tryz.prog 98 #[.string (qg [62, 61]), .agg #[.string (qg a), .string (qg b), .string (qg c), .slice x n m, .int .i64 (N : Int)]] w (qbwq A w (qr 85 (pD a b c pr N))) := by
 by_cases h : N = 0
 ·subst h;exact meansF_0 a b c pr x n m w ht hc
 ·rw [mean_85 a b c pr N h];exact meansF_n a b c pr x n m N h w ht hc
theorem qbcb {l : QB} (hl : l.length ≤ 256) (sg : List (Nat × Nat)) (i : Nat) : (segE l sg i).length ≤ 1024 := by
 unfold segE;split
 ·rename_i x _;have : (seg l x.1 x.2).length ≤ l.length := by unfold seg; simp; omega
  omega
 ·simp
theorem qsp {l : QB} {b : Nat} (hl : l.length ≤ 256) (h : (rpD l b).2.2.2 = 0) (op : QB) (f : Nat) (hop : opFn op f) (A : Nat → Prop) (x : Option Addr) (n m : Nat) (w : World) (hA : ∀ b, w.heap.size ≤ b → A b) (ht : Txt w (.slice x n m) (rpD l b).2.1) (hc : CapA A (.slice x n m)) :
  Calls Tryz.prog 98 #[.string (qg op), .agg #[.string (qg (segE l (rpD l b).1 0)), .string (qg (segE l (rpD l b).1 1)), .string (qg (segE l (rpD l b).1 2)), .slice x n m, .int .i64 ((rpD l b).1.length : Int)]] w (qbd A w (qr f (qcw l (rpD l b).1 (rpD l b).2.1))) := by
 obtain ⟨g1, g2, g3, _⟩ := qbcp h;rw [qbbm g3] at g1 ⊢;exact qbwc op f hop _ _ _ _ x n m _ g2 w hA ht hc (qbcb hl _ _) (qbcb hl _ _) (qbcb hl _ _) (fun h => (qwq g3 0).2 (by omega)) (fun h => (qwq g3 1).2 (by omega)) (fun h => (qwq g3 2).2 (by omega)) g1
theorem qzm {A A' : Nat → Prop} {v : Value} (h : ∀ q, A q → A' q) (hc : CapA A v) : CapA A' v := ⟨hc.1, fun p n c e => (hc.2 p n c e).imp id (h _)⟩
theorem qbrt (B : Nat) (s : QY) (a : Nat) (e p : Int) (he : e ≠ 0) (w : World) (h : NrAt w B s a e p) :
  Calls Tryz.prog 93 #[.pointer (some ⟨B, 0, none⟩)] w fun r w' => r = .returned (.tuple #[]) ∧ NrAt w' B s a e p ∧ Turn B w w' := by
 obtain ⟨c0, c1, c2, c3, f1, f2, f3⟩ := h.seen;have H := qb h;have hb : (e == 0) = false := by simpa using he
 clear h he;go_enter Tryz.func93, Tryz.ntmps93
 (go_wp2_with fail);go_loopw [30] (fun _ wr => Hid (NrAt wr B s a e p) ∧ Hid (Turn B w wr)) (fun _ wr => 0)
 case atStart => exact ⟨H, Turn.refl _ _⟩
 case round =>
  obtain ⟨HRd, HTu⟩ := hrel;clear c0 c1 c2 c3 f1 f2 f3;obtain ⟨c0, c1, c2, c3, f1, f2, f3⟩ := HRd.out.seen;(go_wp2_with fail);go_quiet (fail)
  (go_wp2_with fail);go_end0
  exact ⟨rfl, HRd.out.drewN _, HTu.out.trans (Turn.drewN _ _ _)⟩
theorem qbth (B : Nat) (s : QY) (d : Nat) (q : Int) (a b c : QB) (pr : List QB) (x : Option Addr) (n m N : Nat) (w : World) (h : NrAt w B s d 0 q) (hd : d < s.size) (hs : s.size ≤ 256)
  (hA : ∀ b, w.heap.size ≤ b → A b) (hAB : ∀ b, A b → b ≠ B) (ht : Txt w (.slice x n m) pr) (hc : CapA A (.slice x n m)) :
  Calls Tryz.prog 99 #[.pointer (some ⟨B, 0, none⟩), .agg #[.string (qg a), .string (qg b), .string (qg c), .slice x n m, .int .i64 (N : Int)]] w (qbhj A s d B (qr 85 (pD a b c pr N)) w) := by
 obtain ⟨c0, c1, c2, c3, f1, f2, f3⟩ := h.seen;have hBs := h.lt;have Q1 := qb (FB.start h (.string (qg a)) (.string (qg b)) (.string (qg c)) (.slice x n m) (N : Int));have HA := qb hA;have HAB := qb hAB;have T0 := qb ht;have C0 := qb hc;have MA := qb (fun (W : World) (ht : Txt W (.slice x n m) pr) => qbvd (A := A) a b c pr x n m N W ht hc);clear h hA hAB ht hc;have HCS1 := qb (qjl 85 (pD a b c pr N));generalize qr 85 (pD a b c pr N) = cs1 at *;go_enter Tryz.func99, Tryz.ntmps99
 (go_wp2_with fail);generalize (w.setCell ⟨B, 1, none⟩ (.int .i64 ((d : Int) + 1))).alloc _ = W1 at *;clear c0 c1 c2 c3 f1 f2 f3;have HTD : Hid (toD s.data.toList d = toD s.data.toList d) := rfl;obtain ⟨k, hk⟩ : ∃ k, d + 1 = k := ⟨_, rfl⟩;rw [hk] at Q1;have hkl : k ≤ s.size := by omega
 have HK := qb hk;clear hk;obtain ⟨⟨c0, c1, c2⟩, d0, d1, d2, d3, d4⟩ := Q1.out.seen
 by_cases hl : k < s.size
 ·have e1 : decide ((s.size : Int) ≤ (k : Int)) = false := decide_eq_false (by omega)
  have e2 : decide (s.size ≤ k) = false := decide_eq_false (by omega)
  have HC := qb (fun n => qbbq s[k] (W1.drewN n));cases hb : isC (s[k].toNat : Int) 6
  ·rw [hb] at HC;have HBL : Hid (blk s.data.toList k = k) := by show _ = _; unfold blk; rw [qhl 6 s k hl hb]; rfl
   have HT : Hid (toD s.data.toList d = (misL s.size k, k)) := by
    show _ = _;unfold toD;rw [HK.out, if_pos HBL.out, qh]
   clear hb;(go_wp2_with fail);go_quiet ((go_at_call 125; exact Calls.quiet_of_same (HC.out _)))
   have Q2 := qb (Q1.out.drewN nq);clear c0 c1 c2 d0 d1 d2 d3 d4;generalize W1.drewN nq = W2 at *;obtain ⟨⟨c0, c1, c2⟩, d0, d1, d2, d3, d4⟩ := Q2.out.seen;(go_wp2_with fail);refine (qgb B s k 0 q _ Q2.out.rd hkl).mono ?_;rintro r w5 ⟨rfl, h5, t5⟩;rw [qbj] at h5;have H5 := qb h5;have T5 := qb (Q2.out.trn.trans t5);clear h5 t5;(go_wp2_with fail);go_ret
   unfold qbhj;rw [HT.out];exact ⟨⟨_, H5.out⟩, T5.out, _, rfl, ⟨_, _, _, rfl⟩, fun h => absurd h (qch _ _)⟩
  ·rw [hb] at HC;have HBL : Hid (blk s.data.toList k ≠ k) := by show _ ≠ _; unfold blk; rw [qjm 6 s k hl hb]; omega
   clear hb;(go_wp2_with fail);go_quiet ((go_at_call 125; exact Calls.quiet_of_same (HC.out _)))
   have Q2 := qb (Q1.out.drewN nq);clear c0 c1 c2 d0 d1 d2 d3 d4 HC e1 e2;generalize W1.drewN nq = W2 at *;clear Q1;(go_wp2_with fail);refine (qjg B s k 0 q _ Q2.out.rd hkl hs).mono ?_;rintro r w3 ⟨rfl, h3, t3⟩;rw [show bkA s.data.toList k 0 = blk s.data.toList k from if_pos rfl] at h3;have Q3 := qb (Q2.out.turn t3 h3);clear h3 t3 Q2;have hbl := qdh (l := s.data.toList) (a := k) (by rw [qh]; exact hkl)
   rw [qh] at hbl;obtain ⟨b3, hb3⟩ : ∃ b3, blk s.data.toList k = b3 := ⟨_, rfl⟩;rw [hb3] at Q3 hbl;have HB3 := qb hb3;clear hb3;(go_wp2_with fail);refine (qpr B s b3 q _ Q3.out.rd hbl hs).mono ?_;rintro r w4 ⟨h4, t4, xx, yy, zz, vv, nn, rfl, ⟨va, vn, vc, rfl⟩, hok⟩;have Q4 := qb (Q3.out.turn t4 h4);have HOK := qb hok;have W34 : Hid (w.heap.size ≤ w3.heap.size) := Q3.out.trn.size;clear h4 t4 hok;have BD : Hid (toD s.data.toList d = if (rpD s.data.toList b3).2.2.2 ≠ 0 then ((rpD s.data.toList b3).2.2.2, (rpD s.data.toList b3).2.2.1) else if qcc s.data.toList (blk s.data.toList (rpD s.data.toList b3).2.2.1) = false then (10, blk s.data.toList (rpD s.data.toList b3).2.2.1) else (0, blk s.data.toList (rpD s.data.toList b3).2.2.1)) := by
    show _ = _;unfold toD;rw [HK.out, if_neg HBL.out, HB3.out]
   have PD : Hid (toPD s.data.toList d = qcw s.data.toList (rpD s.data.toList b3).1 (rpD s.data.toList b3).2.1) := by
    show _ = _;unfold toPD;rw [HK.out, HB3.out]
   have RL := qb (fun h => qvr (l := s.data.toList) (b := b3) (by rw [qh]; exact hbl) (by rw [qh]; exact hs) h)
   have MP := qb (fun h A x n m W h1 h2 h3 => qsp (l := s.data.toList) (b := b3) (by rw [qh]; exact hs) h [60, 61] 87 (by unfold opFn; simp) A x n m W h1 h2 h3)
   generalize rpD s.data.toList b3 = D at *;obtain ⟨sg, pr2, e2, r2⟩ := D;dsimp only at *;have n5 := World.alloc_heap_new w4 (.cells #[.string xx, .string yy, .string zz, .slice va vn vc, .int .i64 (nn : Int)] 123);have B5 := qb ((Below.refl _ w4).alloc (Nat.le_refl _) (.cells #[.string xx, .string yy, .string zz, .slice va vn vc, .int .i64 (nn : Int)] 123));have N5 := qb n5;clear n5;clear Q3
   by_cases hr2 : r2 = 0
   ·subst hr2;obtain ⟨hx, hy, hz, hn, htx, hfr, hcp⟩ := HOK.out rfl;rw [qbkn] at hx hy hz;subst hx hy hz hn;have he2 := RL.out rfl;rw [qh] at he2;have MP2 := qb (MP.out rfl);have BD2 : Hid (toD s.data.toList d = if qcc s.data.toList (blk s.data.toList e2) = false then (10, blk s.data.toList e2) else (0, blk s.data.toList e2)) := BD.out;have HTX := qb htx;have HCF := qb (qsf htx hcp hfr);clear htx hfr hcp HOK MP BD RL;generalize segE s.data.toList sg 0 = ta at *;generalize segE s.data.toList sg 1 = tb at *;generalize segE s.data.toList sg 2 = tc at *;generalize sg.length = nn at *;(go_wp2_with fail);generalize w4.alloc _ = W5 at *;have Q5 := qb (Q4.out.below B5.out);refine (qjg B s e2 0 b3 _ Q5.out.rd he2 hs).mono ?_;rintro r w6 ⟨rfl, h6, t6⟩;rw [show bkA s.data.toList e2 0 = blk s.data.toList e2 from if_pos rfl] at h6;have Q6 := qb (Q5.out.turn t6 h6);have LT5 : Hid (w4.heap.size < W5.heap.size) := (qcgg.1 N5.out).1;have HBQ : Hid (w4.heap.size ≠ B) := by show _ ≠ _; have := Q4.out.rd.lt; omega
    have N6 : Hid (w6.heap[w4.heap.size]? = some (.cells #[.string (qg ta), .string (qg tb), .string (qg tc), .slice va vn vc, .int .i64 (nn : Int)] 123 (0, 0))) := (t6.block _ LT5.out HBQ.out).trans N5.out;have TX6 := qb (qkg (A := fun b => w3.heap.size ≤ b ∧ b < w4.heap.size) HTX.out HCF.out (qjd ((Turn.ofBelow B5.out).trans t6) (fun b hb => by have := Q5.out.hB; have := hb.1; have := W34.out; omega)))
    clear h6 t6 Q5;have hble := qdh (l := s.data.toList) (a := e2) (by rw [qh]; exact he2)
    rw [qh] at hble;generalize blk s.data.toList e2 = g2 at *;obtain ⟨⟨c0, c1, c2⟩, d0, d1, d2, d3, d4⟩ := Q6.out.seen;have EN := qbjt B s g2 0 b3 _ Q6.out.rd;rw [qbsn hble] at EN;cases hE : qcc s.data.toList g2
    ·rw [hE] at EN BD2;have HT : Hid (toD s.data.toList d = (10, g2)) := BD2.out.trans (if_pos rfl);clear hE BD2;have EN2 := qb EN;clear EN;(go_wp2_with fail);refine EN2.out.mono ?_;rintro r w7 ⟨rfl, n7, rfl⟩;have Q7 := qb (Q6.out.drewN n7);clear c0 c1 c2 d0 d1 d2 d3 d4 EN2;(go_wp2_with fail);refine (qcr B s g2 0 b3 10 _ Q7.out.rd).mono ?_;rintro r w8 ⟨rfl, h8, t8⟩;rw [qbj] at h8;have Q8 := qb (Q7.out.turn t8 h8);clear h8 t8;obtain ⟨⟨c0, c1, c2⟩, d0, d1, d2, d3, d4⟩ := Q8.out.seen;(go_wp2_with fail);go_ret
     unfold qbhj;rw [HT.out];exact ⟨⟨_, Q8.out.rd⟩, Q8.out.trn, _, rfl, ⟨_, _, _, rfl⟩, fun h => by simp at h⟩
    ·rw [hE] at EN BD2;have HT : Hid (toD s.data.toList d = (0, g2)) := BD2.out.trans (if_neg (by simp))
     clear hE BD2;have EN2 := qb EN;clear EN;(go_wp2_with fail);refine EN2.out.mono ?_;rintro r w7 ⟨rfl, n7, rfl⟩;have Q7 := qb (Q6.out.drewN n7);have N7 : Hid ((w6.drewN n7).heap[w4.heap.size]? = some (.cells #[.string (qg ta), .string (qg tb), .string (qg tc), .slice va vn vc, .int .i64 (nn : Int)] 123 (0, 0))) := by
      show _ = _;rw [qjs]; exact N6.out
     have TX7 := qb (TX6.out.below (qbm _ _ n7));clear c0 c1 c2 d0 d1 d2 d3 d4 EN2 N6 TX6 N5;generalize w6.drewN n7 = W7 at *;obtain ⟨⟨c0, c1, c2⟩, d0, d1, d2, d3, d4⟩ := Q7.out.seen;have QD := qb (Q7.out.below (qbh _ W7));have ND : Hid (W7.drew.heap[w4.heap.size]? = some (.cells #[.string (qg ta), .string (qg tb), .string (qg tc), .slice va vn vc, .int .i64 (nn : Int)] 123 (0, 0))) := qll N7.out;have TXD := qb (TX7.out.below (qbh W7.heap.size W7));have L47 : Hid (w4.heap.size < W7.heap.size) := (qcgg.1 N7.out).1;generalize w4.heap.size = Qb at *;(go_wp2_with fail);have LTD : Hid (Qb < W7.drew.heap.size) := (qcgg.1 ND.out).1;have LCS : Hid (cs1.length ≤ 2) := HCS1.out;have SZ9 : Hid (∀ {W : World}, Below W7.drew.heap.size W7.drew W → w.heap.size ≤ W.heap.size) := fun h => Nat.le_trans QD.out.trn.size h.size
     have CF9 : Hid (∀ {W : World} {v : Value} {xs : List Value}, Below W7.drew.heap.size W7.drew W → W.ownsRow W7.drew.heap.size 35 6 v cs1.length xs → CapA (fun q => A q ∧ q < W.heap.size ∧ v.ownBlock ≠ some q ∨ W.heap.size ≤ q) (.slice va vn vc)) := fun hb ho => qvw TXD.out (qzm (fun q h => ⟨HA.out q (by have := h.1; have := W34.out; omega), by have := h.2; have := L47.out; omega⟩ : ∀ q, w3.heap.size ≤ q ∧ q < Qb → A q ∧ q < W7.heap.size) HCF.out) (fun q h1 _ => .inl ⟨h1.1, by have := h1.2; have := hb.size; have : W7.drew.heap.size = W7.heap.size := rfl; omega, fun e => by have := (qcn ho q e).1; have := h1.2; have : W7.drew.heap.size = W7.heap.size := rfl; omega⟩)
     have y0 : W7.cell? ⟨Qb, 0, none⟩ = some (.string (qg ta)) := qd 0 N7.out rfl;have y1 : W7.cell? ⟨Qb, 1, none⟩ = some (.string (qg tb)) := qd 1 N7.out rfl;have y2 : W7.cell? ⟨Qb, 2, none⟩ = some (.string (qg tc)) := qd 2 N7.out rfl;have y3 : W7.cell? ⟨Qb, 3, none⟩ = some (.slice va vn vc) := qd 3 N7.out rfl;have y4 : W7.cell? ⟨Qb, 4, none⟩ = some (.int .i64 (nn : Int)) := qd 4 N7.out rfl;go_region_held3 (fun W' => W'.cell? ⟨w.heap.size, 0, none⟩ = some (.string (qg a)) ∧ W'.cell? ⟨w.heap.size, 1, none⟩ = some (.string (qg b)) ∧ W'.cell? ⟨w.heap.size, 2, none⟩ = some (.string (qg c)) ∧ W'.cell? ⟨w.heap.size, 3, none⟩ = some (.slice x n m) ∧ W'.cell? ⟨w.heap.size, 4, none⟩ = some (.int .i64 (N : Int)) ∧ W'.cell? ⟨Qb, 0, none⟩ = some (.string (qg ta)) ∧ W'.cell? ⟨Qb, 1, none⟩ = some (.string (qg tb)) ∧ W'.cell? ⟨Qb, 2, none⟩ = some (.string (qg tc)) ∧ W'.cell? ⟨Qb, 3, none⟩ = some (.slice va vn vc) ∧ W'.cell? ⟨Qb, 4, none⟩ = some (.int .i64 (nn : Int))) (go_keep) ((first
      | (
       refine qxt (by rfl) _ _ 39 (by rfl) v1 v2 v' (by rfl) (by rfl) RUN ?_
       have u0 : w11.cell? ⟨w.heap.size, 0, none⟩ = some (.string (qg a)) := qd 0 P11.out rfl;have u1 : w11.cell? ⟨w.heap.size, 1, none⟩ = some (.string (qg b)) := qd 1 P11.out rfl;have u2 : w11.cell? ⟨w.heap.size, 2, none⟩ = some (.string (qg c)) := qd 2 P11.out rfl;have u3 : w11.cell? ⟨w.heap.size, 3, none⟩ = some (.slice x n m) := qd 3 P11.out rfl;have u4 : w11.cell? ⟨w.heap.size, 4, none⟩ = some (.int .i64 (N : Int)) := qd 4 P11.out rfl;have y0 : w11.cell? ⟨Qb, 0, none⟩ = some (.string (qg ta)) := qd 0 R11.out rfl;have y1 : w11.cell? ⟨Qb, 1, none⟩ = some (.string (qg tb)) := qd 1 R11.out rfl;have y2 : w11.cell? ⟨Qb, 2, none⟩ = some (.string (qg tc)) := qd 2 R11.out rfl;have y3 : w11.cell? ⟨Qb, 3, none⟩ = some (.slice va vn vc) := qd 3 R11.out rfl;have y4 : w11.cell? ⟨Qb, 4, none⟩ = some (.int .i64 (nn : Int)) := qd 4 R11.out rfl
       skip)
      | (
       go_at_call 98
       have G2 := qb (MP2.out (fun q => A q ∧ q < w9.heap.size ∧ v1.ownBlock ≠ some q ∨ w9.heap.size ≤ q) va vn vc w9 (fun q hq => .inr hq) TX9.out (CF9.out B9.out O1.out));refine G2.out.mono ?_;rintro e w10 ⟨b10, v2, x2, rfl, ho2, hc2⟩;have OWN := qcn O1.out;have K10 := qfh (A := fun _ => True) b10;have o1 := qgq O1.out K10 (fun _ _ => trivial);have AC := qbw.keep (A' := fun q => A q ∧ v1.ownBlock ≠ some q) (qfh b10) (fun q hq _ => ⟨hq.1, fun e => by have := (OWN q e).1; have := hq.2; omega⟩) C1.out
       have AD := qbw.keep (A' := fun q => A q ∧ v1.ownBlock ≠ some q) (A := fun q => A q ∧ q < w9.heap.size ∧ v1.ownBlock ≠ some q ∨ w9.heap.size ≤ q) ⟨Nat.le_refl _, fun _ _ _ _ _ h => h⟩ (fun q hq _ => hq.elim (fun h => ⟨h.1, h.2.2⟩) (fun h => ⟨HA.out q (by have := SZ9.out B9.out; omega), fun e => by have := (OWN q e).2; omega⟩)) hc2
       have hl9 : cs1.length + (qr 87 (qcw s.data.toList sg pr2)).length ≤ 1048576 := by have := LCS.out; have := qjl 87 (qcw s.data.toList sg pr2); omega
       obtain ⟨v', w11, hrun, hown, hcs, hg, hp⟩ := app_R o1 AC ho2 AD (by have := b10.size; have := B9.out.size; omega) hl9
       have RUN := hrun;have OWN11 := qb hown;have CS11 := qb hcs;have G11 := qb hg;have HP11 := qb hp;have B10 := qb b10;have OLT := qb (qcn o1);have LO := qb OWN;have P10 : w10.heap[w.heap.size]? = some (.cells #[.string (qg a), .string (qg b), .string (qg c), .slice x n m, .int .i64 (N : Int)] 123 (0, 0)) := (b10.block _ (qcgg.1 P9.out).1).trans P9.out;have R10 : w10.heap[Qb]? = some (.cells #[.string (qg ta), .string (qg tb), .string (qg tc), .slice va vn vc, .int .i64 (nn : Int)] 123 (0, 0)) := (b10.block _ (qcgg.1 R9.out).1).trans R9.out;have P11 : Hid (w11.heap[w.heap.size]? = some (.cells #[.string (qg a), .string (qg b), .string (qg c), .slice x n m, .int .i64 (N : Int)] 123 (0, 0))) := (hg.block _ (qcgg.1 P10).1 (fun e => by have := (OWN _ e.symm).1; have := QD.out.lt; omega)).trans P10
       have R11 : Hid (w11.heap[Qb]? = some (.cells #[.string (qg ta), .string (qg tb), .string (qg tc), .slice va vn vc, .int .i64 (nn : Int)] 123 (0, 0))) := (hg.block _ (qcgg.1 R10).1 (fun e => by have := (OWN _ e.symm).1; have := LTD.out; omega)).trans R10
       obtain ⟨av', kv', hv'⟩ : ∃ a k, v' = .slice a (cs1 ++ qr 87 (qcw s.data.toList sg pr2)).length k := (qdd hown).imp fun _ h => h.imp fun _ h => h.1;have HV' := qb hv';have u0 : w10.cell? ⟨w.heap.size, 0, none⟩ = some (.string (qg a)) := qd 0 P10 rfl;have u1 : w10.cell? ⟨w.heap.size, 1, none⟩ = some (.string (qg b)) := qd 1 P10 rfl;have u2 : w10.cell? ⟨w.heap.size, 2, none⟩ = some (.string (qg c)) := qd 2 P10 rfl;have u3 : w10.cell? ⟨w.heap.size, 3, none⟩ = some (.slice x n m) := qd 3 P10 rfl;have u4 : w10.cell? ⟨w.heap.size, 4, none⟩ = some (.int .i64 (N : Int)) := qd 4 P10 rfl;have y0 : w10.cell? ⟨Qb, 0, none⟩ = some (.string (qg ta)) := qd 0 R10 rfl;have y1 : w10.cell? ⟨Qb, 1, none⟩ = some (.string (qg tb)) := qd 1 R10 rfl;have y2 : w10.cell? ⟨Qb, 2, none⟩ = some (.string (qg tc)) := qd 2 R10 rfl;have y3 : w10.cell? ⟨Qb, 3, none⟩ = some (.slice va vn vc) := qd 3 R10 rfl;have y4 : w10.cell? ⟨Qb, 4, none⟩ = some (.int .i64 (nn : Int)) := qd 4 R10 rfl;clear b10 ho2 hc2 OWN K10 o1 AC AD hl9 hrun hown hcs hg hp P10 R10 hv' G2)
      | (
       go_at_call 98
       refine (MA.out _ (qkg T0.out C0.out (qjd QD.out.trn HAB.out))).mono ?_;rintro e w9 ⟨b9, v1, x1, rfl, ho1, hc1, ⟨vb, vm, vk, hv1⟩⟩;have B9 := qb b9;have P9 : Hid (w9.heap[w.heap.size]? = some (.cells #[.string (qg a), .string (qg b), .string (qg c), .slice x n m, .int .i64 (N : Int)] 123 (0, 0))) := (b9.block _ QD.out.lt).trans QD.out.par;have R9 : Hid (w9.heap[Qb]? = some (.cells #[.string (qg ta), .string (qg tb), .string (qg tc), .slice va vn vc, .int .i64 (nn : Int)] 123 (0, 0))) := (b9.block _ LTD.out).trans ND.out;have O1 := qb ho1;have C1 := qb hc1;have V1 := qb hv1;have TX9 := qb (TXD.out.below b9);have u0 : w9.cell? ⟨w.heap.size, 0, none⟩ = some (.string (qg a)) := qd 0 P9.out rfl;have u1 : w9.cell? ⟨w.heap.size, 1, none⟩ = some (.string (qg b)) := qd 1 P9.out rfl;have u2 : w9.cell? ⟨w.heap.size, 2, none⟩ = some (.string (qg c)) := qd 2 P9.out rfl;have u3 : w9.cell? ⟨w.heap.size, 3, none⟩ = some (.slice x n m) := qd 3 P9.out rfl;have u4 : w9.cell? ⟨w.heap.size, 4, none⟩ = some (.int .i64 (N : Int)) := qd 4 P9.out rfl;have y0 : w9.cell? ⟨Qb, 0, none⟩ = some (.string (qg ta)) := qd 0 R9.out rfl;have y1 : w9.cell? ⟨Qb, 1, none⟩ = some (.string (qg tb)) := qd 1 R9.out rfl;have y2 : w9.cell? ⟨Qb, 2, none⟩ = some (.string (qg tc)) := qd 2 R9.out rfl;have y3 : w9.cell? ⟨Qb, 3, none⟩ = some (.slice va vn vc) := qd 3 R9.out rfl
       have y4 : w9.cell? ⟨Qb, 4, none⟩ = some (.int .i64 (nn : Int)) := qd 4 R9.out rfl;clear b9 ho1 hc1 hv1)
      | fail))
     try dsimp only
     (go_wp2_with fail);go_ret
     unfold qbhj;rw [HT.out, PD.out];have Q9 := QD.out.below B9.out;have Q10 := Q9.below B10.out;have hgb : ∀ k, k < w10.heap.size → k < W7.drew.heap.size → w11.heap[k]? = w10.heap[k]? := fun k h1 h2 => G11.out.block k h1 (fun e => by have := (LO.out k e.symm).1; omega)
     have hBw : B < W7.drew.heap.size := QD.out.rd.lt;have t11 : Turn B w w11 := ⟨G11.out.os.trans Q10.trn.os, G11.out.tape.trans Q10.trn.tape, G11.out.output.trans Q10.trn.output, Nat.le_trans Q10.trn.size G11.out.size, fun k h1 h2 => (hgb k (Nat.lt_of_lt_of_le h1 Q10.trn.size) (Nat.lt_of_lt_of_le h1 QD.out.trn.size)).trans (Q10.trn.block k h1 h2)⟩;refine ⟨⟨_, (hgb B Q10.rd.lt hBw).trans Q10.rd⟩, t11, _, rfl, ⟨_, _, _, HV'.out⟩, fun _ => ?_⟩;refine ⟨_, qqq OWN11.out QD.out.trn.size, qbw.keep (A := fun q => A q ∧ v1.ownBlock ≠ some q) ⟨G11.out.size, fun q cs t mm hq hh => (G11.out.block q (qcgg.1 hh).1 hq.2.symm).trans hh⟩ (fun q hq hlt => ⟨hq.1, ?_⟩) CS11.out⟩;show v'.ownBlock ≠ some q;rcases HP11.out with hp | hp
     ·rw [hp]; exact hq.2
     ·rw [hp]; intro e; simp only [Option.some.injEq] at e; omega
   ·have HNe := qb hr2;have hb1 : (r2 == 0) = false := by simpa using hr2
    have hb2 : (r2 != 0) = true := by simpa using hr2
    have HT : Hid (toD s.data.toList d = (r2, e2)) := BD.out.trans (if_pos hr2);clear hr2 BD MP HOK RL;(go_wp2_with fail);generalize w4.alloc _ = W5 at *;have Q5 := qb (Q4.out.below B5.out);refine (qbrt B s e2 r2 b3 HNe.out _ Q5.out.rd).mono ?_;rintro r w6 ⟨rfl, h6, t6⟩;have Q6 := qb (Q5.out.turn t6 h6);clear h6 t6;obtain ⟨⟨c0, c1, c2⟩, d0, d1, d2, d3, d4⟩ := Q6.out.seen;(go_wp2_with fail);go_ret
    unfold qbhj;rw [HT.out];exact ⟨⟨_, Q6.out.rd⟩, Q6.out.trn, _, rfl, ⟨_, _, _, rfl⟩, fun h => absurd h HNe.out⟩
 ·have e1 : decide ((s.size : Int) ≤ (k : Int)) = true := decide_eq_true (by omega)
  have e2 : decide (s.size ≤ k) = true := decide_eq_true (by omega)
  have HBL : Hid (blk s.data.toList k = k) := blk_out (by rw [qh]; omega)
  have HT : Hid (toD s.data.toList d = (misL s.size k, k)) := by
   show _ = _;unfold toD;rw [HK.out, if_pos HBL.out, qh]
  (go_wp2_with fail);go_quiet (fail)
  have Q2 := qb (Q1.out.drewN nq);clear c0 c1 c2 d0 d1 d2 d3 d4;generalize W1.drewN nq = W2 at *;obtain ⟨⟨c0, c1, c2⟩, d0, d1, d2, d3, d4⟩ := Q2.out.seen;(go_wp2_with fail);refine (qgb B s k 0 q _ Q2.out.rd hkl).mono ?_;rintro r w5 ⟨rfl, h5, t5⟩;rw [qbj] at h5;have H5 := qb h5;have T5 := qb (Q2.out.trn.trans t5);clear h5 t5;(go_wp2_with fail);go_ret
  unfold qbhj;rw [HT.out];exact ⟨⟨_, H5.out⟩, T5.out, _, rfl, ⟨_, _, _, rfl⟩, fun h => absurd h (qch _ _)⟩
end Go.Proofs.YtpdlgiioahjhiaaGreat
