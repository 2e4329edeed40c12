/- Walks: Parse. -/
import Derived.Test.YtpdlgiioahjhiaaGreatPSd
namespace Go.Proofs.YtpdlgiioahjhiaaGreat
open Go.RowKit Go.Shelf
open AllReadyIn renaming cons → qcgh, nil → qcgk
open Exit renaming noGoto_ret → qcdz
open List renaming mem_cons → qcgw, mem_cons_of_mem → qcgq, mem_cons_self → qchd, not_mem_nil → qchc
open World renaming ownsRow_nil → qchg, size_alloc → qcgp
open Go renaming World → QW
set_option linter.unusedVariables false
set_option maxHeartbeats 4000000
set_option maxRecDepth 100000
attribute [local go_sem] Oper.semAt_some
theorem Parse_in (s : QY) (w : QW) (hs : s.size ≤ 64) :
  CallsIn Fence.wide 5 Tryz.prog 39 #[.string s] w (qtn s w) := by
 have hnot : ¬ ((64 : Int) < (s.size : Int)) := by omega
 obtain ⟨i0, hi, hz0, hz1, hz2⟩ := info_parts Tryz.info9;refine callsIn_of_wp_marks Tryz.func39 rfl trivial (wpIn_wide.2 ?_) rfl;simp only [Tryz.ntmps39, List.size_toArray, List.length_cons, List.length_nil, Nat.reduceAdd, Nat.reduceSub, Array.replicate_succ, Array.replicate_zero, List.push_toArray, List.append_toArray, List.nil_append, List.cons_append];cases hN : qdp s.data.toList with
 | error x =>
  have HN : Hid (qfx s = .tuple #[semZ, .int .i64 (x.2 : Int), .int .i64 x.1]) := by show _ = _; unfold qfx; rw [hN]
  have hx := qbtv hN;have hxb : (x.1 == 0) = false := by simpa using hx
  have hxc : (x.1 != 0) = true := by simpa using hx
  have HP : Hid (qbf s.data.toList = .error x) := by show _ = _; unfold qbf; rw [if_neg (by rw [qh]; omega), hN]
  clear hx hN;(go_wp2_with fail);go_step3
  (go_wp2_with fail);refine (qxb s _ (by omega)).mono ?_
  rintro e w1 ⟨rfl, b1⟩;rw [HN.out]
  try unfold semZ
  (go_wp2_with fail);go_step3
  (go_wp2_with fail);refine wp_loop_rounds 5 ?_;have hsz := b1.size;simp only [qcgp] at hsz;have hL0 := qbcx s w w1 b1;have hB1 : Below w.heap.size w w1 := qxl s w w1 b1;generalize hV : w1.heap.size = V at *;generalize hW : ((w1.alloc (.cells #[.string ⟨#[]⟩, .string ⟨#[]⟩, .string ⟨#[]⟩, .slice none 0 0, .slice none 0 0] 33)).alloc (.cells #[.int .i64 (x.2 : Int)] 3)).alloc (.cells #[.int .i64 x.1] 23) = W at *;have hLV := qbht w1 (.cells #[.string ⟨#[]⟩, .string ⟨#[]⟩, .string ⟨#[]⟩, .slice none 0 0, .slice none 0 0] 33) (.cells #[.int .i64 (x.2 : Int)] 3) (.cells #[.int .i64 x.1] 23) _ hL0;have hBW := qbdl w w1 (.cells #[.string ⟨#[]⟩, .string ⟨#[]⟩, .string ⟨#[]⟩, .slice none 0 0, .slice none 0 0] 33) (.cells #[.int .i64 (x.2 : Int)] 3) (.cells #[.int .i64 x.1] 23) hB1;have hX := congrArg (fun x : QW => x.heap.size) hW;simp only [qcgp, hV] at hX;rw [hW] at hLV hBW;rw [hV] at hLV;clear hW hL0 hB1 b1 hV;have eV := hLV.head;have eA := hLV.tail.head;have eE := hLV.tail.tail.head;have eS := hLV.tail.tail.tail.head;have eR := hLV.tail.tail.tail.tail.head;have eF := hLV.tail.tail.tail.tail.tail.head;clear hLV;have cS := qw eS;have cA := qw eA;have cE := qw eE;have r0 := qd 0 eR rfl;have r1 := qd 1 eR rfl;have r2 := qd 2 eR rfl;have r3 := qd 3 eR rfl;have r4 := qd 4 eR rfl;have f0 := qd 0 eF rfl;have f1 := qd 1 eF rfl;have z0 := qf 0 eR;have z1 := qf 1 eR
  have z2 := qf 2 eR;have z3 := qf 3 eR;have z4 := qf 4 eR;have y0 := qf 0 eF;have y1 := qf 1 eF;clear eV eA eE eS;rw [rounds_succ];(go_wp2_with fail);go_region
  (go_wp2_with fail);rw [qcdz];obtain ⟨W9, hW9, gr, gf, hk, hbl⟩ := qdt (W := W) (B1 := w.heap.size + 1) (B2 := w.heap.size + 1 + 1) (by omega) (.string ⟨#[]⟩) (.string ⟨#[]⟩) (.string ⟨#[]⟩) (.slice none 0 0) (.slice none 0 0) (.int .i64 (x).1) (.int .i64 ((x).2 : Int)) eR eF
  rw [← hW9];refine fin9 _ [] W9.drew w.heap.size (w.heap.size + 1) (w.heap.size + 1 + 1) _ _ _ _ _ _ _ ⟨_, _, _, rfl⟩ ⟨_, _, _, rfl⟩ rfl rfl gr gf (by simp) (by simp) ?_
  exact fun W' h => qgr HP.out ((hBW.trans (hbl _ (by omega) (by omega))).drew) h
 | ok q =>
  obtain ⟨a, b, c, d, e⟩ := q;have HN : Hid (qfx s = .tuple #[.agg #[.string (s.extract 0 a), .string (s.extract b c), .string (s.extract d e), .slice none 0 0, .slice none 0 0], .int .i64 (e : Int), .int .i64 0]) := by show _ = _; unfold qfx; rw [hN]
  have hT : qbf s.data.toList = putT a b c d e (qdg s.data.toList e) := qcdn (by rw [qh]; omega) hN
  have he : e ≤ s.size := nums_le hN;clear hN;(go_wp2_with fail);go_step3
  (go_wp2_with fail);refine (qxb s _ (by omega)).mono ?_
  rintro e w1 ⟨rfl, b1⟩;rw [HN.out]
  try unfold semZ
  (go_wp2_with fail);go_step3
  (go_wp2_with fail);refine wp_loop_rounds 5 ?_;have hsz := b1.size;simp only [qcgp] at hsz;have hL0 := qbcx s w w1 b1;have hB1 : Below w.heap.size w w1 := qxl s w w1 b1;generalize hV : w1.heap.size = V at *;generalize hW : ((w1.alloc (.cells #[.string (s.extract 0 a), .string (s.extract b c), .string (s.extract d e), .slice none 0 0, .slice none 0 0] 33)).alloc (.cells #[.int .i64 (e : Int)] 3)).alloc (.cells #[.int .i64 0] 23) = W at *;have hLV := qbht w1 (.cells #[.string (s.extract 0 a), .string (s.extract b c), .string (s.extract d e), .slice none 0 0, .slice none 0 0] 33) (.cells #[.int .i64 (e : Int)] 3) (.cells #[.int .i64 0] 23) _ hL0;have hBW := qbdl w w1 (.cells #[.string (s.extract 0 a), .string (s.extract b c), .string (s.extract d e), .slice none 0 0, .slice none 0 0] 33) (.cells #[.int .i64 (e : Int)] 3) (.cells #[.int .i64 0] 23) hB1;have hX := congrArg (fun x : QW => x.heap.size) hW;simp only [qcgp, hV] at hX;rw [hW] at hLV hBW;rw [hV] at hLV;clear hW hL0 hB1 b1 hV;have hL := hLV;clear hLV;have eV := hL.head;have eA := hL.tail.head;have eE := hL.tail.tail.head;have eS := hL.tail.tail.tail.head;have eR := hL.tail.tail.tail.tail.head;have eF := hL.tail.tail.tail.tail.tail.head;have cS := qw eS;have cA := qw eA;have cE := qw eE;have v0 := qd 0 eV rfl;have v1 := qd 1 eV rfl;have v2 := qd 2 eV rfl;have v3 := qd 3 eV rfl;have v4 := qd 4 eV rfl;have zA := qf 0 eA
  have zE := qf 0 eE
  by_cases h45 : s.data.toList[e]? = some 45
  ·have hlt : e < s.size := by have := (List.getElem?_eq_some_iff.1 h45).1; rw [qh] at this; exact this
   have h45b : s[e] = 45 := by rw [qdz s e hlt] at h45; simpa using h45
   have hb1 : ((s[e].toNat : Int) == 45) = true := by rw [h45b]; rfl
   have H45 := qb h45;have HT := qb hT;clear h45 h45b hT;have hWs := hBW.size;have ls0 : w.heap.size < W.heap.size := by omega
   have ls1 : w.heap.size < W.heap.size + 1 := by omega
   have ls2 : w.heap.size < W.heap.size + 1 + 1 := by omega
   have lr0 : w.heap.size + 1 < W.heap.size := by omega
   have lr1 : w.heap.size + 1 < W.heap.size + 1 := by omega
   have lr2 : w.heap.size + 1 < W.heap.size + 1 + 1 := by omega
   have lf0 : w.heap.size + 1 + 1 < W.heap.size := by omega
   have lf1 : w.heap.size + 1 + 1 < W.heap.size + 1 := by omega
   have lf2 : w.heap.size + 1 + 1 < W.heap.size + 1 + 1 := by omega
   have lv0 : V < W.heap.size := by omega
   have lv1 : V < W.heap.size + 1 := by omega
   have lv2 : V < W.heap.size + 1 + 1 := by omega
   have la0 : V + 1 < W.heap.size := by omega
   have la1 : V + 1 < W.heap.size + 1 := by omega
   have la2 : V + 1 < W.heap.size + 1 + 1 := by omega
   have le0 : V + 1 + 1 < W.heap.size := by omega
   have le1 : V + 1 + 1 < W.heap.size + 1 := by omega
   have le2 : V + 1 + 1 < W.heap.size + 1 + 1 := by omega
   rw [rounds_succ];(go_wp2_with fail);refine (qkw s _ _).mono ?_;rintro e' w2 ⟨rfl, hw2⟩;rw [hw2];clear hw2 w2;(go_wp2_with fail);have hLf := qwn W (.cells #[.bool true] 4) (.cells #[.pointer (some ⟨V, 3, none⟩)] 104) (.cells #[.string s] 9) (.cells #[.int .i64 ((e : Int) + 1)] 3) _ hL;have hBf := qsq w W (.cells #[.bool true] 4) (.cells #[.pointer (some ⟨V, 3, none⟩)] 104) (.cells #[.string s] 9) (.cells #[.int .i64 ((e : Int) + 1)] 3) hBW;have hLs := qbb.cons hLf.tail.tail.tail.tail.head (qbb.cons hLf.tail.tail.tail.tail.tail.head (qbb.cons hLf.tail.tail.tail.tail.tail.tail.head (qbb.cons hLf.head (qbb.cons hLf.tail.head (qbb.cons hLf.tail.tail.head (qbb.cons hLf.tail.tail.tail.head hLf.tail.tail.tail.tail.tail.tail.tail))))));have hbA : Boxed _ (W.heap.size + 1 + 1 + 1) 3 (.int .i64 ((e + 1 : Nat) : Int)) := hLf.tail.tail.tail.head;have hbS : Boxed _ (W.heap.size + 1 + 1) 9 (.string s) := hLf.tail.tail.head;have hps : ∀ q ∈ (((W.heap.size, .cells #[.bool true] 4) :: (W.heap.size + 1, .cells #[.pointer (some ⟨V, 3, none⟩)] 104) :: (W.heap.size + 1 + 1, .cells #[.string s] 9) :: (W.heap.size + 1 + 1 + 1, .cells #[.int .i64 ((e : Int) + 1)] 3) :: (w.heap.size, .cells #[.string s] 9) :: (w.heap.size + 1, .cells #[.string ⟨#[]⟩, .string ⟨#[]⟩, .string ⟨#[]⟩, .slice none 0 0, .slice none 0 0] 33) :: (w.heap.size + 1 + 1, .cells #[.int .i64 0, .int .i64 0] 25) :: []) : List (Nat × Obj)), q.1 < (W.heap.size + 1 + 1 + 1 + 1) := fun q hq => by
    have := hLs.lt q (qcgq _ (qcgq _ (qcgq _ hq)));simpa only [qcgp] using this
   have hwX := hBW.size;have hpsV : ∀ q ∈ (((W.heap.size, .cells #[.bool true] 4) :: (W.heap.size + 1, .cells #[.pointer (some ⟨V, 3, none⟩)] 104) :: (W.heap.size + 1 + 1, .cells #[.string s] 9) :: (W.heap.size + 1 + 1 + 1, .cells #[.int .i64 ((e : Int) + 1)] 3) :: (w.heap.size, .cells #[.string s] 9) :: (w.heap.size + 1, .cells #[.string ⟨#[]⟩, .string ⟨#[]⟩, .string ⟨#[]⟩, .slice none 0 0, .slice none 0 0] 33) :: (w.heap.size + 1 + 1, .cells #[.int .i64 0, .int .i64 0] 25) :: []) : List (Nat × Obj)), q.1 ≠ V := by
    intro q hq;simp only [qcgw, qchc, or_false] at hq;rcases hq with rfl | rfl | rfl | rfl | rfl | rfl | rfl <;> simp only <;> omega
   have hps1 : ∀ q ∈ (((W.heap.size, .cells #[.bool true] 4) :: (W.heap.size + 1, .cells #[.pointer (some ⟨V, 3, none⟩)] 104) :: (W.heap.size + 1 + 1, .cells #[.string s] 9) :: (W.heap.size + 1 + 1 + 1, .cells #[.int .i64 ((e : Int) + 1)] 3) :: (w.heap.size, .cells #[.string s] 9) :: (w.heap.size + 1, .cells #[.string ⟨#[]⟩, .string ⟨#[]⟩, .string ⟨#[]⟩, .slice none 0 0, .slice none 0 0] 33) :: (w.heap.size + 1 + 1, .cells #[.int .i64 0, .int .i64 0] 25) :: []) : List (Nat × Obj)), q.1 ≠ V + 1 ∧ q.1 ≠ V + 1 + 1 := by
    intro q hq;simp only [qcgw, qchc, or_false] at hq;rcases hq with rfl | rfl | rfl | rfl | rfl | rfl | rfl <;> simp only <;> omega
   clear hLf;generalize hn0 : (W.heap.size + 1 + 1 + 1 + 1) = n₀ at *;refine (wpIn_wide (n := 5)).1 ?_;refine wpIn_rangeFunc_ownG rfl (by omega) (gf := 108) (lb := #[.pointer (some ⟨W.heap.size + 1 + 1 + 1, 0, none⟩), .pointer (some ⟨W.heap.size + 1 + 1, 0, none⟩)]) rfl trivial (enters_of Tryz.func108 (by kernel_rfl) rfl)
    (qwb 4 (by omega) (W.heap.size + 1 + 1 + 1) (W.heap.size + 1 + 1) s (e + 1) (by omega) (by omega) _ hbA hbS) Two.trans (two_b (by simp only [qcgp]; omega) (by simp only [qcgp]; omega)) (Below.refl _ _) (fun _ => rfl)
    (PI s w n₀ V ((W.heap.size, .cells #[.bool true] 4) :: (W.heap.size + 1, .cells #[.pointer (some ⟨V, 3, none⟩)] 104) :: (W.heap.size + 1 + 1, .cells #[.string s] 9) :: (W.heap.size + 1 + 1 + 1, .cells #[.int .i64 ((e : Int) + 1)] 3) :: (w.heap.size, .cells #[.string s] 9) :: (w.heap.size + 1, .cells #[.string ⟨#[]⟩, .string ⟨#[]⟩, .string ⟨#[]⟩, .slice none 0 0, .slice none 0 0] 33) :: (w.heap.size + 1 + 1, .cells #[.int .i64 0, .int .i64 0] 25) :: []) (fun v => #[.string (s.extract 0 a), .string (s.extract b c), .string (s.extract d e), v, .slice none 0 0]) true e)
    (PX s w n₀ V ((W.heap.size, .cells #[.bool true] 4) :: (W.heap.size + 1, .cells #[.pointer (some ⟨V, 3, none⟩)] 104) :: (W.heap.size + 1 + 1, .cells #[.string s] 9) :: (W.heap.size + 1 + 1 + 1, .cells #[.int .i64 ((e : Int) + 1)] 3) :: (w.heap.size, .cells #[.string s] 9) :: (w.heap.size + 1, .cells #[.string ⟨#[]⟩, .string ⟨#[]⟩, .string ⟨#[]⟩, .slice none 0 0, .slice none 0 0] 33) :: (w.heap.size + 1 + 1, .cells #[.int .i64 0, .int .i64 0] 25) :: []) (fun v => #[.string (s.extract 0 a), .string (s.extract b c), .string (s.extract d e), v, .slice none 0 0]) true 0)
    (fun pre A B row h hg hr => ⟨qvm s w _ V _ _ _ _ pre _ (by simp only [qcgp]; omega) (fun q hq => by have := hps q hq; simp only [qcgp]; omega) (by simp only [qcgp]; omega) A B row h.1 hg hr, h.2⟩)
    (fun c ys A B row h hg hr => by
     obtain ⟨hc, pre, x, e1, e2, e3, h4⟩ := h;exact ⟨hc, pre, x, e1, e2, e3, qvm s w _ V _ _ _ _ pre _ (by simp only [qcgp]; omega) (fun q hq => by have := hps q hq; simp only [qcgp]; omega) (by simp only [qcgp]; omega) A B row h4 hg hr⟩)
    ⟨⟨_, hLs, qchg _ _ _ _, hBf⟩, rfl⟩ ?a1_p1 ?assign_p1 ?body_p1 ?done_p1 ?stop_p1
   case assign_p1 =>
    intro l x W K hK;gi_wp2
    exact hK
   case body_p1 =>
    rintro lx pre x Wi ⟨⟨v, hLi, hrow, hB⟩, hbad⟩ hlen;obtain ⟨ao, cap, rfl⟩ := qlm hrow;have eV := hLi.head;have eA := hLi.tail.head;have eE := hLi.tail.tail.head;have eI := hLi.tail.tail.tail.head;have eL := hLi.tail.tail.tail.tail.head;have eS := hLi.tail.tail.tail.tail.tail.tail.tail.head;clear cS cA cE v0 v1 v2 v3 v4 zA zE;have cS := qw eS;have cI := qw eI;have cL := qw eL;have cA := qw eA;have cE := qw eE;have zA := qf 0 eA;have zE := qf 0 eE;have WC0 : ∀ w : QW, Calls Tryz.prog 74 #[.string s, .string (s.extract x.1 x.2), .int .i64 (x.2 : Int), .bool true] w fun r w' => r = .returned (.int .i64 (qbv true s.data.toList (seg s.data.toList x.1 x.2) x.2)) ∧ w' = w := fun w => by
     have := qvn s (s.extract x.1 x.2) x.2 true w (by unfold maxLen; omega) (by rw [qbx, qx]; unfold maxLen; simp [seg]; omega)
     rw [qfb] at this;exact this
    have hrowl : pre.length ≤ 70 := by have := qtr s.data.toList _ (e + 1) rfl; rw [qh] at this; omega
    by_cases hk0 : qbv true s.data.toList (seg s.data.toList x.1 x.2) x.2 = 0
    ·rw [hk0] at WC0;have WC := qb WC0;clear WC0;gi_wp2_with (refine ⟨trivial, ?_⟩; gi_at_call 74; refine (callsIn_wide.2 (WC.out _)).mono ?_; rintro e w' ⟨rfl, hw'⟩; rw [hw']; clear hw' w')
     obtain ⟨W1, hW1, hL1, hr1, hB1, hk1, h21, hs1⟩ := qlp (s := s) (cs := fun v => #[.string (s.extract 0 a), .string (s.extract b c), .string (s.extract d e), v, .slice none 0 0]) (v := .slice ao pre.length cap) (x.2 : Int) 0 (W.heap.size + 1 + 1 + 1) (W.heap.size + 1 + 1) (by omega) (by omega) hps1 (by omega) (by omega) hLi hrow hB
     have hn1 : n₀ ≤ W1.drew.heap.size := by show n₀ ≤ W1.heap.size; rw [hs1]; have := hLi.lt _ (qcgq _ (qcgq _ (qcgq _ (qcgq _ (qcgq _ (qcgq _ qchd)))))); simp only at this; omega
     rw [← hW1];refine wpIn_region_any (by kernel_rfl) ?_
     refine qgs (F := Fence.wide) rfl ?hd_p1 _ _ _ _ ?_
     case hd_p1 => exact qml (by kernel_rfl)
     change wpAnyIn _ _ _ _ _ _ _ _ _ (World.drew _)
     clear hW1;replace hL1 : qbb W1.drew _ := hL1;replace hr1 := hr1.drew;replace hB1 := hB1.drew;replace hk1 := hk1.trans (KeepsOthers.drew W1);replace h21 : Two (W.heap.size + 1 + 1 + 1) (W.heap.size + 1 + 1) Wi W1.drew := h21;clear hs1;generalize W1.drew = W2 at *;have cL2 := qw hL1.tail.tail.tail.tail.head;have cV2 := qd 3 hL1.head rfl;have cLa : ∀ o : Obj, (W2.alloc o).cell? ⟨W.heap.size + 1, 0, none⟩ = some (.pointer (some ⟨V, 3, none⟩)) := fun o => qw (hL1.alloc o).tail.tail.tail.tail.head;have cVa : ∀ o : Obj, (W2.alloc o).cell? ⟨V, 3, none⟩ = some (.slice ao pre.length cap) := fun o => qd 3 (hL1.alloc o).head rfl;have hq3 : ∀ q ∈ ((V, Obj.cells ((fun v => #[.string (s.extract 0 a), .string (s.extract b c), .string (s.extract d e), v, .slice none 0 0]) (.slice ao pre.length cap)) 33 (0, 0)) :: (V + 1, .cells #[.int .i64 (x.2 : Int)] 3 (0, 0)) :: (V + 1 + 1, .cells #[.int .i64 0] 23 (0, 0)) :: ((W.heap.size, .cells #[.bool true] 4) :: (W.heap.size + 1, .cells #[.pointer (some ⟨V, 3, none⟩)] 104) :: (W.heap.size + 1 + 1, .cells #[.string s] 9) :: (W.heap.size + 1 + 1 + 1, .cells #[.int .i64 ((e : Int) + 1)] 3) :: (w.heap.size, .cells #[.string s] 9) :: (w.heap.size + 1, .cells #[.string ⟨#[]⟩, .string ⟨#[]⟩, .string ⟨#[]⟩, .slice none 0 0, .slice none 0 0] 33) :: (w.heap.size + 1 + 1, .cells #[.int .i64 0, .int .i64 0] 25) :: [])), q.1 < n₀ := by
      intro q hq;rcases qcgw.1 hq with rfl | hq
      ·show V < n₀; omega
      rcases qcgw.1 hq with rfl | hq
      ·show V + 1 < n₀; omega
      rcases qcgw.1 hq with rfl | hq
      ·show V + 1 + 1 < n₀; omega
      exact hps q hq
     have HCL : Hid (∀ (tmp : Obj) (w1 : QW), (W2.alloc tmp).grownBy w1 (Value.slice ao pre.length cap).ownBlock → w1.cell? ⟨W.heap.size + 1, 0, none⟩ = some (.pointer (some ⟨V, 3, none⟩)) ∧ w1.cell? ⟨V, 3, none⟩ = some (.slice ao pre.length cap) ∧ w1.frozen? ⟨V, 3, none⟩ = false) := fun tmp w1 hg => by
      have h := qqd hL1 hq3 hr1 hg;exact ⟨qw h.tail.tail.tail.tail.head, qd 3 h.head rfl, qf 3 h.head⟩
     have FIN := qb (fun (g' cap' : Nat) (tmp : Obj) (w1 : QW) hown' hgrow (B : Nat) => qbcd (g' := g') (cap' := cap') (tmp := tmp) (w1 := w1) (z := e) (off := 3) (cs := fun v => #[.string (s.extract 0 a), .string (s.extract b c), .string (s.extract d e), v, .slice none 0 0]) (by omega) (fun q hq => ⟨hps q hq, hpsV q hq⟩) (by omega) (by omega) (by omega) (fun u => rfl) hn1 hL1 hr1 hB1 hk1 h21 hbad hk0 hown' hgrow B)
     clear cS cI cL cA cE zA zE eV eA eE eI eL eS hLi hrow hB;refine wpAnyIn_take (i := 4) (v := ?_) rfl rfl (by kernel_rfl) (by kernel_rfl) (by kernel_rfl) (fun _ _ _ h => h) ⟨Or.inl ⟨by rfl, ?_⟩, fun _ => rfl⟩ ?_
     rotate_left
     ·intro w; go_simp
      try with_reducible rfl
     refine wpAnyIn_ready (rs := [0, 1, 5]) (by kernel_rfl) (by simp) ?_
     refine qcgh rfl (fun K hK => ?_) ?_
     ·go_simp
      refine hK _ _ ?_;clear hK K;refine wpAnyIn_ready (rs := [1, 5]) (by kernel_rfl) (by simp) ?_
      refine qcgh rfl (fun K hK => ?_) ?_
      ·go_simp
       refine hK _ _ ?_;clear hK K;refine wpAnyIn_take (i := 2) (v := ?_) rfl rfl (by kernel_rfl) (by kernel_rfl) (by kernel_rfl) (fun _ _ _ h => h) ⟨Or.inl ⟨by rfl, ?_⟩, fun _ => rfl⟩ ?_
       rotate_left
       ·intro w; go_simp
        try with_reducible rfl
       refine wpAnyIn_ready (rs := [3, 5]) (by kernel_rfl) (by simp) ?_
       refine qcgh rfl (fun K hK => ?_) ?_
       ·go_simp
        refine hK _ _ ?_;clear hK K;refine wpAnyIn_ready (rs := [5]) (by kernel_rfl) (by simp) ?_
        refine qcgh rfl (fun K hK => ?_) ?_
        ·go_simp
         refine hK _ _ ?_;clear hK K;refine wpAnyIn_ready (rs := [6]) (by kernel_rfl) (by simp) ?_
         refine qcgh rfl (fun K hK => ?_) ?_
         ·refine qk rfl _ _ 31 rfl n₀ 9 i0 (.string .empty) 1 16 Tryz.underlying31 hi hz0 hz1 hz2 rfl (by decide) _ _ _ rfl (hr1.alloc _) ⟨W2.heap.size, 0, none⟩ 1 1 [.string (s.extract x.1 x.2)] rfl rfl (qm _ _ _) (qbg _) (by unfold maxLen; omega) (by omega) (by simp; omega) ?_
          intro v' w1 hown' hgrow _;obtain ⟨g', cap', rfl⟩ := ownsRow_succ hown';obtain ⟨hc1, hc2, hf2⟩ := HCL.out _ _ hgrow;refine hK _ _ ?_;clear hK K;refine wpAnyIn_take (i := 7) (v := ?_) rfl rfl (by kernel_rfl) (by kernel_rfl) (by kernel_rfl) (fun _ _ _ h => h) ⟨Or.inl ⟨by rfl, ?_⟩, fun _ => rfl⟩ ?_
          rotate_left
          ·intro w; go_simp
           try with_reducible rfl
          refine wpAnyIn_ready (rs := [8]) (by kernel_rfl) (by simp) ?_
          refine qcgh rfl (fun K hK => ?_) ?_
          ·go_simp
           refine hK _ _ ?_;clear hK K;refine wpAnyIn_done (by kernel_rfl) ?_ _
           exact FIN.out _ _ _ _ hown' hgrow _
          exact qcgk
         exact qcgk
        exact qcgk
       refine qcgh rfl (fun K hK => ?_) ?_
       ·go_simp
        refine hK _ _ ?_;clear hK K;refine wpAnyIn_ready (rs := [3]) (by kernel_rfl) (by simp) ?_
        refine qcgh rfl (fun K hK => ?_) ?_
        ·go_simp
         refine hK _ _ ?_;clear hK K;refine wpAnyIn_ready (rs := [6]) (by kernel_rfl) (by simp) ?_
         refine qcgh rfl (fun K hK => ?_) ?_
         ·refine qk rfl _ _ 31 rfl n₀ 9 i0 (.string .empty) 1 16 Tryz.underlying31 hi hz0 hz1 hz2 rfl (by decide) _ _ _ rfl (hr1.alloc _) ⟨W2.heap.size, 0, none⟩ 1 1 [.string (s.extract x.1 x.2)] rfl rfl (qm _ _ _) (qbg _) (by unfold maxLen; omega) (by omega) (by simp; omega) ?_
          intro v' w1 hown' hgrow _;obtain ⟨g', cap', rfl⟩ := ownsRow_succ hown';obtain ⟨hc1, hc2, hf2⟩ := HCL.out _ _ hgrow;refine hK _ _ ?_;clear hK K;refine wpAnyIn_take (i := 7) (v := ?_) rfl rfl (by kernel_rfl) (by kernel_rfl) (by kernel_rfl) (fun _ _ _ h => h) ⟨Or.inl ⟨by rfl, ?_⟩, fun _ => rfl⟩ ?_
          rotate_left
          ·intro w; go_simp
           try with_reducible rfl
          refine wpAnyIn_ready (rs := [8]) (by kernel_rfl) (by simp) ?_
          refine qcgh rfl (fun K hK => ?_) ?_
          ·go_simp
           refine hK _ _ ?_;clear hK K;refine wpAnyIn_done (by kernel_rfl) ?_ _
           exact FIN.out _ _ _ _ hown' hgrow _
          exact qcgk
         exact qcgk
        exact qcgk
       exact qcgk
      refine qcgh rfl (fun K hK => ?_) ?_
      ·go_simp
       refine hK _ _ ?_;clear hK K;refine wpAnyIn_ready (rs := [1]) (by kernel_rfl) (by simp) ?_
       refine qcgh rfl (fun K hK => ?_) ?_
       ·go_simp
        refine hK _ _ ?_;clear hK K;refine wpAnyIn_take (i := 2) (v := ?_) rfl rfl (by kernel_rfl) (by kernel_rfl) (by kernel_rfl) (fun _ _ _ h => h) ⟨Or.inl ⟨by rfl, ?_⟩, fun _ => rfl⟩ ?_
        rotate_left
        ·intro w; go_simp
         try with_reducible rfl
        refine wpAnyIn_ready (rs := [3]) (by kernel_rfl) (by simp) ?_
        refine qcgh rfl (fun K hK => ?_) ?_
        ·go_simp
         refine hK _ _ ?_;clear hK K;refine wpAnyIn_ready (rs := [6]) (by kernel_rfl) (by simp) ?_
         refine qcgh rfl (fun K hK => ?_) ?_
         ·refine qk rfl _ _ 31 rfl n₀ 9 i0 (.string .empty) 1 16 Tryz.underlying31 hi hz0 hz1 hz2 rfl (by decide) _ _ _ rfl (hr1.alloc _) ⟨W2.heap.size, 0, none⟩ 1 1 [.string (s.extract x.1 x.2)] rfl rfl (qm _ _ _) (qbg _) (by unfold maxLen; omega) (by omega) (by simp; omega) ?_
          intro v' w1 hown' hgrow _;obtain ⟨g', cap', rfl⟩ := ownsRow_succ hown';obtain ⟨hc1, hc2, hf2⟩ := HCL.out _ _ hgrow;refine hK _ _ ?_;clear hK K;refine wpAnyIn_take (i := 7) (v := ?_) rfl rfl (by kernel_rfl) (by kernel_rfl) (by kernel_rfl) (fun _ _ _ h => h) ⟨Or.inl ⟨by rfl, ?_⟩, fun _ => rfl⟩ ?_
          rotate_left
          ·intro w; go_simp
           try with_reducible rfl
          refine wpAnyIn_ready (rs := [8]) (by kernel_rfl) (by simp) ?_
          refine qcgh rfl (fun K hK => ?_) ?_
          ·go_simp
           refine hK _ _ ?_;clear hK K;refine wpAnyIn_done (by kernel_rfl) ?_ _
           exact FIN.out _ _ _ _ hown' hgrow _
          exact qcgk
         exact qcgk
        exact qcgk
       exact qcgk
      exact qcgk
     refine qcgh rfl (fun K hK => ?_) ?_
     ·go_simp
      refine hK _ _ ?_;clear hK K;refine wpAnyIn_take (i := 2) (v := ?_) rfl rfl (by kernel_rfl) (by kernel_rfl) (by kernel_rfl) (fun _ _ _ h => h) ⟨Or.inl ⟨by rfl, ?_⟩, fun _ => rfl⟩ ?_
      rotate_left
      ·intro w; go_simp
       try with_reducible rfl
      refine wpAnyIn_ready (rs := [0, 3, 5]) (by kernel_rfl) (by simp) ?_
      refine qcgh rfl (fun K hK => ?_) ?_
      ·go_simp
       refine hK _ _ ?_;clear hK K;refine wpAnyIn_ready (rs := [3, 5]) (by kernel_rfl) (by simp) ?_
       refine qcgh rfl (fun K hK => ?_) ?_
       ·go_simp
        refine hK _ _ ?_;clear hK K;refine wpAnyIn_ready (rs := [5]) (by kernel_rfl) (by simp) ?_
        refine qcgh rfl (fun K hK => ?_) ?_
        ·go_simp
         refine hK _ _ ?_;clear hK K;refine wpAnyIn_ready (rs := [6]) (by kernel_rfl) (by simp) ?_
         refine qcgh rfl (fun K hK => ?_) ?_
         ·refine qk rfl _ _ 31 rfl n₀ 9 i0 (.string .empty) 1 16 Tryz.underlying31 hi hz0 hz1 hz2 rfl (by decide) _ _ _ rfl (hr1.alloc _) ⟨W2.heap.size, 0, none⟩ 1 1 [.string (s.extract x.1 x.2)] rfl rfl (qm _ _ _) (qbg _) (by unfold maxLen; omega) (by omega) (by simp; omega) ?_
          intro v' w1 hown' hgrow _;obtain ⟨g', cap', rfl⟩ := ownsRow_succ hown';obtain ⟨hc1, hc2, hf2⟩ := HCL.out _ _ hgrow;refine hK _ _ ?_;clear hK K;refine wpAnyIn_take (i := 7) (v := ?_) rfl rfl (by kernel_rfl) (by kernel_rfl) (by kernel_rfl) (fun _ _ _ h => h) ⟨Or.inl ⟨by rfl, ?_⟩, fun _ => rfl⟩ ?_
          rotate_left
          ·intro w; go_simp
           try with_reducible rfl
          refine wpAnyIn_ready (rs := [8]) (by kernel_rfl) (by simp) ?_
          refine qcgh rfl (fun K hK => ?_) ?_
          ·go_simp
           refine hK _ _ ?_;clear hK K;refine wpAnyIn_done (by kernel_rfl) ?_ _
           exact FIN.out _ _ _ _ hown' hgrow _
          exact qcgk
         exact qcgk
        exact qcgk
       refine qcgh rfl (fun K hK => ?_) ?_
       ·go_simp
        refine hK _ _ ?_;clear hK K;refine wpAnyIn_ready (rs := [3]) (by kernel_rfl) (by simp) ?_
        refine qcgh rfl (fun K hK => ?_) ?_
        ·go_simp
         refine hK _ _ ?_;clear hK K;refine wpAnyIn_ready (rs := [6]) (by kernel_rfl) (by simp) ?_
         refine qcgh rfl (fun K hK => ?_) ?_
         ·refine qk rfl _ _ 31 rfl n₀ 9 i0 (.string .empty) 1 16 Tryz.underlying31 hi hz0 hz1 hz2 rfl (by decide) _ _ _ rfl (hr1.alloc _) ⟨W2.heap.size, 0, none⟩ 1 1 [.string (s.extract x.1 x.2)] rfl rfl (qm _ _ _) (qbg _) (by unfold maxLen; omega) (by omega) (by simp; omega) ?_
          intro v' w1 hown' hgrow _;obtain ⟨g', cap', rfl⟩ := ownsRow_succ hown';obtain ⟨hc1, hc2, hf2⟩ := HCL.out _ _ hgrow;refine hK _ _ ?_;clear hK K;refine wpAnyIn_take (i := 7) (v := ?_) rfl rfl (by kernel_rfl) (by kernel_rfl) (by kernel_rfl) (fun _ _ _ h => h) ⟨Or.inl ⟨by rfl, ?_⟩, fun _ => rfl⟩ ?_
          rotate_left
          ·intro w; go_simp
           try with_reducible rfl
          refine wpAnyIn_ready (rs := [8]) (by kernel_rfl) (by simp) ?_
          refine qcgh rfl (fun K hK => ?_) ?_
          ·go_simp
           refine hK _ _ ?_;clear hK K;refine wpAnyIn_done (by kernel_rfl) ?_ _
           exact FIN.out _ _ _ _ hown' hgrow _
          exact qcgk
         exact qcgk
        exact qcgk
       exact qcgk
      refine qcgh rfl (fun K hK => ?_) ?_
      ·go_simp
       refine hK _ _ ?_;clear hK K;refine wpAnyIn_ready (rs := [0, 5]) (by kernel_rfl) (by simp) ?_
       refine qcgh rfl (fun K hK => ?_) ?_
       ·go_simp
        refine hK _ _ ?_;clear hK K;refine wpAnyIn_ready (rs := [5]) (by kernel_rfl) (by simp) ?_
        refine qcgh rfl (fun K hK => ?_) ?_
        ·go_simp
         refine hK _ _ ?_;clear hK K;refine wpAnyIn_ready (rs := [6]) (by kernel_rfl) (by simp) ?_
         refine qcgh rfl (fun K hK => ?_) ?_
         ·refine qk rfl _ _ 31 rfl n₀ 9 i0 (.string .empty) 1 16 Tryz.underlying31 hi hz0 hz1 hz2 rfl (by decide) _ _ _ rfl (hr1.alloc _) ⟨W2.heap.size, 0, none⟩ 1 1 [.string (s.extract x.1 x.2)] rfl rfl (qm _ _ _) (qbg _) (by unfold maxLen; omega) (by omega) (by simp; omega) ?_
          intro v' w1 hown' hgrow _;obtain ⟨g', cap', rfl⟩ := ownsRow_succ hown';obtain ⟨hc1, hc2, hf2⟩ := HCL.out _ _ hgrow;refine hK _ _ ?_;clear hK K;refine wpAnyIn_take (i := 7) (v := ?_) rfl rfl (by kernel_rfl) (by kernel_rfl) (by kernel_rfl) (fun _ _ _ h => h) ⟨Or.inl ⟨by rfl, ?_⟩, fun _ => rfl⟩ ?_
          rotate_left
          ·intro w; go_simp
           try with_reducible rfl
          refine wpAnyIn_ready (rs := [8]) (by kernel_rfl) (by simp) ?_
          refine qcgh rfl (fun K hK => ?_) ?_
          ·go_simp
           refine hK _ _ ?_;clear hK K;refine wpAnyIn_done (by kernel_rfl) ?_ _
           exact FIN.out _ _ _ _ hown' hgrow _
          exact qcgk
         exact qcgk
        exact qcgk
       refine qcgh rfl (fun K hK => ?_) ?_
       ·go_simp
        refine hK _ _ ?_;clear hK K;refine wpAnyIn_ready (rs := [0, 6]) (by kernel_rfl) (by simp) ?_
        refine qcgh rfl (fun K hK => ?_) ?_
        ·go_simp
         refine hK _ _ ?_;clear hK K;refine wpAnyIn_ready (rs := [6]) (by kernel_rfl) (by simp) ?_
         refine qcgh rfl (fun K hK => ?_) ?_
         ·refine qk rfl _ _ 31 rfl n₀ 9 i0 (.string .empty) 1 16 Tryz.underlying31 hi hz0 hz1 hz2 rfl (by decide) _ _ _ rfl (hr1.alloc _) ⟨W2.heap.size, 0, none⟩ 1 1 [.string (s.extract x.1 x.2)] rfl rfl (qm _ _ _) (qbg _) (by unfold maxLen; omega) (by omega) (by simp; omega) ?_
          intro v' w1 hown' hgrow _;obtain ⟨g', cap', rfl⟩ := ownsRow_succ hown';obtain ⟨hc1, hc2, hf2⟩ := HCL.out _ _ hgrow;refine hK _ _ ?_;clear hK K;refine wpAnyIn_take (i := 7) (v := ?_) rfl rfl (by kernel_rfl) (by kernel_rfl) (by kernel_rfl) (fun _ _ _ h => h) ⟨Or.inl ⟨by rfl, ?_⟩, fun _ => rfl⟩ ?_
          rotate_left
          ·intro w; go_simp
           try with_reducible rfl
          refine wpAnyIn_ready (rs := [8]) (by kernel_rfl) (by simp) ?_
          refine qcgh rfl (fun K hK => ?_) ?_
          ·go_simp
           refine hK _ _ ?_;clear hK K;refine wpAnyIn_done (by kernel_rfl) ?_ _
           exact FIN.out _ _ _ _ hown' hgrow _
          exact qcgk
         exact qcgk
        refine qcgh rfl (fun K hK => ?_) ?_
        ·refine qk rfl _ _ 31 rfl n₀ 9 i0 (.string .empty) 1 16 Tryz.underlying31 hi hz0 hz1 hz2 rfl (by decide) _ _ _ rfl (hr1.alloc _) ⟨W2.heap.size, 0, none⟩ 1 1 [.string (s.extract x.1 x.2)] rfl rfl (qm _ _ _) (qbg _) (by unfold maxLen; omega) (by omega) (by simp; omega) ?_
         intro v' w1 hown' hgrow _;obtain ⟨g', cap', rfl⟩ := ownsRow_succ hown';obtain ⟨hc1, hc2, hf2⟩ := HCL.out _ _ hgrow;refine hK _ _ ?_;clear hK K;refine wpAnyIn_ready (rs := [0]) (by kernel_rfl) (by simp) ?_
         refine qcgh rfl (fun K hK => ?_) ?_
         ·go_simp
          refine hK _ _ ?_;clear hK K;refine wpAnyIn_take (i := 7) (v := ?_) rfl rfl (by kernel_rfl) (by kernel_rfl) (by kernel_rfl) (fun _ _ _ h => h) ⟨Or.inl ⟨by rfl, ?_⟩, fun _ => rfl⟩ ?_
          rotate_left
          ·intro w; go_simp
           try with_reducible rfl
          refine wpAnyIn_ready (rs := [8]) (by kernel_rfl) (by simp) ?_
          refine qcgh rfl (fun K hK => ?_) ?_
          ·go_simp
           refine hK _ _ ?_;clear hK K;refine wpAnyIn_done (by kernel_rfl) ?_ _
           exact FIN.out _ _ _ _ hown' hgrow _
          exact qcgk
         exact qcgk
        exact qcgk
       exact qcgk
      refine qcgh rfl (fun K hK => ?_) ?_
      ·go_simp
       refine hK _ _ ?_;clear hK K;refine wpAnyIn_ready (rs := [0, 3]) (by kernel_rfl) (by simp) ?_
       refine qcgh rfl (fun K hK => ?_) ?_
       ·go_simp
        refine hK _ _ ?_;clear hK K;refine wpAnyIn_ready (rs := [3]) (by kernel_rfl) (by simp) ?_
        refine qcgh rfl (fun K hK => ?_) ?_
        ·go_simp
         refine hK _ _ ?_;clear hK K;refine wpAnyIn_ready (rs := [6]) (by kernel_rfl) (by simp) ?_
         refine qcgh rfl (fun K hK => ?_) ?_
         ·refine qk rfl _ _ 31 rfl n₀ 9 i0 (.string .empty) 1 16 Tryz.underlying31 hi hz0 hz1 hz2 rfl (by decide) _ _ _ rfl (hr1.alloc _) ⟨W2.heap.size, 0, none⟩ 1 1 [.string (s.extract x.1 x.2)] rfl rfl (qm _ _ _) (qbg _) (by unfold maxLen; omega) (by omega) (by simp; omega) ?_
          intro v' w1 hown' hgrow _;obtain ⟨g', cap', rfl⟩ := ownsRow_succ hown';obtain ⟨hc1, hc2, hf2⟩ := HCL.out _ _ hgrow;refine hK _ _ ?_;clear hK K;refine wpAnyIn_take (i := 7) (v := ?_) rfl rfl (by kernel_rfl) (by kernel_rfl) (by kernel_rfl) (fun _ _ _ h => h) ⟨Or.inl ⟨by rfl, ?_⟩, fun _ => rfl⟩ ?_
          rotate_left
          ·intro w; go_simp
           try with_reducible rfl
          refine wpAnyIn_ready (rs := [8]) (by kernel_rfl) (by simp) ?_
          refine qcgh rfl (fun K hK => ?_) ?_
          ·go_simp
           refine hK _ _ ?_;clear hK K;refine wpAnyIn_done (by kernel_rfl) ?_ _
           exact FIN.out _ _ _ _ hown' hgrow _
          exact qcgk
         exact qcgk
        exact qcgk
       refine qcgh rfl (fun K hK => ?_) ?_
       ·go_simp
        refine hK _ _ ?_;clear hK K;refine wpAnyIn_ready (rs := [0, 6]) (by kernel_rfl) (by simp) ?_
        refine qcgh rfl (fun K hK => ?_) ?_
        ·go_simp
         refine hK _ _ ?_;clear hK K;refine wpAnyIn_ready (rs := [6]) (by kernel_rfl) (by simp) ?_
         refine qcgh rfl (fun K hK => ?_) ?_
         ·refine qk rfl _ _ 31 rfl n₀ 9 i0 (.string .empty) 1 16 Tryz.underlying31 hi hz0 hz1 hz2 rfl (by decide) _ _ _ rfl (hr1.alloc _) ⟨W2.heap.size, 0, none⟩ 1 1 [.string (s.extract x.1 x.2)] rfl rfl (qm _ _ _) (qbg _) (by unfold maxLen; omega) (by omega) (by simp; omega) ?_
          intro v' w1 hown' hgrow _;obtain ⟨g', cap', rfl⟩ := ownsRow_succ hown';obtain ⟨hc1, hc2, hf2⟩ := HCL.out _ _ hgrow;refine hK _ _ ?_;clear hK K;refine wpAnyIn_take (i := 7) (v := ?_) rfl rfl (by kernel_rfl) (by kernel_rfl) (by kernel_rfl) (fun _ _ _ h => h) ⟨Or.inl ⟨by rfl, ?_⟩, fun _ => rfl⟩ ?_
          rotate_left
          ·intro w; go_simp
           try with_reducible rfl
          refine wpAnyIn_ready (rs := [8]) (by kernel_rfl) (by simp) ?_
          refine qcgh rfl (fun K hK => ?_) ?_
          ·go_simp
           refine hK _ _ ?_;clear hK K;refine wpAnyIn_done (by kernel_rfl) ?_ _
           exact FIN.out _ _ _ _ hown' hgrow _
          exact qcgk
         exact qcgk
        refine qcgh rfl (fun K hK => ?_) ?_
        ·refine qk rfl _ _ 31 rfl n₀ 9 i0 (.string .empty) 1 16 Tryz.underlying31 hi hz0 hz1 hz2 rfl (by decide) _ _ _ rfl (hr1.alloc _) ⟨W2.heap.size, 0, none⟩ 1 1 [.string (s.extract x.1 x.2)] rfl rfl (qm _ _ _) (qbg _) (by unfold maxLen; omega) (by omega) (by simp; omega) ?_
         intro v' w1 hown' hgrow _;obtain ⟨g', cap', rfl⟩ := ownsRow_succ hown';obtain ⟨hc1, hc2, hf2⟩ := HCL.out _ _ hgrow;refine hK _ _ ?_;clear hK K;refine wpAnyIn_ready (rs := [0]) (by kernel_rfl) (by simp) ?_
         refine qcgh rfl (fun K hK => ?_) ?_
         ·go_simp
          refine hK _ _ ?_;clear hK K;refine wpAnyIn_take (i := 7) (v := ?_) rfl rfl (by kernel_rfl) (by kernel_rfl) (by kernel_rfl) (fun _ _ _ h => h) ⟨Or.inl ⟨by rfl, ?_⟩, fun _ => rfl⟩ ?_
          rotate_left
          ·intro w; go_simp
           try with_reducible rfl
          refine wpAnyIn_ready (rs := [8]) (by kernel_rfl) (by simp) ?_
          refine qcgh rfl (fun K hK => ?_) ?_
          ·go_simp
           refine hK _ _ ?_;clear hK K;refine wpAnyIn_done (by kernel_rfl) ?_ _
           exact FIN.out _ _ _ _ hown' hgrow _
          exact qcgk
         exact qcgk
        exact qcgk
       exact qcgk
      exact qcgk
     refine qcgh rfl (fun K hK => ?_) ?_
     ·go_simp
      refine hK _ _ ?_;clear hK K;refine wpAnyIn_ready (rs := [0, 1]) (by kernel_rfl) (by simp) ?_
      refine qcgh rfl (fun K hK => ?_) ?_
      ·go_simp
       refine hK _ _ ?_;clear hK K;refine wpAnyIn_ready (rs := [1]) (by kernel_rfl) (by simp) ?_
       refine qcgh rfl (fun K hK => ?_) ?_
       ·go_simp
        refine hK _ _ ?_;clear hK K;refine wpAnyIn_take (i := 2) (v := ?_) rfl rfl (by kernel_rfl) (by kernel_rfl) (by kernel_rfl) (fun _ _ _ h => h) ⟨Or.inl ⟨by rfl, ?_⟩, fun _ => rfl⟩ ?_
        rotate_left
        ·intro w; go_simp
         try with_reducible rfl
        refine wpAnyIn_ready (rs := [3]) (by kernel_rfl) (by simp) ?_
        refine qcgh rfl (fun K hK => ?_) ?_
        ·go_simp
         refine hK _ _ ?_;clear hK K;refine wpAnyIn_ready (rs := [6]) (by kernel_rfl) (by simp) ?_
         refine qcgh rfl (fun K hK => ?_) ?_
         ·refine qk rfl _ _ 31 rfl n₀ 9 i0 (.string .empty) 1 16 Tryz.underlying31 hi hz0 hz1 hz2 rfl (by decide) _ _ _ rfl (hr1.alloc _) ⟨W2.heap.size, 0, none⟩ 1 1 [.string (s.extract x.1 x.2)] rfl rfl (qm _ _ _) (qbg _) (by unfold maxLen; omega) (by omega) (by simp; omega) ?_
          intro v' w1 hown' hgrow _;obtain ⟨g', cap', rfl⟩ := ownsRow_succ hown';obtain ⟨hc1, hc2, hf2⟩ := HCL.out _ _ hgrow;refine hK _ _ ?_;clear hK K;refine wpAnyIn_take (i := 7) (v := ?_) rfl rfl (by kernel_rfl) (by kernel_rfl) (by kernel_rfl) (fun _ _ _ h => h) ⟨Or.inl ⟨by rfl, ?_⟩, fun _ => rfl⟩ ?_
          rotate_left
          ·intro w; go_simp
           try with_reducible rfl
          refine wpAnyIn_ready (rs := [8]) (by kernel_rfl) (by simp) ?_
          refine qcgh rfl (fun K hK => ?_) ?_
          ·go_simp
           refine hK _ _ ?_;clear hK K;refine wpAnyIn_done (by kernel_rfl) ?_ _
           exact FIN.out _ _ _ _ hown' hgrow _
          exact qcgk
         exact qcgk
        exact qcgk
       exact qcgk
      refine qcgh rfl (fun K hK => ?_) ?_
      ·go_simp
       refine hK _ _ ?_;clear hK K;refine wpAnyIn_take (i := 2) (v := ?_) rfl rfl (by kernel_rfl) (by kernel_rfl) (by kernel_rfl) (fun _ _ _ h => h) ⟨Or.inl ⟨by rfl, ?_⟩, fun _ => rfl⟩ ?_
       rotate_left
       ·intro w; go_simp
        try with_reducible rfl
       refine wpAnyIn_ready (rs := [0, 3]) (by kernel_rfl) (by simp) ?_
       refine qcgh rfl (fun K hK => ?_) ?_
       ·go_simp
        refine hK _ _ ?_;clear hK K;refine wpAnyIn_ready (rs := [3]) (by kernel_rfl) (by simp) ?_
        refine qcgh rfl (fun K hK => ?_) ?_
        ·go_simp
         refine hK _ _ ?_;clear hK K;refine wpAnyIn_ready (rs := [6]) (by kernel_rfl) (by simp) ?_
         refine qcgh rfl (fun K hK => ?_) ?_
         ·refine qk rfl _ _ 31 rfl n₀ 9 i0 (.string .empty) 1 16 Tryz.underlying31 hi hz0 hz1 hz2 rfl (by decide) _ _ _ rfl (hr1.alloc _) ⟨W2.heap.size, 0, none⟩ 1 1 [.string (s.extract x.1 x.2)] rfl rfl (qm _ _ _) (qbg _) (by unfold maxLen; omega) (by omega) (by simp; omega) ?_
          intro v' w1 hown' hgrow _;obtain ⟨g', cap', rfl⟩ := ownsRow_succ hown';obtain ⟨hc1, hc2, hf2⟩ := HCL.out _ _ hgrow;refine hK _ _ ?_;clear hK K;refine wpAnyIn_take (i := 7) (v := ?_) rfl rfl (by kernel_rfl) (by kernel_rfl) (by kernel_rfl) (fun _ _ _ h => h) ⟨Or.inl ⟨by rfl, ?_⟩, fun _ => rfl⟩ ?_
          rotate_left
          ·intro w; go_simp
           try with_reducible rfl
          refine wpAnyIn_ready (rs := [8]) (by kernel_rfl) (by simp) ?_
          refine qcgh rfl (fun K hK => ?_) ?_
          ·go_simp
           refine hK _ _ ?_;clear hK K;refine wpAnyIn_done (by kernel_rfl) ?_ _
           exact FIN.out _ _ _ _ hown' hgrow _
          exact qcgk
         exact qcgk
        exact qcgk
       refine qcgh rfl (fun K hK => ?_) ?_
       ·go_simp
        refine hK _ _ ?_;clear hK K;refine wpAnyIn_ready (rs := [0, 6]) (by kernel_rfl) (by simp) ?_
        refine qcgh rfl (fun K hK => ?_) ?_
        ·go_simp
         refine hK _ _ ?_;clear hK K;refine wpAnyIn_ready (rs := [6]) (by kernel_rfl) (by simp) ?_
         refine qcgh rfl (fun K hK => ?_) ?_
         ·refine qk rfl _ _ 31 rfl n₀ 9 i0 (.string .empty) 1 16 Tryz.underlying31 hi hz0 hz1 hz2 rfl (by decide) _ _ _ rfl (hr1.alloc _) ⟨W2.heap.size, 0, none⟩ 1 1 [.string (s.extract x.1 x.2)] rfl rfl (qm _ _ _) (qbg _) (by unfold maxLen; omega) (by omega) (by simp; omega) ?_
          intro v' w1 hown' hgrow _;obtain ⟨g', cap', rfl⟩ := ownsRow_succ hown';obtain ⟨hc1, hc2, hf2⟩ := HCL.out _ _ hgrow;refine hK _ _ ?_;clear hK K;refine wpAnyIn_take (i := 7) (v := ?_) rfl rfl (by kernel_rfl) (by kernel_rfl) (by kernel_rfl) (fun _ _ _ h => h) ⟨Or.inl ⟨by rfl, ?_⟩, fun _ => rfl⟩ ?_
          rotate_left
          ·intro w; go_simp
           try with_reducible rfl
          refine wpAnyIn_ready (rs := [8]) (by kernel_rfl) (by simp) ?_
          refine qcgh rfl (fun K hK => ?_) ?_
          ·go_simp
           refine hK _ _ ?_;clear hK K;refine wpAnyIn_done (by kernel_rfl) ?_ _
           exact FIN.out _ _ _ _ hown' hgrow _
          exact qcgk
         exact qcgk
        refine qcgh rfl (fun K hK => ?_) ?_
        ·refine qk rfl _ _ 31 rfl n₀ 9 i0 (.string .empty) 1 16 Tryz.underlying31 hi hz0 hz1 hz2 rfl (by decide) _ _ _ rfl (hr1.alloc _) ⟨W2.heap.size, 0, none⟩ 1 1 [.string (s.extract x.1 x.2)] rfl rfl (qm _ _ _) (qbg _) (by unfold maxLen; omega) (by omega) (by simp; omega) ?_
         intro v' w1 hown' hgrow _;obtain ⟨g', cap', rfl⟩ := ownsRow_succ hown';obtain ⟨hc1, hc2, hf2⟩ := HCL.out _ _ hgrow;refine hK _ _ ?_;clear hK K;refine wpAnyIn_ready (rs := [0]) (by kernel_rfl) (by simp) ?_
         refine qcgh rfl (fun K hK => ?_) ?_
         ·go_simp
          refine hK _ _ ?_;clear hK K;refine wpAnyIn_take (i := 7) (v := ?_) rfl rfl (by kernel_rfl) (by kernel_rfl) (by kernel_rfl) (fun _ _ _ h => h) ⟨Or.inl ⟨by rfl, ?_⟩, fun _ => rfl⟩ ?_
          rotate_left
          ·intro w; go_simp
           try with_reducible rfl
          refine wpAnyIn_ready (rs := [8]) (by kernel_rfl) (by simp) ?_
          refine qcgh rfl (fun K hK => ?_) ?_
          ·go_simp
           refine hK _ _ ?_;clear hK K;refine wpAnyIn_done (by kernel_rfl) ?_ _
           exact FIN.out _ _ _ _ hown' hgrow _
          exact qcgk
         exact qcgk
        exact qcgk
       exact qcgk
      exact qcgk
     exact qcgk
    ·generalize hkk : qbv true s.data.toList (seg s.data.toList x.1 x.2) x.2 = kk at *;have WC := qb WC0;clear WC0;have hkb : (kk != 0) = true := by simpa using hk0
     gi_wp2_with (refine ⟨trivial, ?_⟩; gi_at_call 74; refine (callsIn_wide.2 (WC.out _)).mono ?_; rintro e w' ⟨rfl, hw'⟩; rw [hw']; clear hw' w')
     obtain ⟨W1, hW1, hL1, hr1, hB1, hk1, h21, hs1⟩ := qlp (s := s) (cs := fun v => #[.string (s.extract 0 a), .string (s.extract b c), .string (s.extract d e), v, .slice none 0 0]) (v := .slice ao pre.length cap) (x.2 : Int) kk (W.heap.size + 1 + 1 + 1) (W.heap.size + 1 + 1) (by omega) (by omega) hps1 (by omega) (by omega) hLi hrow hB
     rw [← hW1];exact ⟨hk1.from _, rfl, pre, x, rfl, hbad, by rw [hkk]; exact hk0, _, by rw [hkk]; exact hL1, hr1, hB1⟩
   case done_p1 =>
    rintro D1 ys Wb hD rfl ⟨⟨v, hL2, hrow, hB2⟩, hbad⟩ hK;clear cS cA cE v0 v1 v2 v3 v4 zA zE eV eA eE eS eR eF ls0 ls1 ls2 lr0 lr1 lr2 lf0 lf1 lf2 lv0 lv1 lv2 la0 la1 la2 le0 le1 le2 hL hBW hLs hBf hbA hbS hps hpsV hps1;simp only [qcgp] at hD;have hids := qzk true s.data.toList (e + 1) hbad;have hp := qhw s.data.toList (e + 1) (by rw [qh]; omega)
    rw [qh] at hp;have HT2 : Hid (qbf s.data.toList = putT a b c d e (qcb s.data.toList (qcm (e + 1) (qp s.data.toList (e + 1))) (qp s.data.toList (e + 1)))) := by
     show _ = _;rw [HT.out, tail_ok H45.out hids]
    rw [qmn] at hL2;have hne := qcx s.data.toList (e + 1);clear hids hbad HT H45;generalize qcm (e + 1) (qp s.data.toList (e + 1)) = p at *;generalize qp s.data.toList (e + 1) = PP at *;obtain ⟨g1, cap1, rfl⟩ := qbfb hrow (by cases PP with | nil => exact absurd rfl hne | cons _ _ => simp)
    obtain ⟨cur1, hg1, hgb1, HO1'⟩ := qwr hrow;have HO1 := qb HO1';have HT := qb HT2.out;clear HO1' hne HT2;have hL : qbb Wb _ := qbb.cons hL2.head (qbb.cons hL2.tail.head (qbb.cons hL2.tail.tail.head (qbb.cons hL2.tail.tail.tail.tail.tail.tail.tail.head (qbb.cons hL2.tail.tail.tail.tail.tail.tail.tail.tail.head (qbb.cons hL2.tail.tail.tail.tail.tail.tail.tail.tail.tail.head (qbb.cons hgb1 (qbb.cons hK (qbb.nil _))))))));have hBW := hB2;have hDlt : D1 < Wb.heap.size := (Array.getElem?_eq_some_iff.1 hK).1;clear hL2 hB2 hrow hK;have hVs : V + 3 ≤ Wb.heap.size := by have := hL.lt _ (qcgq _ (qcgq _ qchd)); simp only at this; omega
    have hdash : ∀ h : p < s.size, s[p] ≠ 45 := fun h => qbfm s p h hp.2;(go_wp2_with fail);have eV := hL.head;have eA := hL.tail.head;have eE := hL.tail.tail.head;have eS := hL.tail.tail.tail.head;have eR := hL.tail.tail.tail.tail.head;have eF := hL.tail.tail.tail.tail.tail.head;have x_g := hL.tail.tail.tail.tail.tail.tail.head;have x_D := hL.tail.tail.tail.tail.tail.tail.tail.head;have cS := qw eS;have cA := qw eA;have cE := qw eE;have v0 := qd 0 eV rfl;have v1 := qd 1 eV rfl;have v2 := qd 2 eV rfl;have v3 := qd 3 eV rfl;have v4 := qd 4 eV rfl;have zA := qf 0 eA;have zE := qf 0 eE
    by_cases hend : p = s.size
    ·have HP : Hid (qbf s.data.toList = .ok ⟨a, b, c, d, e, PP, []⟩) := by
      show _ = _;rw [HT.out, qqh (by rw [qft s p (by omega)]; simp), if_neg (by rw [qh]; omega)]; rfl
     have hlt : ¬ ((p : Int) < (s.size : Int)) := by omega
     clear hend;have r0 := qd 0 eR rfl;have r1 := qd 1 eR rfl;have r2 := qd 2 eR rfl;have r3 := qd 3 eR rfl;have r4 := qd 4 eR rfl;have f0 := qd 0 eF rfl;have f1 := qd 1 eF rfl;have z0 := qf 0 eR;have z1 := qf 1 eR;have z2 := qf 2 eR;have z3 := qf 3 eR;have z4 := qf 4 eR;have y0 := qf 0 eF;have y1 := qf 1 eF;rw [rounds_succ];go_wp2_with fail
     try rw [qcdz]
     obtain ⟨W9, hW9, gr, gf, hk, hbl⟩ := qdt (W := Wb) (B1 := w.heap.size + 1) (B2 := w.heap.size + 1 + 1) (by omega) (.string (s.extract 0 a)) (.string (s.extract b c)) (.string (s.extract d e)) (.slice (some ⟨g1, 0, none⟩) PP.length cap1) (.slice none 0 0) (.int .i64 0) (.int .i64 0) eR eF
     rw [← hW9];refine fin9 _ [D1] W9 w.heap.size (w.heap.size + 1) (w.heap.size + 1 + 1) _ _ _ _ _ _ _ ⟨_, _, _, rfl⟩ ⟨_, _, _, rfl⟩ rfl rfl gr gf (by simp) (by intro D hD; simp only [qcgw, qchc, or_false] at hD; rcases hD with rfl <;> exact ⟨by omega, (hk _ (by omega) (by omega)).trans (by assumption)⟩) ?_
     exact fun W' h => qtw (c := ⟨a, b, c, d, e, PP, []⟩) HP.out (hBW.trans (hbl _ (by omega) (by omega))) h (HO1.out _ _ ((hk g1 (by omega) (by omega)).trans x_g) (by omega)) (qchg _ _ _ _)
    ·have hlt : p < s.size := by omega
     clear hend;have hb1 : ((s[p].toNat : Int) == 45) = false := qfl (k := 45) (by omega) (hdash hlt)
     have hWs := hBW.size;have ls0 : w.heap.size < Wb.heap.size := by omega
     have ls1 : w.heap.size < Wb.heap.size + 1 := by omega
     have ls2 : w.heap.size < Wb.heap.size + 1 + 1 := by omega
     have lr0 : w.heap.size + 1 < Wb.heap.size := by omega
     have lr1 : w.heap.size + 1 < Wb.heap.size + 1 := by omega
     have lr2 : w.heap.size + 1 < Wb.heap.size + 1 + 1 := by omega
     have lf0 : w.heap.size + 1 + 1 < Wb.heap.size := by omega
     have lf1 : w.heap.size + 1 + 1 < Wb.heap.size + 1 := by omega
     have lf2 : w.heap.size + 1 + 1 < Wb.heap.size + 1 + 1 := by omega
     have lv0 : V < Wb.heap.size := by omega
     have lv1 : V < Wb.heap.size + 1 := by omega
     have lv2 : V < Wb.heap.size + 1 + 1 := by omega
     have la0 : V + 1 < Wb.heap.size := by omega
     have la1 : V + 1 < Wb.heap.size + 1 := by omega
     have la2 : V + 1 < Wb.heap.size + 1 + 1 := by omega
     have le0 : V + 1 + 1 < Wb.heap.size := by omega
     have le1 : V + 1 + 1 < Wb.heap.size + 1 := by omega
     have le2 : V + 1 + 1 < Wb.heap.size + 1 + 1 := by omega
     by_cases h43 : s[p] = 43
     ·have hb2 : ((s[p].toNat : Int) != 43) = false := by rw [h43]; rfl
      have H43 := qb (show s.data.toList[p]? = some 43 by rw [qdz s p hlt, h43])
      clear h43 hdash;rw [rounds_succ];(go_wp2_with fail);refine (qkw s _ _).mono ?_;rintro e' w2 ⟨rfl, hw2⟩;rw [hw2];clear hw2 w2;(go_wp2_with fail);have hLf := qwn Wb (.cells #[.bool false] 4) (.cells #[.pointer (some ⟨V, 4, none⟩)] 104) (.cells #[.string s] 9) (.cells #[.int .i64 ((p : Int) + 1)] 3) _ hL;have hBf := qsq w Wb (.cells #[.bool false] 4) (.cells #[.pointer (some ⟨V, 4, none⟩)] 104) (.cells #[.string s] 9) (.cells #[.int .i64 ((p : Int) + 1)] 3) hBW;have hLs := qbb.cons hLf.tail.tail.tail.tail.head (qbb.cons hLf.tail.tail.tail.tail.tail.head (qbb.cons hLf.tail.tail.tail.tail.tail.tail.head (qbb.cons hLf.head (qbb.cons hLf.tail.head (qbb.cons hLf.tail.tail.head (qbb.cons hLf.tail.tail.tail.head hLf.tail.tail.tail.tail.tail.tail.tail))))));have hbA : Boxed _ (Wb.heap.size + 1 + 1 + 1) 3 (.int .i64 ((p + 1 : Nat) : Int)) := hLf.tail.tail.tail.head;have hbS : Boxed _ (Wb.heap.size + 1 + 1) 9 (.string s) := hLf.tail.tail.head
      have hps : ∀ q ∈ (((Wb.heap.size, .cells #[.bool false] 4) :: (Wb.heap.size + 1, .cells #[.pointer (some ⟨V, 4, none⟩)] 104) :: (Wb.heap.size + 1 + 1, .cells #[.string s] 9) :: (Wb.heap.size + 1 + 1 + 1, .cells #[.int .i64 ((p : Int) + 1)] 3) :: (w.heap.size, .cells #[.string s] 9) :: (w.heap.size + 1, .cells #[.string ⟨#[]⟩, .string ⟨#[]⟩, .string ⟨#[]⟩, .slice none 0 0, .slice none 0 0] 33) :: (w.heap.size + 1 + 1, .cells #[.int .i64 0, .int .i64 0] 25) :: (g1, .cells cur1 9) :: (D1, .deferred (some [])) :: []) : List (Nat × Obj)), q.1 < (Wb.heap.size + 1 + 1 + 1 + 1) := fun q hq => by
       have := hLs.lt q (qcgq _ (qcgq _ (qcgq _ hq)));simpa only [qcgp] using this
      have hwX := hBW.size;have hpsV : ∀ q ∈ (((Wb.heap.size, .cells #[.bool false] 4) :: (Wb.heap.size + 1, .cells #[.pointer (some ⟨V, 4, none⟩)] 104) :: (Wb.heap.size + 1 + 1, .cells #[.string s] 9) :: (Wb.heap.size + 1 + 1 + 1, .cells #[.int .i64 ((p : Int) + 1)] 3) :: (w.heap.size, .cells #[.string s] 9) :: (w.heap.size + 1, .cells #[.string ⟨#[]⟩, .string ⟨#[]⟩, .string ⟨#[]⟩, .slice none 0 0, .slice none 0 0] 33) :: (w.heap.size + 1 + 1, .cells #[.int .i64 0, .int .i64 0] 25) :: (g1, .cells cur1 9) :: (D1, .deferred (some [])) :: []) : List (Nat × Obj)), q.1 ≠ V := by
       intro q hq;simp only [qcgw, qchc, or_false] at hq;rcases hq with rfl | rfl | rfl | rfl | rfl | rfl | rfl | rfl | rfl <;> simp only <;> omega
      have hps1 : ∀ q ∈ (((Wb.heap.size, .cells #[.bool false] 4) :: (Wb.heap.size + 1, .cells #[.pointer (some ⟨V, 4, none⟩)] 104) :: (Wb.heap.size + 1 + 1, .cells #[.string s] 9) :: (Wb.heap.size + 1 + 1 + 1, .cells #[.int .i64 ((p : Int) + 1)] 3) :: (w.heap.size, .cells #[.string s] 9) :: (w.heap.size + 1, .cells #[.string ⟨#[]⟩, .string ⟨#[]⟩, .string ⟨#[]⟩, .slice none 0 0, .slice none 0 0] 33) :: (w.heap.size + 1 + 1, .cells #[.int .i64 0, .int .i64 0] 25) :: (g1, .cells cur1 9) :: (D1, .deferred (some [])) :: []) : List (Nat × Obj)), q.1 ≠ V + 1 ∧ q.1 ≠ V + 1 + 1 := by
       intro q hq;simp only [qcgw, qchc, or_false] at hq;rcases hq with rfl | rfl | rfl | rfl | rfl | rfl | rfl | rfl | rfl <;> simp only <;> omega
      clear hLf;generalize hn0 : (Wb.heap.size + 1 + 1 + 1 + 1) = n₁ at *;refine (wpIn_wide (n := 5)).1 ?_;refine wpIn_rangeFunc_ownG rfl (by omega) (gf := 108) (lb := #[.pointer (some ⟨Wb.heap.size + 1 + 1 + 1, 0, none⟩), .pointer (some ⟨Wb.heap.size + 1 + 1, 0, none⟩)]) rfl trivial (enters_of Tryz.func108 (by kernel_rfl) rfl)
       (qwb 4 (by omega) (Wb.heap.size + 1 + 1 + 1) (Wb.heap.size + 1 + 1) s (p + 1) (by omega) (by omega) _ hbA hbS) Two.trans (two_b (by simp only [qcgp]; omega) (by simp only [qcgp]; omega)) (Below.refl _ _) (fun _ => rfl)
       (PI s w n₁ V ((Wb.heap.size, .cells #[.bool false] 4) :: (Wb.heap.size + 1, .cells #[.pointer (some ⟨V, 4, none⟩)] 104) :: (Wb.heap.size + 1 + 1, .cells #[.string s] 9) :: (Wb.heap.size + 1 + 1 + 1, .cells #[.int .i64 ((p : Int) + 1)] 3) :: (w.heap.size, .cells #[.string s] 9) :: (w.heap.size + 1, .cells #[.string ⟨#[]⟩, .string ⟨#[]⟩, .string ⟨#[]⟩, .slice none 0 0, .slice none 0 0] 33) :: (w.heap.size + 1 + 1, .cells #[.int .i64 0, .int .i64 0] 25) :: (g1, .cells cur1 9) :: (D1, .deferred (some [])) :: []) (fun v => #[.string (s.extract 0 a), .string (s.extract b c), .string (s.extract d e), (.slice (some ⟨g1, 0, none⟩) PP.length cap1), v]) false p)
       (PX s w n₁ V ((Wb.heap.size, .cells #[.bool false] 4) :: (Wb.heap.size + 1, .cells #[.pointer (some ⟨V, 4, none⟩)] 104) :: (Wb.heap.size + 1 + 1, .cells #[.string s] 9) :: (Wb.heap.size + 1 + 1 + 1, .cells #[.int .i64 ((p : Int) + 1)] 3) :: (w.heap.size, .cells #[.string s] 9) :: (w.heap.size + 1, .cells #[.string ⟨#[]⟩, .string ⟨#[]⟩, .string ⟨#[]⟩, .slice none 0 0, .slice none 0 0] 33) :: (w.heap.size + 1 + 1, .cells #[.int .i64 0, .int .i64 0] 25) :: (g1, .cells cur1 9) :: (D1, .deferred (some [])) :: []) (fun v => #[.string (s.extract 0 a), .string (s.extract b c), .string (s.extract d e), (.slice (some ⟨g1, 0, none⟩) PP.length cap1), v]) false 0)
       (fun pre A B row h hg hr => ⟨qvm s w _ V _ _ _ _ pre _ (by simp only [qcgp]; omega) (fun q hq => by have := hps q hq; simp only [qcgp]; omega) (by simp only [qcgp]; omega) A B row h.1 hg hr, h.2⟩)
       (fun c ys A B row h hg hr => by
        obtain ⟨hc, pre, x, e1, e2, e3, h4⟩ := h;exact ⟨hc, pre, x, e1, e2, e3, qvm s w _ V _ _ _ _ pre _ (by simp only [qcgp]; omega) (fun q hq => by have := hps q hq; simp only [qcgp]; omega) (by simp only [qcgp]; omega) A B row h4 hg hr⟩)
       ⟨⟨_, hLs, qchg _ _ _ _, hBf⟩, rfl⟩ ?a1_p2 ?assign_p2 ?body_p2 ?done_p2 ?stop_p2
      case assign_p2 =>
       intro l x W K hK;gi_wp2
       exact hK
      case body_p2 =>
       rintro lx pre x Wi ⟨⟨v, hLi, hrow, hB⟩, hbad⟩ hlen;obtain ⟨ao, cap, rfl⟩ := qlm hrow;have eV := hLi.head;have eA := hLi.tail.head;have eE := hLi.tail.tail.head;have eI := hLi.tail.tail.tail.head;have eL := hLi.tail.tail.tail.tail.head;have eS := hLi.tail.tail.tail.tail.tail.tail.tail.head;clear cS cA cE v0 v1 v2 v3 v4 zA zE;have cS := qw eS;have cI := qw eI;have cL := qw eL;have cA := qw eA;have cE := qw eE;have zA := qf 0 eA;have zE := qf 0 eE;have WC0 : ∀ w : QW, Calls Tryz.prog 74 #[.string s, .string (s.extract x.1 x.2), .int .i64 (x.2 : Int), .bool false] w fun r w' => r = .returned (.int .i64 (qbv false s.data.toList (seg s.data.toList x.1 x.2) x.2)) ∧ w' = w := fun w => by
        have := qvn s (s.extract x.1 x.2) x.2 false w (by unfold maxLen; omega) (by rw [qbx, qx]; unfold maxLen; simp [seg]; omega)
        rw [qfb] at this;exact this
       have hrowl : pre.length ≤ 70 := by have := qtr s.data.toList _ (p + 1) rfl; rw [qh] at this; omega
       by_cases hk0 : qbv false s.data.toList (seg s.data.toList x.1 x.2) x.2 = 0
       ·rw [hk0] at WC0;have WC := qb WC0;clear WC0;gi_wp2_with (refine ⟨trivial, ?_⟩; gi_at_call 74; refine (callsIn_wide.2 (WC.out _)).mono ?_; rintro e w' ⟨rfl, hw'⟩; rw [hw']; clear hw' w')
        obtain ⟨W1, hW1, hL1, hr1, hB1, hk1, h21, hs1⟩ := qlp (s := s) (cs := fun v => #[.string (s.extract 0 a), .string (s.extract b c), .string (s.extract d e), (.slice (some ⟨g1, 0, none⟩) PP.length cap1), v]) (v := .slice ao pre.length cap) (x.2 : Int) 0 (Wb.heap.size + 1 + 1 + 1) (Wb.heap.size + 1 + 1) (by omega) (by omega) hps1 (by omega) (by omega) hLi hrow hB
        have hn1 : n₁ ≤ W1.drew.heap.size := by show n₁ ≤ W1.heap.size; rw [hs1]; have := hLi.lt _ (qcgq _ (qcgq _ (qcgq _ (qcgq _ (qcgq _ (qcgq _ qchd)))))); simp only at this; omega
        rw [← hW1];refine wpIn_region_any (by kernel_rfl) ?_
        refine qgs (F := Fence.wide) rfl ?hd_p2 _ _ _ _ ?_
        case hd_p2 => exact qml (by kernel_rfl)
        change wpAnyIn _ _ _ _ _ _ _ _ _ (World.drew _)
        clear hW1;replace hL1 : qbb W1.drew _ := hL1;replace hr1 := hr1.drew;replace hB1 := hB1.drew;replace hk1 := hk1.trans (KeepsOthers.drew W1);replace h21 : Two (Wb.heap.size + 1 + 1 + 1) (Wb.heap.size + 1 + 1) Wi W1.drew := h21;clear hs1;generalize W1.drew = W2 at *;have cL2 := qw hL1.tail.tail.tail.tail.head;have cV2 := qd 4 hL1.head rfl;have cLa : ∀ o : Obj, (W2.alloc o).cell? ⟨Wb.heap.size + 1, 0, none⟩ = some (.pointer (some ⟨V, 4, none⟩)) := fun o => qw (hL1.alloc o).tail.tail.tail.tail.head;have cVa : ∀ o : Obj, (W2.alloc o).cell? ⟨V, 4, none⟩ = some (.slice ao pre.length cap) := fun o => qd 4 (hL1.alloc o).head rfl;have hq3 : ∀ q ∈ ((V, Obj.cells ((fun v => #[.string (s.extract 0 a), .string (s.extract b c), .string (s.extract d e), (.slice (some ⟨g1, 0, none⟩) PP.length cap1), v]) (.slice ao pre.length cap)) 33 (0, 0)) :: (V + 1, .cells #[.int .i64 (x.2 : Int)] 3 (0, 0)) :: (V + 1 + 1, .cells #[.int .i64 0] 23 (0, 0)) :: ((Wb.heap.size, .cells #[.bool false] 4) :: (Wb.heap.size + 1, .cells #[.pointer (some ⟨V, 4, none⟩)] 104) :: (Wb.heap.size + 1 + 1, .cells #[.string s] 9) :: (Wb.heap.size + 1 + 1 + 1, .cells #[.int .i64 ((p : Int) + 1)] 3) :: (w.heap.size, .cells #[.string s] 9) :: (w.heap.size + 1, .cells #[.string ⟨#[]⟩, .string ⟨#[]⟩, .string ⟨#[]⟩, .slice none 0 0, .slice none 0 0] 33) :: (w.heap.size + 1 + 1, .cells #[.int .i64 0, .int .i64 0] 25) :: (g1, .cells cur1 9) :: (D1, .deferred (some [])) :: [])), q.1 < n₁ := by
         intro q hq;rcases qcgw.1 hq with rfl | hq
         ·show V < n₁; omega
         rcases qcgw.1 hq with rfl | hq
         ·show V + 1 < n₁; omega
         rcases qcgw.1 hq with rfl | hq
         ·show V + 1 + 1 < n₁; omega
         exact hps q hq
        have HCL : Hid (∀ (tmp : Obj) (w1 : QW), (W2.alloc tmp).grownBy w1 (Value.slice ao pre.length cap).ownBlock → w1.cell? ⟨Wb.heap.size + 1, 0, none⟩ = some (.pointer (some ⟨V, 4, none⟩)) ∧ w1.cell? ⟨V, 4, none⟩ = some (.slice ao pre.length cap) ∧ w1.frozen? ⟨V, 4, none⟩ = false) := fun tmp w1 hg => by
         have h := qqd hL1 hq3 hr1 hg;exact ⟨qw h.tail.tail.tail.tail.head, qd 4 h.head rfl, qf 4 h.head⟩
        have FIN := qb (fun (g' cap' : Nat) (tmp : Obj) (w1 : QW) hown' hgrow (B : Nat) => qbcd (g' := g') (cap' := cap') (tmp := tmp) (w1 := w1) (z := p) (off := 4) (cs := fun v => #[.string (s.extract 0 a), .string (s.extract b c), .string (s.extract d e), (.slice (some ⟨g1, 0, none⟩) PP.length cap1), v]) (by omega) (fun q hq => ⟨hps q hq, hpsV q hq⟩) (by omega) (by omega) (by omega) (fun u => rfl) hn1 hL1 hr1 hB1 hk1 h21 hbad hk0 hown' hgrow B)
        clear cS cI cL cA cE zA zE eV eA eE eI eL eS hLi hrow hB;refine wpAnyIn_take (i := 4) (v := ?_) rfl rfl (by kernel_rfl) (by kernel_rfl) (by kernel_rfl) (fun _ _ _ h => h) ⟨Or.inl ⟨by rfl, ?_⟩, fun _ => rfl⟩ ?_
        rotate_left
        ·intro w; go_simp
         try with_reducible rfl
        refine wpAnyIn_ready (rs := [0, 1, 5]) (by kernel_rfl) (by simp) ?_
        refine qcgh rfl (fun K hK => ?_) ?_
        ·go_simp
         refine hK _ _ ?_;clear hK K;refine wpAnyIn_ready (rs := [1, 5]) (by kernel_rfl) (by simp) ?_
         refine qcgh rfl (fun K hK => ?_) ?_
         ·go_simp
          refine hK _ _ ?_;clear hK K;refine wpAnyIn_take (i := 2) (v := ?_) rfl rfl (by kernel_rfl) (by kernel_rfl) (by kernel_rfl) (fun _ _ _ h => h) ⟨Or.inl ⟨by rfl, ?_⟩, fun _ => rfl⟩ ?_
          rotate_left
          ·intro w; go_simp
           try with_reducible rfl
          refine wpAnyIn_ready (rs := [3, 5]) (by kernel_rfl) (by simp) ?_
          refine qcgh rfl (fun K hK => ?_) ?_
          ·go_simp
           refine hK _ _ ?_;clear hK K;refine wpAnyIn_ready (rs := [5]) (by kernel_rfl) (by simp) ?_
           refine qcgh rfl (fun K hK => ?_) ?_
           ·go_simp
            refine hK _ _ ?_;clear hK K;refine wpAnyIn_ready (rs := [6]) (by kernel_rfl) (by simp) ?_
            refine qcgh rfl (fun K hK => ?_) ?_
            ·refine qk rfl _ _ 31 rfl n₁ 9 i0 (.string .empty) 1 16 Tryz.underlying31 hi hz0 hz1 hz2 rfl (by decide) _ _ _ rfl (hr1.alloc _) ⟨W2.heap.size, 0, none⟩ 1 1 [.string (s.extract x.1 x.2)] rfl rfl (qm _ _ _) (qbg _) (by unfold maxLen; omega) (by omega) (by simp; omega) ?_
             intro v' w1 hown' hgrow _;obtain ⟨g', cap', rfl⟩ := ownsRow_succ hown';obtain ⟨hc1, hc2, hf2⟩ := HCL.out _ _ hgrow;refine hK _ _ ?_;clear hK K;refine wpAnyIn_take (i := 7) (v := ?_) rfl rfl (by kernel_rfl) (by kernel_rfl) (by kernel_rfl) (fun _ _ _ h => h) ⟨Or.inl ⟨by rfl, ?_⟩, fun _ => rfl⟩ ?_
             rotate_left
             ·intro w; go_simp
              try with_reducible rfl
             refine wpAnyIn_ready (rs := [8]) (by kernel_rfl) (by simp) ?_
             refine qcgh rfl (fun K hK => ?_) ?_
             ·go_simp
              refine hK _ _ ?_;clear hK K;refine wpAnyIn_done (by kernel_rfl) ?_ _
              exact FIN.out _ _ _ _ hown' hgrow _
             exact qcgk
            exact qcgk
           exact qcgk
          refine qcgh rfl (fun K hK => ?_) ?_
          ·go_simp
           refine hK _ _ ?_;clear hK K;refine wpAnyIn_ready (rs := [3]) (by kernel_rfl) (by simp) ?_
           refine qcgh rfl (fun K hK => ?_) ?_
           ·go_simp
            refine hK _ _ ?_;clear hK K;refine wpAnyIn_ready (rs := [6]) (by kernel_rfl) (by simp) ?_
            refine qcgh rfl (fun K hK => ?_) ?_
            ·refine qk rfl _ _ 31 rfl n₁ 9 i0 (.string .empty) 1 16 Tryz.underlying31 hi hz0 hz1 hz2 rfl (by decide) _ _ _ rfl (hr1.alloc _) ⟨W2.heap.size, 0, none⟩ 1 1 [.string (s.extract x.1 x.2)] rfl rfl (qm _ _ _) (qbg _) (by unfold maxLen; omega) (by omega) (by simp; omega) ?_
             intro v' w1 hown' hgrow _;obtain ⟨g', cap', rfl⟩ := ownsRow_succ hown';obtain ⟨hc1, hc2, hf2⟩ := HCL.out _ _ hgrow;refine hK _ _ ?_;clear hK K;refine wpAnyIn_take (i := 7) (v := ?_) rfl rfl (by kernel_rfl) (by kernel_rfl) (by kernel_rfl) (fun _ _ _ h => h) ⟨Or.inl ⟨by rfl, ?_⟩, fun _ => rfl⟩ ?_
             rotate_left
             ·intro w; go_simp
              try with_reducible rfl
             refine wpAnyIn_ready (rs := [8]) (by kernel_rfl) (by simp) ?_
             refine qcgh rfl (fun K hK => ?_) ?_
             ·go_simp
              refine hK _ _ ?_;clear hK K;refine wpAnyIn_done (by kernel_rfl) ?_ _
              exact FIN.out _ _ _ _ hown' hgrow _
             exact qcgk
            exact qcgk
           exact qcgk
          exact qcgk
         refine qcgh rfl (fun K hK => ?_) ?_
         ·go_simp
          refine hK _ _ ?_;clear hK K;refine wpAnyIn_ready (rs := [1]) (by kernel_rfl) (by simp) ?_
          refine qcgh rfl (fun K hK => ?_) ?_
          ·go_simp
           refine hK _ _ ?_;clear hK K;refine wpAnyIn_take (i := 2) (v := ?_) rfl rfl (by kernel_rfl) (by kernel_rfl) (by kernel_rfl) (fun _ _ _ h => h) ⟨Or.inl ⟨by rfl, ?_⟩, fun _ => rfl⟩ ?_
           rotate_left
           ·intro w; go_simp
            try with_reducible rfl
           refine wpAnyIn_ready (rs := [3]) (by kernel_rfl) (by simp) ?_
           refine qcgh rfl (fun K hK => ?_) ?_
           ·go_simp
            refine hK _ _ ?_;clear hK K;refine wpAnyIn_ready (rs := [6]) (by kernel_rfl) (by simp) ?_
            refine qcgh rfl (fun K hK => ?_) ?_
            ·refine qk rfl _ _ 31 rfl n₁ 9 i0 (.string .empty) 1 16 Tryz.underlying31 hi hz0 hz1 hz2 rfl (by decide) _ _ _ rfl (hr1.alloc _) ⟨W2.heap.size, 0, none⟩ 1 1 [.string (s.extract x.1 x.2)] rfl rfl (qm _ _ _) (qbg _) (by unfold maxLen; omega) (by omega) (by simp; omega) ?_
             intro v' w1 hown' hgrow _;obtain ⟨g', cap', rfl⟩ := ownsRow_succ hown';obtain ⟨hc1, hc2, hf2⟩ := HCL.out _ _ hgrow;refine hK _ _ ?_;clear hK K;refine wpAnyIn_take (i := 7) (v := ?_) rfl rfl (by kernel_rfl) (by kernel_rfl) (by kernel_rfl) (fun _ _ _ h => h) ⟨Or.inl ⟨by rfl, ?_⟩, fun _ => rfl⟩ ?_
             rotate_left
             ·intro w; go_simp
              try with_reducible rfl
             refine wpAnyIn_ready (rs := [8]) (by kernel_rfl) (by simp) ?_
             refine qcgh rfl (fun K hK => ?_) ?_
             ·go_simp
              refine hK _ _ ?_;clear hK K;refine wpAnyIn_done (by kernel_rfl) ?_ _
              exact FIN.out _ _ _ _ hown' hgrow _
             exact qcgk
            exact qcgk
           exact qcgk
          exact qcgk
         exact qcgk
        refine qcgh rfl (fun K hK => ?_) ?_
        ·go_simp
         refine hK _ _ ?_;clear hK K;refine wpAnyIn_take (i := 2) (v := ?_) rfl rfl (by kernel_rfl) (by kernel_rfl) (by kernel_rfl) (fun _ _ _ h => h) ⟨Or.inl ⟨by rfl, ?_⟩, fun _ => rfl⟩ ?_
         rotate_left
         ·intro w; go_simp
          try with_reducible rfl
         refine wpAnyIn_ready (rs := [0, 3, 5]) (by kernel_rfl) (by simp) ?_
         refine qcgh rfl (fun K hK => ?_) ?_
         ·go_simp
          refine hK _ _ ?_;clear hK K;refine wpAnyIn_ready (rs := [3, 5]) (by kernel_rfl) (by simp) ?_
          refine qcgh rfl (fun K hK => ?_) ?_
          ·go_simp
           refine hK _ _ ?_;clear hK K;refine wpAnyIn_ready (rs := [5]) (by kernel_rfl) (by simp) ?_
           refine qcgh rfl (fun K hK => ?_) ?_
           ·go_simp
            refine hK _ _ ?_;clear hK K;refine wpAnyIn_ready (rs := [6]) (by kernel_rfl) (by simp) ?_
            refine qcgh rfl (fun K hK => ?_) ?_
            ·refine qk rfl _ _ 31 rfl n₁ 9 i0 (.string .empty) 1 16 Tryz.underlying31 hi hz0 hz1 hz2 rfl (by decide) _ _ _ rfl (hr1.alloc _) ⟨W2.heap.size, 0, none⟩ 1 1 [.string (s.extract x.1 x.2)] rfl rfl (qm _ _ _) (qbg _) (by unfold maxLen; omega) (by omega) (by simp; omega) ?_
             intro v' w1 hown' hgrow _;obtain ⟨g', cap', rfl⟩ := ownsRow_succ hown';obtain ⟨hc1, hc2, hf2⟩ := HCL.out _ _ hgrow;refine hK _ _ ?_;clear hK K;refine wpAnyIn_take (i := 7) (v := ?_) rfl rfl (by kernel_rfl) (by kernel_rfl) (by kernel_rfl) (fun _ _ _ h => h) ⟨Or.inl ⟨by rfl, ?_⟩, fun _ => rfl⟩ ?_
             rotate_left
             ·intro w; go_simp
              try with_reducible rfl
             refine wpAnyIn_ready (rs := [8]) (by kernel_rfl) (by simp) ?_
             refine qcgh rfl (fun K hK => ?_) ?_
             ·go_simp
              refine hK _ _ ?_;clear hK K;refine wpAnyIn_done (by kernel_rfl) ?_ _
              exact FIN.out _ _ _ _ hown' hgrow _
             exact qcgk
            exact qcgk
           exact qcgk
          refine qcgh rfl (fun K hK => ?_) ?_
          ·go_simp
           refine hK _ _ ?_;clear hK K;refine wpAnyIn_ready (rs := [3]) (by kernel_rfl) (by simp) ?_
           refine qcgh rfl (fun K hK => ?_) ?_
           ·go_simp
            refine hK _ _ ?_;clear hK K;refine wpAnyIn_ready (rs := [6]) (by kernel_rfl) (by simp) ?_
            refine qcgh rfl (fun K hK => ?_) ?_
            ·refine qk rfl _ _ 31 rfl n₁ 9 i0 (.string .empty) 1 16 Tryz.underlying31 hi hz0 hz1 hz2 rfl (by decide) _ _ _ rfl (hr1.alloc _) ⟨W2.heap.size, 0, none⟩ 1 1 [.string (s.extract x.1 x.2)] rfl rfl (qm _ _ _) (qbg _) (by unfold maxLen; omega) (by omega) (by simp; omega) ?_
             intro v' w1 hown' hgrow _;obtain ⟨g', cap', rfl⟩ := ownsRow_succ hown';obtain ⟨hc1, hc2, hf2⟩ := HCL.out _ _ hgrow;refine hK _ _ ?_;clear hK K;refine wpAnyIn_take (i := 7) (v := ?_) rfl rfl (by kernel_rfl) (by kernel_rfl) (by kernel_rfl) (fun _ _ _ h => h) ⟨Or.inl ⟨by rfl, ?_⟩, fun _ => rfl⟩ ?_
             rotate_left
             ·intro w; go_simp
              try with_reducible rfl
             refine wpAnyIn_ready (rs := [8]) (by kernel_rfl) (by simp) ?_
             refine qcgh rfl (fun K hK => ?_) ?_
             ·go_simp
              refine hK _ _ ?_;clear hK K;refine wpAnyIn_done (by kernel_rfl) ?_ _
              exact FIN.out _ _ _ _ hown' hgrow _
             exact qcgk
            exact qcgk
           exact qcgk
          exact qcgk
         refine qcgh rfl (fun K hK => ?_) ?_
         ·go_simp
          refine hK _ _ ?_;clear hK K;refine wpAnyIn_ready (rs := [0, 5]) (by kernel_rfl) (by simp) ?_
          refine qcgh rfl (fun K hK => ?_) ?_
          ·go_simp
           refine hK _ _ ?_;clear hK K;refine wpAnyIn_ready (rs := [5]) (by kernel_rfl) (by simp) ?_
           refine qcgh rfl (fun K hK => ?_) ?_
           ·go_simp
            refine hK _ _ ?_;clear hK K;refine wpAnyIn_ready (rs := [6]) (by kernel_rfl) (by simp) ?_
            refine qcgh rfl (fun K hK => ?_) ?_
            ·refine qk rfl _ _ 31 rfl n₁ 9 i0 (.string .empty) 1 16 Tryz.underlying31 hi hz0 hz1 hz2 rfl (by decide) _ _ _ rfl (hr1.alloc _) ⟨W2.heap.size, 0, none⟩ 1 1 [.string (s.extract x.1 x.2)] rfl rfl (qm _ _ _) (qbg _) (by unfold maxLen; omega) (by omega) (by simp; omega) ?_
             intro v' w1 hown' hgrow _;obtain ⟨g', cap', rfl⟩ := ownsRow_succ hown';obtain ⟨hc1, hc2, hf2⟩ := HCL.out _ _ hgrow;refine hK _ _ ?_;clear hK K;refine wpAnyIn_take (i := 7) (v := ?_) rfl rfl (by kernel_rfl) (by kernel_rfl) (by kernel_rfl) (fun _ _ _ h => h) ⟨Or.inl ⟨by rfl, ?_⟩, fun _ => rfl⟩ ?_
             rotate_left
             ·intro w; go_simp
              try with_reducible rfl
             refine wpAnyIn_ready (rs := [8]) (by kernel_rfl) (by simp) ?_
             refine qcgh rfl (fun K hK => ?_) ?_
             ·go_simp
              refine hK _ _ ?_;clear hK K;refine wpAnyIn_done (by kernel_rfl) ?_ _
              exact FIN.out _ _ _ _ hown' hgrow _
             exact qcgk
            exact qcgk
           exact qcgk
          refine qcgh rfl (fun K hK => ?_) ?_
          ·go_simp
           refine hK _ _ ?_;clear hK K;refine wpAnyIn_ready (rs := [0, 6]) (by kernel_rfl) (by simp) ?_
           refine qcgh rfl (fun K hK => ?_) ?_
           ·go_simp
            refine hK _ _ ?_;clear hK K;refine wpAnyIn_ready (rs := [6]) (by kernel_rfl) (by simp) ?_
            refine qcgh rfl (fun K hK => ?_) ?_
            ·refine qk rfl _ _ 31 rfl n₁ 9 i0 (.string .empty) 1 16 Tryz.underlying31 hi hz0 hz1 hz2 rfl (by decide) _ _ _ rfl (hr1.alloc _) ⟨W2.heap.size, 0, none⟩ 1 1 [.string (s.extract x.1 x.2)] rfl rfl (qm _ _ _) (qbg _) (by unfold maxLen; omega) (by omega) (by simp; omega) ?_
             intro v' w1 hown' hgrow _;obtain ⟨g', cap', rfl⟩ := ownsRow_succ hown';obtain ⟨hc1, hc2, hf2⟩ := HCL.out _ _ hgrow;refine hK _ _ ?_;clear hK K;refine wpAnyIn_take (i := 7) (v := ?_) rfl rfl (by kernel_rfl) (by kernel_rfl) (by kernel_rfl) (fun _ _ _ h => h) ⟨Or.inl ⟨by rfl, ?_⟩, fun _ => rfl⟩ ?_
             rotate_left
             ·intro w; go_simp
              try with_reducible rfl
             refine wpAnyIn_ready (rs := [8]) (by kernel_rfl) (by simp) ?_
             refine qcgh rfl (fun K hK => ?_) ?_
             ·go_simp
              refine hK _ _ ?_;clear hK K;refine wpAnyIn_done (by kernel_rfl) ?_ _
              exact FIN.out _ _ _ _ hown' hgrow _
             exact qcgk
            exact qcgk
           refine qcgh rfl (fun K hK => ?_) ?_
           ·refine qk rfl _ _ 31 rfl n₁ 9 i0 (.string .empty) 1 16 Tryz.underlying31 hi hz0 hz1 hz2 rfl (by decide) _ _ _ rfl (hr1.alloc _) ⟨W2.heap.size, 0, none⟩ 1 1 [.string (s.extract x.1 x.2)] rfl rfl (qm _ _ _) (qbg _) (by unfold maxLen; omega) (by omega) (by simp; omega) ?_
            intro v' w1 hown' hgrow _;obtain ⟨g', cap', rfl⟩ := ownsRow_succ hown';obtain ⟨hc1, hc2, hf2⟩ := HCL.out _ _ hgrow;refine hK _ _ ?_;clear hK K;refine wpAnyIn_ready (rs := [0]) (by kernel_rfl) (by simp) ?_
            refine qcgh rfl (fun K hK => ?_) ?_
            ·go_simp
             refine hK _ _ ?_;clear hK K;refine wpAnyIn_take (i := 7) (v := ?_) rfl rfl (by kernel_rfl) (by kernel_rfl) (by kernel_rfl) (fun _ _ _ h => h) ⟨Or.inl ⟨by rfl, ?_⟩, fun _ => rfl⟩ ?_
             rotate_left
             ·intro w; go_simp
              try with_reducible rfl
             refine wpAnyIn_ready (rs := [8]) (by kernel_rfl) (by simp) ?_
             refine qcgh rfl (fun K hK => ?_) ?_
             ·go_simp
              refine hK _ _ ?_;clear hK K;refine wpAnyIn_done (by kernel_rfl) ?_ _
              exact FIN.out _ _ _ _ hown' hgrow _
             exact qcgk
            exact qcgk
           exact qcgk
          exact qcgk
         refine qcgh rfl (fun K hK => ?_) ?_
         ·go_simp
          refine hK _ _ ?_;clear hK K;refine wpAnyIn_ready (rs := [0, 3]) (by kernel_rfl) (by simp) ?_
          refine qcgh rfl (fun K hK => ?_) ?_
          ·go_simp
           refine hK _ _ ?_;clear hK K;refine wpAnyIn_ready (rs := [3]) (by kernel_rfl) (by simp) ?_
           refine qcgh rfl (fun K hK => ?_) ?_
           ·go_simp
            refine hK _ _ ?_;clear hK K;refine wpAnyIn_ready (rs := [6]) (by kernel_rfl) (by simp) ?_
            refine qcgh rfl (fun K hK => ?_) ?_
            ·refine qk rfl _ _ 31 rfl n₁ 9 i0 (.string .empty) 1 16 Tryz.underlying31 hi hz0 hz1 hz2 rfl (by decide) _ _ _ rfl (hr1.alloc _) ⟨W2.heap.size, 0, none⟩ 1 1 [.string (s.extract x.1 x.2)] rfl rfl (qm _ _ _) (qbg _) (by unfold maxLen; omega) (by omega) (by simp; omega) ?_
             intro v' w1 hown' hgrow _;obtain ⟨g', cap', rfl⟩ := ownsRow_succ hown';obtain ⟨hc1, hc2, hf2⟩ := HCL.out _ _ hgrow;refine hK _ _ ?_;clear hK K;refine wpAnyIn_take (i := 7) (v := ?_) rfl rfl (by kernel_rfl) (by kernel_rfl) (by kernel_rfl) (fun _ _ _ h => h) ⟨Or.inl ⟨by rfl, ?_⟩, fun _ => rfl⟩ ?_
             rotate_left
             ·intro w; go_simp
              try with_reducible rfl
             refine wpAnyIn_ready (rs := [8]) (by kernel_rfl) (by simp) ?_
             refine qcgh rfl (fun K hK => ?_) ?_
             ·go_simp
              refine hK _ _ ?_;clear hK K;refine wpAnyIn_done (by kernel_rfl) ?_ _
              exact FIN.out _ _ _ _ hown' hgrow _
             exact qcgk
            exact qcgk
           exact qcgk
          refine qcgh rfl (fun K hK => ?_) ?_
          ·go_simp
           refine hK _ _ ?_;clear hK K;refine wpAnyIn_ready (rs := [0, 6]) (by kernel_rfl) (by simp) ?_
           refine qcgh rfl (fun K hK => ?_) ?_
           ·go_simp
            refine hK _ _ ?_;clear hK K;refine wpAnyIn_ready (rs := [6]) (by kernel_rfl) (by simp) ?_
            refine qcgh rfl (fun K hK => ?_) ?_
            ·refine qk rfl _ _ 31 rfl n₁ 9 i0 (.string .empty) 1 16 Tryz.underlying31 hi hz0 hz1 hz2 rfl (by decide) _ _ _ rfl (hr1.alloc _) ⟨W2.heap.size, 0, none⟩ 1 1 [.string (s.extract x.1 x.2)] rfl rfl (qm _ _ _) (qbg _) (by unfold maxLen; omega) (by omega) (by simp; omega) ?_
             intro v' w1 hown' hgrow _;obtain ⟨g', cap', rfl⟩ := ownsRow_succ hown';obtain ⟨hc1, hc2, hf2⟩ := HCL.out _ _ hgrow;refine hK _ _ ?_;clear hK K;refine wpAnyIn_take (i := 7) (v := ?_) rfl rfl (by kernel_rfl) (by kernel_rfl) (by kernel_rfl) (fun _ _ _ h => h) ⟨Or.inl ⟨by rfl, ?_⟩, fun _ => rfl⟩ ?_
             rotate_left
             ·intro w; go_simp
              try with_reducible rfl
             refine wpAnyIn_ready (rs := [8]) (by kernel_rfl) (by simp) ?_
             refine qcgh rfl (fun K hK => ?_) ?_
             ·go_simp
              refine hK _ _ ?_;clear hK K;refine wpAnyIn_done (by kernel_rfl) ?_ _
              exact FIN.out _ _ _ _ hown' hgrow _
             exact qcgk
            exact qcgk
           refine qcgh rfl (fun K hK => ?_) ?_
           ·refine qk rfl _ _ 31 rfl n₁ 9 i0 (.string .empty) 1 16 Tryz.underlying31 hi hz0 hz1 hz2 rfl (by decide) _ _ _ rfl (hr1.alloc _) ⟨W2.heap.size, 0, none⟩ 1 1 [.string (s.extract x.1 x.2)] rfl rfl (qm _ _ _) (qbg _) (by unfold maxLen; omega) (by omega) (by simp; omega) ?_
            intro v' w1 hown' hgrow _;obtain ⟨g', cap', rfl⟩ := ownsRow_succ hown';obtain ⟨hc1, hc2, hf2⟩ := HCL.out _ _ hgrow;refine hK _ _ ?_;clear hK K;refine wpAnyIn_ready (rs := [0]) (by kernel_rfl) (by simp) ?_
            refine qcgh rfl (fun K hK => ?_) ?_
            ·go_simp
             refine hK _ _ ?_;clear hK K;refine wpAnyIn_take (i := 7) (v := ?_) rfl rfl (by kernel_rfl) (by kernel_rfl) (by kernel_rfl) (fun _ _ _ h => h) ⟨Or.inl ⟨by rfl, ?_⟩, fun _ => rfl⟩ ?_
             rotate_left
             ·intro w; go_simp
              try with_reducible rfl
             refine wpAnyIn_ready (rs := [8]) (by kernel_rfl) (by simp) ?_
             refine qcgh rfl (fun K hK => ?_) ?_
             ·go_simp
              refine hK _ _ ?_;clear hK K;refine wpAnyIn_done (by kernel_rfl) ?_ _
              exact FIN.out _ _ _ _ hown' hgrow _
             exact qcgk
            exact qcgk
           exact qcgk
          exact qcgk
         exact qcgk
        refine qcgh rfl (fun K hK => ?_) ?_
        ·go_simp
         refine hK _ _ ?_;clear hK K;refine wpAnyIn_ready (rs := [0, 1]) (by kernel_rfl) (by simp) ?_
         refine qcgh rfl (fun K hK => ?_) ?_
         ·go_simp
          refine hK _ _ ?_;clear hK K;refine wpAnyIn_ready (rs := [1]) (by kernel_rfl) (by simp) ?_
          refine qcgh rfl (fun K hK => ?_) ?_
          ·go_simp
           refine hK _ _ ?_;clear hK K;refine wpAnyIn_take (i := 2) (v := ?_) rfl rfl (by kernel_rfl) (by kernel_rfl) (by kernel_rfl) (fun _ _ _ h => h) ⟨Or.inl ⟨by rfl, ?_⟩, fun _ => rfl⟩ ?_
           rotate_left
           ·intro w; go_simp
            try with_reducible rfl
           refine wpAnyIn_ready (rs := [3]) (by kernel_rfl) (by simp) ?_
           refine qcgh rfl (fun K hK => ?_) ?_
           ·go_simp
            refine hK _ _ ?_;clear hK K;refine wpAnyIn_ready (rs := [6]) (by kernel_rfl) (by simp) ?_
            refine qcgh rfl (fun K hK => ?_) ?_
            ·refine qk rfl _ _ 31 rfl n₁ 9 i0 (.string .empty) 1 16 Tryz.underlying31 hi hz0 hz1 hz2 rfl (by decide) _ _ _ rfl (hr1.alloc _) ⟨W2.heap.size, 0, none⟩ 1 1 [.string (s.extract x.1 x.2)] rfl rfl (qm _ _ _) (qbg _) (by unfold maxLen; omega) (by omega) (by simp; omega) ?_
             intro v' w1 hown' hgrow _;obtain ⟨g', cap', rfl⟩ := ownsRow_succ hown';obtain ⟨hc1, hc2, hf2⟩ := HCL.out _ _ hgrow;refine hK _ _ ?_;clear hK K;refine wpAnyIn_take (i := 7) (v := ?_) rfl rfl (by kernel_rfl) (by kernel_rfl) (by kernel_rfl) (fun _ _ _ h => h) ⟨Or.inl ⟨by rfl, ?_⟩, fun _ => rfl⟩ ?_
             rotate_left
             ·intro w; go_simp
              try with_reducible rfl
             refine wpAnyIn_ready (rs := [8]) (by kernel_rfl) (by simp) ?_
             refine qcgh rfl (fun K hK => ?_) ?_
             ·go_simp
              refine hK _ _ ?_;clear hK K;refine wpAnyIn_done (by kernel_rfl) ?_ _
              exact FIN.out _ _ _ _ hown' hgrow _
             exact qcgk
            exact qcgk
           exact qcgk
          exact qcgk
         refine qcgh rfl (fun K hK => ?_) ?_
         ·go_simp
          refine hK _ _ ?_;clear hK K;refine wpAnyIn_take (i := 2) (v := ?_) rfl rfl (by kernel_rfl) (by kernel_rfl) (by kernel_rfl) (fun _ _ _ h => h) ⟨Or.inl ⟨by rfl, ?_⟩, fun _ => rfl⟩ ?_
          rotate_left
          ·intro w; go_simp
           try with_reducible rfl
          refine wpAnyIn_ready (rs := [0, 3]) (by kernel_rfl) (by simp) ?_
          refine qcgh rfl (fun K hK => ?_) ?_
          ·go_simp
           refine hK _ _ ?_;clear hK K;refine wpAnyIn_ready (rs := [3]) (by kernel_rfl) (by simp) ?_
           refine qcgh rfl (fun K hK => ?_) ?_
           ·go_simp
            refine hK _ _ ?_;clear hK K;refine wpAnyIn_ready (rs := [6]) (by kernel_rfl) (by simp) ?_
            refine qcgh rfl (fun K hK => ?_) ?_
            ·refine qk rfl _ _ 31 rfl n₁ 9 i0 (.string .empty) 1 16 Tryz.underlying31 hi hz0 hz1 hz2 rfl (by decide) _ _ _ rfl (hr1.alloc _) ⟨W2.heap.size, 0, none⟩ 1 1 [.string (s.extract x.1 x.2)] rfl rfl (qm _ _ _) (qbg _) (by unfold maxLen; omega) (by omega) (by simp; omega) ?_
             intro v' w1 hown' hgrow _;obtain ⟨g', cap', rfl⟩ := ownsRow_succ hown';obtain ⟨hc1, hc2, hf2⟩ := HCL.out _ _ hgrow;refine hK _ _ ?_;clear hK K;refine wpAnyIn_take (i := 7) (v := ?_) rfl rfl (by kernel_rfl) (by kernel_rfl) (by kernel_rfl) (fun _ _ _ h => h) ⟨Or.inl ⟨by rfl, ?_⟩, fun _ => rfl⟩ ?_
             rotate_left
             ·intro w; go_simp
              try with_reducible rfl
             refine wpAnyIn_ready (rs := [8]) (by kernel_rfl) (by simp) ?_
             refine qcgh rfl (fun K hK => ?_) ?_
             ·go_simp
              refine hK _ _ ?_;clear hK K;refine wpAnyIn_done (by kernel_rfl) ?_ _
              exact FIN.out _ _ _ _ hown' hgrow _
             exact qcgk
            exact qcgk
           exact qcgk
          refine qcgh rfl (fun K hK => ?_) ?_
          ·go_simp
           refine hK _ _ ?_;clear hK K;refine wpAnyIn_ready (rs := [0, 6]) (by kernel_rfl) (by simp) ?_
           refine qcgh rfl (fun K hK => ?_) ?_
           ·go_simp
            refine hK _ _ ?_;clear hK K;refine wpAnyIn_ready (rs := [6]) (by kernel_rfl) (by simp) ?_
            refine qcgh rfl (fun K hK => ?_) ?_
            ·refine qk rfl _ _ 31 rfl n₁ 9 i0 (.string .empty) 1 16 Tryz.underlying31 hi hz0 hz1 hz2 rfl (by decide) _ _ _ rfl (hr1.alloc _) ⟨W2.heap.size, 0, none⟩ 1 1 [.string (s.extract x.1 x.2)] rfl rfl (qm _ _ _) (qbg _) (by unfold maxLen; omega) (by omega) (by simp; omega) ?_
             intro v' w1 hown' hgrow _;obtain ⟨g', cap', rfl⟩ := ownsRow_succ hown';obtain ⟨hc1, hc2, hf2⟩ := HCL.out _ _ hgrow;refine hK _ _ ?_;clear hK K;refine wpAnyIn_take (i := 7) (v := ?_) rfl rfl (by kernel_rfl) (by kernel_rfl) (by kernel_rfl) (fun _ _ _ h => h) ⟨Or.inl ⟨by rfl, ?_⟩, fun _ => rfl⟩ ?_
             rotate_left
             ·intro w; go_simp
              try with_reducible rfl
             refine wpAnyIn_ready (rs := [8]) (by kernel_rfl) (by simp) ?_
             refine qcgh rfl (fun K hK => ?_) ?_
             ·go_simp
              refine hK _ _ ?_;clear hK K;refine wpAnyIn_done (by kernel_rfl) ?_ _
              exact FIN.out _ _ _ _ hown' hgrow _
             exact qcgk
            exact qcgk
           refine qcgh rfl (fun K hK => ?_) ?_
           ·refine qk rfl _ _ 31 rfl n₁ 9 i0 (.string .empty) 1 16 Tryz.underlying31 hi hz0 hz1 hz2 rfl (by decide) _ _ _ rfl (hr1.alloc _) ⟨W2.heap.size, 0, none⟩ 1 1 [.string (s.extract x.1 x.2)] rfl rfl (qm _ _ _) (qbg _) (by unfold maxLen; omega) (by omega) (by simp; omega) ?_
            intro v' w1 hown' hgrow _;obtain ⟨g', cap', rfl⟩ := ownsRow_succ hown';obtain ⟨hc1, hc2, hf2⟩ := HCL.out _ _ hgrow;refine hK _ _ ?_;clear hK K;refine wpAnyIn_ready (rs := [0]) (by kernel_rfl) (by simp) ?_
            refine qcgh rfl (fun K hK => ?_) ?_
            ·go_simp
             refine hK _ _ ?_;clear hK K;refine wpAnyIn_take (i := 7) (v := ?_) rfl rfl (by kernel_rfl) (by kernel_rfl) (by kernel_rfl) (fun _ _ _ h => h) ⟨Or.inl ⟨by rfl, ?_⟩, fun _ => rfl⟩ ?_
             rotate_left
             ·intro w; go_simp
              try with_reducible rfl
             refine wpAnyIn_ready (rs := [8]) (by kernel_rfl) (by simp) ?_
             refine qcgh rfl (fun K hK => ?_) ?_
             ·go_simp
              refine hK _ _ ?_;clear hK K;refine wpAnyIn_done (by kernel_rfl) ?_ _
              exact FIN.out _ _ _ _ hown' hgrow _
             exact qcgk
            exact qcgk
           exact qcgk
          exact qcgk
         exact qcgk
        exact qcgk
       ·generalize hkk : qbv false s.data.toList (seg s.data.toList x.1 x.2) x.2 = kk at *;have WC := qb WC0;clear WC0;have hkb : (kk != 0) = true := by simpa using hk0
        gi_wp2_with (refine ⟨trivial, ?_⟩; gi_at_call 74; refine (callsIn_wide.2 (WC.out _)).mono ?_; rintro e w' ⟨rfl, hw'⟩; rw [hw']; clear hw' w')
        obtain ⟨W1, hW1, hL1, hr1, hB1, hk1, h21, hs1⟩ := qlp (s := s) (cs := fun v => #[.string (s.extract 0 a), .string (s.extract b c), .string (s.extract d e), (.slice (some ⟨g1, 0, none⟩) PP.length cap1), v]) (v := .slice ao pre.length cap) (x.2 : Int) kk (Wb.heap.size + 1 + 1 + 1) (Wb.heap.size + 1 + 1) (by omega) (by omega) hps1 (by omega) (by omega) hLi hrow hB
        rw [← hW1];exact ⟨hk1.from _, rfl, pre, x, rfl, hbad, by rw [hkk]; exact hk0, _, by rw [hkk]; exact hL1, hr1, hB1⟩
      case done_p2 =>
       rintro D2 ys Wc hD rfl ⟨⟨v, hL2, hrow, hB2⟩, hbad⟩ hK;clear cS cA cE v0 v1 v2 v3 v4 zA zE eV eA eE eS eR eF ls0 ls1 ls2 lr0 lr1 lr2 lf0 lf1 lf2 lv0 lv1 lv2 la0 la1 la2 le0 le1 le2 hL hBW hLs hBf hbA hbS hps hpsV hps1;simp only [qcgp] at hD;have hids := qzk false s.data.toList (p + 1) hbad;have hq := qhw s.data.toList (p + 1) (by rw [qh]; omega)
       rw [qh] at hq;have HT2 : Hid (qbf s.data.toList = putT a b c d e (if qcm (p + 1) (qp s.data.toList (p + 1)) < s.data.toList.length then .error (10, qcm (p + 1) (qp s.data.toList (p + 1))) else .ok (PP, qp s.data.toList (p + 1)))) := by
        show _ = _;rw [HT.out, qbnz H43.out hids]
       rw [qmn] at hL2;have hne := qcx s.data.toList (p + 1);clear hids hbad HT H43;generalize qcm (p + 1) (qp s.data.toList (p + 1)) = q at *;generalize qp s.data.toList (p + 1) = Q at *;obtain ⟨g2, cap2, rfl⟩ := qbfb hrow (by cases Q with | nil => exact absurd rfl hne | cons _ _ => simp)
       obtain ⟨cur2, hg2, hgb2, HO2'⟩ := qwr hrow;have HO2 := qb HO2';clear HO2' hne;have hL : qbb Wc _ := qbb.cons hL2.head (qbb.cons hL2.tail.head (qbb.cons hL2.tail.tail.head (qbb.cons hL2.tail.tail.tail.tail.tail.tail.tail.head (qbb.cons hL2.tail.tail.tail.tail.tail.tail.tail.tail.head (qbb.cons hL2.tail.tail.tail.tail.tail.tail.tail.tail.tail.head (qbb.cons hL2.tail.tail.tail.tail.tail.tail.tail.tail.tail.tail.head (qbb.cons hL2.tail.tail.tail.tail.tail.tail.tail.tail.tail.tail.tail.head (qbb.cons hgb2 (qbb.cons hK (qbb.nil _))))))))));have hBW := hB2;clear hL2 hB2 hrow hK;have hVs : V + 3 ≤ Wc.heap.size := by have := hL.lt _ (qcgq _ (qcgq _ qchd)); simp only at this; omega
       have eV := hL.head;have eA := hL.tail.head;have eE := hL.tail.tail.head;have eS := hL.tail.tail.tail.head;have eR := hL.tail.tail.tail.tail.head;have eF := hL.tail.tail.tail.tail.tail.head;have x_g := hL.tail.tail.tail.tail.tail.tail.head;have x_D := hL.tail.tail.tail.tail.tail.tail.tail.head;have y_g := hL.tail.tail.tail.tail.tail.tail.tail.tail.head;have y_D := hL.tail.tail.tail.tail.tail.tail.tail.tail.tail.head;have cS := qw eS;have cA := qw eA;have cE := qw eE;have v0 := qd 0 eV rfl;have v1 := qd 1 eV rfl;have v2 := qd 2 eV rfl;have v3 := qd 3 eV rfl;have v4 := qd 4 eV rfl;have zA := qf 0 eA;have zE := qf 0 eE
       by_cases hend : q = s.size
       ·have HP : Hid (qbf s.data.toList = .ok ⟨a, b, c, d, e, PP, Q⟩) := by
         show _ = _;rw [HT2.out, if_neg (by rw [qh]; omega)]; rfl
        have hlt : ¬ ((q : Int) < (s.size : Int)) := by omega
        clear hend;have r0 := qd 0 eR rfl;have r1 := qd 1 eR rfl;have r2 := qd 2 eR rfl;have r3 := qd 3 eR rfl;have r4 := qd 4 eR rfl;have f0 := qd 0 eF rfl;have f1 := qd 1 eF rfl;have z0 := qf 0 eR;have z1 := qf 1 eR;have z2 := qf 2 eR;have z3 := qf 3 eR;have z4 := qf 4 eR;have y0 := qf 0 eF;have y1 := qf 1 eF;(go_wp2_with fail);rw [rounds_succ];go_wp2_with fail
        try rw [qcdz]
        obtain ⟨W9, hW9, gr, gf, hk, hbl⟩ := qdt (W := Wc) (B1 := w.heap.size + 1) (B2 := w.heap.size + 1 + 1) (by omega) (.string (s.extract 0 a)) (.string (s.extract b c)) (.string (s.extract d e)) (.slice (some ⟨g1, 0, none⟩) PP.length cap1) (.slice (some ⟨g2, 0, none⟩) Q.length cap2) (.int .i64 0) (.int .i64 0) eR eF
        rw [← hW9];refine fin9 _ [D2, D1] W9 w.heap.size (w.heap.size + 1) (w.heap.size + 1 + 1) _ _ _ _ _ _ _ ⟨_, _, _, rfl⟩ ⟨_, _, _, rfl⟩ rfl rfl gr gf (by simp; omega) (by intro D hD; simp only [qcgw, qchc, or_false] at hD; rcases hD with rfl | rfl <;> exact ⟨by omega, (hk _ (by omega) (by omega)).trans (by assumption)⟩) ?_
        exact fun W' h => qtw (c := ⟨a, b, c, d, e, PP, Q⟩) HP.out (hBW.trans (hbl _ (by omega) (by omega))) h (HO1.out _ _ ((hk g1 (by omega) (by omega)).trans x_g) (by omega)) (HO2.out _ _ ((hk g2 (by omega) (by omega)).trans y_g) (by omega))
       ·have hlt : q < s.size := by omega
        clear hend;have hb1 : ((s[q].toNat : Int) == 45) = false := qfl (k := 45) (by omega) (qbfm s q hlt hq.2)
        have hWs := hBW.size;have ls0 : w.heap.size < Wc.heap.size := by omega
        have ls1 : w.heap.size < Wc.heap.size + 1 := by omega
        have ls2 : w.heap.size < Wc.heap.size + 1 + 1 := by omega
        have lr0 : w.heap.size + 1 < Wc.heap.size := by omega
        have lr1 : w.heap.size + 1 < Wc.heap.size + 1 := by omega
        have lr2 : w.heap.size + 1 < Wc.heap.size + 1 + 1 := by omega
        have lf0 : w.heap.size + 1 + 1 < Wc.heap.size := by omega
        have lf1 : w.heap.size + 1 + 1 < Wc.heap.size + 1 := by omega
        have lf2 : w.heap.size + 1 + 1 < Wc.heap.size + 1 + 1 := by omega
        have lv0 : V < Wc.heap.size := by omega
        have lv1 : V < Wc.heap.size + 1 := by omega
        have lv2 : V < Wc.heap.size + 1 + 1 := by omega
        have la0 : V + 1 < Wc.heap.size := by omega
        have la1 : V + 1 < Wc.heap.size + 1 := by omega
        have la2 : V + 1 < Wc.heap.size + 1 + 1 := by omega
        have le0 : V + 1 + 1 < Wc.heap.size := by omega
        have le1 : V + 1 + 1 < Wc.heap.size + 1 := by omega
        have le2 : V + 1 + 1 < Wc.heap.size + 1 + 1 := by omega
        by_cases h43 : s[q] = 43
        ·have hb2 : ((s[q].toNat : Int) != 43) = false := by rw [h43]; rfl
         clear h43;(go_wp2_with fail);have HP : Hid (qbf s.data.toList = .error ((10 : Int), q)) := by
          show _ = _;rw [HT2.out, if_pos (by rw [qh]; exact hlt)]; rfl
         rw [rounds_succ];(go_wp2_with fail);obtain ⟨W8, hW8, hL8, hB8⟩ := qjv (w := w) (o1 := .cells #[.bool false] 4) (o2 := .cells #[.pointer (some ⟨V, 4, none⟩)] 104) (by omega) (by omega) (by
          intro q hq;simp only [qcgw, qchc, or_false] at hq;rcases hq with rfl | rfl | rfl | rfl | rfl | rfl | rfl <;> simp only <;> omega) hL hBW
         rw [← hW8];clear hW8 cS cA cE v0 v1 v2 v3 v4 zA zE eV eA eE eS eR eF ls0 ls1 ls2 lr0 lr1 lr2 lf0 lf1 lf2 lv0 lv1 lv2 la0 la1 la2 le0 le1 le2;have eA := hL8.tail.head;have eE := hL8.tail.tail.head;have eR := hL8.tail.tail.tail.tail.head;have eF := hL8.tail.tail.tail.tail.tail.head;have cA := qw eA;have cE := qw eE;have xd0 := hL8.tail.tail.tail.tail.tail.tail.tail.head;have xd1 := hL8.tail.tail.tail.tail.tail.tail.tail.tail.tail.head;have r0 := qd 0 eR rfl;have r1 := qd 1 eR rfl;have r2 := qd 2 eR rfl;have r3 := qd 3 eR rfl;have r4 := qd 4 eR rfl;have f0 := qd 0 eF rfl;have f1 := qd 1 eF rfl;have z0 := qf 0 eR;have z1 := qf 1 eR;have z2 := qf 2 eR;have z3 := qf 3 eR;have z4 := qf 4 eR;have y0 := qf 0 eF;have y1 := qf 1 eF;replace hBW := hB8;clear eA eE hL8 hB8;go_region
         go_wp2_with fail
         try rw [qcdz]
         obtain ⟨W9, hW9, gr, gf, hk, hbl⟩ := qdt (W := W8) (B1 := w.heap.size + 1) (B2 := w.heap.size + 1 + 1) (by omega) (.string ⟨#[]⟩) (.string ⟨#[]⟩) (.string ⟨#[]⟩) (.slice none 0 0) (.slice none 0 0) (.int .i64 (((10 : Int), q)).1) (.int .i64 ((((10 : Int), q)).2 : Int)) eR eF
         rw [← hW9];refine fin9 _ [D2, D1] W9.drew w.heap.size (w.heap.size + 1) (w.heap.size + 1 + 1) _ _ _ _ _ _ _ ⟨_, _, _, rfl⟩ ⟨_, _, _, rfl⟩ rfl rfl gr gf (by simp; omega) (by intro D hD; simp only [qcgw, qchc, or_false] at hD; rcases hD with rfl | rfl <;> exact ⟨by omega, (hk _ (by omega) (by omega)).trans (by assumption)⟩) ?_
         exact fun W' h => qgr HP.out ((hBW.trans (hbl _ (by omega) (by omega))).drew) h
        ·have hb2 : ((s[q].toNat : Int) != 43) = true := by have := qfl (k := 43) (by omega) h43; simpa [bne] using this
         clear h43;(go_wp2_with fail);have HP : Hid (qbf s.data.toList = .error ((10 : Int), q)) := by
          show _ = _;rw [HT2.out, if_pos (by rw [qh]; exact hlt)]; rfl
         rw [rounds_succ];(go_wp2_with fail);obtain ⟨W8, hW8, hL8, hB8⟩ := qjv (w := w) (o1 := .cells #[.bool false] 4) (o2 := .cells #[.pointer (some ⟨V, 4, none⟩)] 104) (by omega) (by omega) (by
          intro q hq;simp only [qcgw, qchc, or_false] at hq;rcases hq with rfl | rfl | rfl | rfl | rfl | rfl | rfl <;> simp only <;> omega) hL hBW
         rw [← hW8];clear hW8 cS cA cE v0 v1 v2 v3 v4 zA zE eV eA eE eS eR eF ls0 ls1 ls2 lr0 lr1 lr2 lf0 lf1 lf2 lv0 lv1 lv2 la0 la1 la2 le0 le1 le2;have eA := hL8.tail.head;have eE := hL8.tail.tail.head;have eR := hL8.tail.tail.tail.tail.head;have eF := hL8.tail.tail.tail.tail.tail.head;have cA := qw eA;have cE := qw eE;have xd0 := hL8.tail.tail.tail.tail.tail.tail.tail.head;have xd1 := hL8.tail.tail.tail.tail.tail.tail.tail.tail.tail.head;have r0 := qd 0 eR rfl;have r1 := qd 1 eR rfl;have r2 := qd 2 eR rfl;have r3 := qd 3 eR rfl;have r4 := qd 4 eR rfl;have f0 := qd 0 eF rfl;have f1 := qd 1 eF rfl;have z0 := qf 0 eR;have z1 := qf 1 eR;have z2 := qf 2 eR;have z3 := qf 3 eR;have z4 := qf 4 eR;have y0 := qf 0 eF;have y1 := qf 1 eF;replace hBW := hB8;clear eA eE hL8 hB8;go_region
         go_wp2_with fail
         try rw [qcdz]
         obtain ⟨W9, hW9, gr, gf, hk, hbl⟩ := qdt (W := W8) (B1 := w.heap.size + 1) (B2 := w.heap.size + 1 + 1) (by omega) (.string ⟨#[]⟩) (.string ⟨#[]⟩) (.string ⟨#[]⟩) (.slice none 0 0) (.slice none 0 0) (.int .i64 (((10 : Int), q)).1) (.int .i64 ((((10 : Int), q)).2 : Int)) eR eF
         rw [← hW9];refine fin9 _ [D2, D1] W9.drew w.heap.size (w.heap.size + 1) (w.heap.size + 1 + 1) _ _ _ _ _ _ _ ⟨_, _, _, rfl⟩ ⟨_, _, _, rfl⟩ rfl rfl gr gf (by simp; omega) (by intro D hD; simp only [qcgw, qchc, or_false] at hD; rcases hD with rfl | rfl <;> exact ⟨by omega, (hk _ (by omega) (by omega)).trans (by assumption)⟩) ?_
         exact fun W' h => qgr HP.out ((hBW.trans (hbl _ (by omega) (by omega))).drew) h
      case stop_p2 =>
       rintro D9 c ys W7 hD hpre ⟨rfl, pre, x, rfl, hbad, hx, v, hL7, hrow, hB7⟩ hK;clear cS cA cE v0 v1 v2 v3 v4 zA zE eV eA eE eS eR eF ls0 ls1 ls2 lr0 lr1 lr2 lf0 lf1 lf2 lv0 lv1 lv2 la0 la1 la2 le0 le1 le2 hL hBW hLs hBf hbA hbS hps hpsV hps1;simp only [qcgp] at hD;have HP : Hid (qbf s.data.toList = .error (qbv false s.data.toList (seg s.data.toList x.1 x.2) x.2, x.2)) := by
        show _ = _;rw [HT.out, qbgw H43.out (qqx false _ _ pre x hbad hx hpre)]; rfl
       generalize qbv false s.data.toList (seg s.data.toList x.1 x.2) x.2 = kk at *;have hkb : (kk != 0) = true := by simpa using hx
       have hkc : (kk == 0) = false := by simpa using hx
       have eA := hL7.tail.head;have eE := hL7.tail.tail.head;have eR := hL7.tail.tail.tail.tail.tail.tail.tail.tail.head;have eF := hL7.tail.tail.tail.tail.tail.tail.tail.tail.tail.head;have cA := qw eA;have cE := qw eE;have xd0 := hL7.tail.tail.tail.tail.tail.tail.tail.tail.tail.tail.tail.head;have r0 := qd 0 eR rfl;have r1 := qd 1 eR rfl;have r2 := qd 2 eR rfl;have r3 := qd 3 eR rfl;have r4 := qd 4 eR rfl;have f0 := qd 0 eF rfl;have f1 := qd 1 eF rfl;have z0 := qf 0 eR;have z1 := qf 1 eR;have z2 := qf 2 eR;have z3 := qf 3 eR;have z4 := qf 4 eR;have y0 := qf 0 eF;have y1 := qf 1 eF;have hBW := hB7;clear eA eE hL7 hB7 hrow hbad hx hpre;refine wpIn_wide.2 ?_;(go_wp2_with fail);go_region
       go_wp2_with fail
       try rw [qcdz]
       obtain ⟨W9, hW9, gr, gf, hk, hbl⟩ := qdt (W := W7) (B1 := w.heap.size + 1) (B2 := w.heap.size + 1 + 1) (by omega) (.string ⟨#[]⟩) (.string ⟨#[]⟩) (.string ⟨#[]⟩) (.slice none 0 0) (.slice none 0 0) (.int .i64 ((kk, x.2)).1) (.int .i64 (((kk, x.2)).2 : Int)) eR eF
       rw [← hW9];refine fin9 _ [D9, D1] W9.drew w.heap.size (w.heap.size + 1) (w.heap.size + 1 + 1) _ _ _ _ _ _ _ ⟨_, _, _, rfl⟩ ⟨_, _, _, rfl⟩ rfl rfl gr gf (by simp; omega) (by intro D hD; simp only [qcgw, qchc, or_false] at hD; rcases hD with rfl | rfl <;> exact ⟨by omega, (hk _ (by omega) (by omega)).trans (by assumption)⟩) ?_
       exact fun W' h => qgr HP.out ((hBW.trans (hbl _ (by omega) (by omega))).drew) h
     ·have hb2 : ((s[p].toNat : Int) != 43) = true := by have := qfl (k := 43) (by omega) h43; simpa [bne] using this
      have h43n : ¬ s.data.toList[p]? = some 43 := by rw [qdz s p hlt]; simpa using h43
      clear h43;have HP : Hid (qbf s.data.toList = .error ((10 : Int), p)) := by
       show _ = _;rw [HT.out, qqh h43n, if_pos (by rw [qh]; exact hlt)]; rfl
      rw [rounds_succ];(go_wp2_with fail);obtain ⟨W8, hW8, hL8, hB8⟩ := qjv (w := w) (o1 := .cells #[.bool false] 4) (o2 := .cells #[.pointer (some ⟨V, 4, none⟩)] 104) (by omega) (by omega) (by
       intro q hq;simp only [qcgw, qchc, or_false] at hq;rcases hq with rfl | rfl | rfl | rfl | rfl <;> simp only <;> omega) hL hBW
      rw [← hW8];clear hW8 cS cA cE v0 v1 v2 v3 v4 zA zE eV eA eE eS eR eF ls0 ls1 ls2 lr0 lr1 lr2 lf0 lf1 lf2 lv0 lv1 lv2 la0 la1 la2 le0 le1 le2;have eA := hL8.tail.head;have eE := hL8.tail.tail.head;have eR := hL8.tail.tail.tail.tail.head;have eF := hL8.tail.tail.tail.tail.tail.head;have cA := qw eA;have cE := qw eE;have xd0 := hL8.tail.tail.tail.tail.tail.tail.tail.head;have r0 := qd 0 eR rfl;have r1 := qd 1 eR rfl;have r2 := qd 2 eR rfl;have r3 := qd 3 eR rfl;have r4 := qd 4 eR rfl;have f0 := qd 0 eF rfl;have f1 := qd 1 eF rfl;have z0 := qf 0 eR;have z1 := qf 1 eR;have z2 := qf 2 eR;have z3 := qf 3 eR;have z4 := qf 4 eR;have y0 := qf 0 eF;have y1 := qf 1 eF;replace hBW := hB8;clear eA eE hL8 hB8;go_region
      go_wp2_with fail
      try rw [qcdz]
      obtain ⟨W9, hW9, gr, gf, hk, hbl⟩ := qdt (W := W8) (B1 := w.heap.size + 1) (B2 := w.heap.size + 1 + 1) (by omega) (.string ⟨#[]⟩) (.string ⟨#[]⟩) (.string ⟨#[]⟩) (.slice none 0 0) (.slice none 0 0) (.int .i64 (((10 : Int), p)).1) (.int .i64 ((((10 : Int), p)).2 : Int)) eR eF
      rw [← hW9];refine fin9 _ [D1] W9.drew w.heap.size (w.heap.size + 1) (w.heap.size + 1 + 1) _ _ _ _ _ _ _ ⟨_, _, _, rfl⟩ ⟨_, _, _, rfl⟩ rfl rfl gr gf (by simp) (by intro D hD; simp only [qcgw, qchc, or_false] at hD; rcases hD with rfl <;> exact ⟨by omega, (hk _ (by omega) (by omega)).trans (by assumption)⟩) ?_
      exact fun W' h => qgr HP.out ((hBW.trans (hbl _ (by omega) (by omega))).drew) h
   case stop_p1 =>
    rintro D9 c ys W7 hD hpre ⟨rfl, pre, x, rfl, hbad, hx, v, hL7, hrow, hB7⟩ hK;clear cS cA cE v0 v1 v2 v3 v4 zA zE eV eA eE eS eR eF ls0 ls1 ls2 lr0 lr1 lr2 lf0 lf1 lf2 lv0 lv1 lv2 la0 la1 la2 le0 le1 le2 hL hBW hLs hBf hbA hbS hps hpsV hps1;simp only [qcgp] at hD;have HP : Hid (qbf s.data.toList = .error (qbv true s.data.toList (seg s.data.toList x.1 x.2) x.2, x.2)) := by
     show _ = _;rw [HT.out, tail_bad H45.out (qqx true _ _ pre x hbad hx hpre)]; rfl
    generalize qbv true s.data.toList (seg s.data.toList x.1 x.2) x.2 = kk at *;have hkb : (kk != 0) = true := by simpa using hx
    have hkc : (kk == 0) = false := by simpa using hx
    have eA := hL7.tail.head;have eE := hL7.tail.tail.head;have eR := hL7.tail.tail.tail.tail.tail.tail.tail.tail.head;have eF := hL7.tail.tail.tail.tail.tail.tail.tail.tail.tail.head;have cA := qw eA;have cE := qw eE;have r0 := qd 0 eR rfl;have r1 := qd 1 eR rfl;have r2 := qd 2 eR rfl;have r3 := qd 3 eR rfl;have r4 := qd 4 eR rfl;have f0 := qd 0 eF rfl;have f1 := qd 1 eF rfl;have z0 := qf 0 eR;have z1 := qf 1 eR;have z2 := qf 2 eR;have z3 := qf 3 eR;have z4 := qf 4 eR;have y0 := qf 0 eF;have y1 := qf 1 eF;have hBW := hB7;clear eA eE hL7 hB7 hrow hbad hx hpre;refine wpIn_wide.2 ?_;(go_wp2_with fail);go_region
    go_wp2_with fail
    try rw [qcdz]
    obtain ⟨W9, hW9, gr, gf, hk, hbl⟩ := qdt (W := W7) (B1 := w.heap.size + 1) (B2 := w.heap.size + 1 + 1) (by omega) (.string ⟨#[]⟩) (.string ⟨#[]⟩) (.string ⟨#[]⟩) (.slice none 0 0) (.slice none 0 0) (.int .i64 ((kk, x.2)).1) (.int .i64 (((kk, x.2)).2 : Int)) eR eF
    rw [← hW9];refine fin9 _ [D9] W9.drew w.heap.size (w.heap.size + 1) (w.heap.size + 1 + 1) _ _ _ _ _ _ _ ⟨_, _, _, rfl⟩ ⟨_, _, _, rfl⟩ rfl rfl gr gf (by simp) (by intro D hD; simp only [qcgw, qchc, or_false] at hD; rcases hD with rfl <;> exact ⟨by omega, (hk _ (by omega) (by omega)).trans (by assumption)⟩) ?_
    exact fun W' h => qgr HP.out ((hBW.trans (hbl _ (by omega) (by omega))).drew) h
  ·have HT := qb (hT.trans (by rw [qcbn h45]))
   have hdash : ∀ h : e < s.size, s[e] ≠ 45 := fun h x => h45 (by rw [qdz s e h, x])
   have hVs : V + 3 ≤ W.heap.size := by omega
   clear h45 hT cS cA cE v0 v1 v2 v3 v4 zA zE eV eA eE eS eR eF;have eV := hL.head;have eA := hL.tail.head;have eE := hL.tail.tail.head;have eS := hL.tail.tail.tail.head;have eR := hL.tail.tail.tail.tail.head;have eF := hL.tail.tail.tail.tail.tail.head;have cS := qw eS;have cA := qw eA;have cE := qw eE;have v0 := qd 0 eV rfl;have v1 := qd 1 eV rfl;have v2 := qd 2 eV rfl;have v3 := qd 3 eV rfl;have v4 := qd 4 eV rfl;have zA := qf 0 eA;have zE := qf 0 eE
   by_cases hend : e = s.size
   ·have HP : Hid (qbf s.data.toList = .ok ⟨a, b, c, d, e, [], []⟩) := by
     show _ = _;rw [HT.out, qqh (by rw [qft s e (by omega)]; simp), if_neg (by rw [qh]; omega)]; rfl
    have hlt : ¬ ((e : Int) < (s.size : Int)) := by omega
    clear hend;have r0 := qd 0 eR rfl;have r1 := qd 1 eR rfl;have r2 := qd 2 eR rfl;have r3 := qd 3 eR rfl;have r4 := qd 4 eR rfl;have f0 := qd 0 eF rfl;have f1 := qd 1 eF rfl;have z0 := qf 0 eR;have z1 := qf 1 eR;have z2 := qf 2 eR;have z3 := qf 3 eR;have z4 := qf 4 eR;have y0 := qf 0 eF;have y1 := qf 1 eF;rw [rounds_succ];go_wp2_with fail
    try rw [qcdz]
    obtain ⟨W9, hW9, gr, gf, hk, hbl⟩ := qdt (W := W) (B1 := w.heap.size + 1) (B2 := w.heap.size + 1 + 1) (by omega) (.string (s.extract 0 a)) (.string (s.extract b c)) (.string (s.extract d e)) (.slice none 0 0) (.slice none 0 0) (.int .i64 0) (.int .i64 0) eR eF
    rw [← hW9];refine fin9 _ [] W9 w.heap.size (w.heap.size + 1) (w.heap.size + 1 + 1) _ _ _ _ _ _ _ ⟨_, _, _, rfl⟩ ⟨_, _, _, rfl⟩ rfl rfl gr gf (by simp) (by simp) ?_
    exact fun W' h => qtw (c := ⟨a, b, c, d, e, [], []⟩) HP.out (hBW.trans (hbl _ (by omega) (by omega))) h (qchg _ _ _ _) (qchg _ _ _ _)
   ·have hlt : e < s.size := by omega
    clear hend;have hb1 : ((s[e].toNat : Int) == 45) = false := qfl (k := 45) (by omega) (hdash hlt)
    have hWs := hBW.size;have ls0 : w.heap.size < W.heap.size := by omega
    have ls1 : w.heap.size < W.heap.size + 1 := by omega
    have ls2 : w.heap.size < W.heap.size + 1 + 1 := by omega
    have lr0 : w.heap.size + 1 < W.heap.size := by omega
    have lr1 : w.heap.size + 1 < W.heap.size + 1 := by omega
    have lr2 : w.heap.size + 1 < W.heap.size + 1 + 1 := by omega
    have lf0 : w.heap.size + 1 + 1 < W.heap.size := by omega
    have lf1 : w.heap.size + 1 + 1 < W.heap.size + 1 := by omega
    have lf2 : w.heap.size + 1 + 1 < W.heap.size + 1 + 1 := by omega
    have lv0 : V < W.heap.size := by omega
    have lv1 : V < W.heap.size + 1 := by omega
    have lv2 : V < W.heap.size + 1 + 1 := by omega
    have la0 : V + 1 < W.heap.size := by omega
    have la1 : V + 1 < W.heap.size + 1 := by omega
    have la2 : V + 1 < W.heap.size + 1 + 1 := by omega
    have le0 : V + 1 + 1 < W.heap.size := by omega
    have le1 : V + 1 + 1 < W.heap.size + 1 := by omega
    have le2 : V + 1 + 1 < W.heap.size + 1 + 1 := by omega
    by_cases h43 : s[e] = 43
    ·have hb2 : ((s[e].toNat : Int) != 43) = false := by rw [h43]; rfl
     have H43 := qb (show s.data.toList[e]? = some 43 by rw [qdz s e hlt, h43])
     clear h43 hdash;rw [rounds_succ];(go_wp2_with fail);refine (qkw s _ _).mono ?_;rintro e' w2 ⟨rfl, hw2⟩;rw [hw2];clear hw2 w2;(go_wp2_with fail);have hLf := qwn W (.cells #[.bool false] 4) (.cells #[.pointer (some ⟨V, 4, none⟩)] 104) (.cells #[.string s] 9) (.cells #[.int .i64 ((e : Int) + 1)] 3) _ hL;have hBf := qsq w W (.cells #[.bool false] 4) (.cells #[.pointer (some ⟨V, 4, none⟩)] 104) (.cells #[.string s] 9) (.cells #[.int .i64 ((e : Int) + 1)] 3) hBW;have hLs := qbb.cons hLf.tail.tail.tail.tail.head (qbb.cons hLf.tail.tail.tail.tail.tail.head (qbb.cons hLf.tail.tail.tail.tail.tail.tail.head (qbb.cons hLf.head (qbb.cons hLf.tail.head (qbb.cons hLf.tail.tail.head (qbb.cons hLf.tail.tail.tail.head hLf.tail.tail.tail.tail.tail.tail.tail))))));have hbA : Boxed _ (W.heap.size + 1 + 1 + 1) 3 (.int .i64 ((e + 1 : Nat) : Int)) := hLf.tail.tail.tail.head;have hbS : Boxed _ (W.heap.size + 1 + 1) 9 (.string s) := hLf.tail.tail.head
     have hps : ∀ q ∈ (((W.heap.size, .cells #[.bool false] 4) :: (W.heap.size + 1, .cells #[.pointer (some ⟨V, 4, none⟩)] 104) :: (W.heap.size + 1 + 1, .cells #[.string s] 9) :: (W.heap.size + 1 + 1 + 1, .cells #[.int .i64 ((e : Int) + 1)] 3) :: (w.heap.size, .cells #[.string s] 9) :: (w.heap.size + 1, .cells #[.string ⟨#[]⟩, .string ⟨#[]⟩, .string ⟨#[]⟩, .slice none 0 0, .slice none 0 0] 33) :: (w.heap.size + 1 + 1, .cells #[.int .i64 0, .int .i64 0] 25) :: []) : List (Nat × Obj)), q.1 < (W.heap.size + 1 + 1 + 1 + 1) := fun q hq => by
      have := hLs.lt q (qcgq _ (qcgq _ (qcgq _ hq)));simpa only [qcgp] using this
     have hwX := hBW.size;have hpsV : ∀ q ∈ (((W.heap.size, .cells #[.bool false] 4) :: (W.heap.size + 1, .cells #[.pointer (some ⟨V, 4, none⟩)] 104) :: (W.heap.size + 1 + 1, .cells #[.string s] 9) :: (W.heap.size + 1 + 1 + 1, .cells #[.int .i64 ((e : Int) + 1)] 3) :: (w.heap.size, .cells #[.string s] 9) :: (w.heap.size + 1, .cells #[.string ⟨#[]⟩, .string ⟨#[]⟩, .string ⟨#[]⟩, .slice none 0 0, .slice none 0 0] 33) :: (w.heap.size + 1 + 1, .cells #[.int .i64 0, .int .i64 0] 25) :: []) : List (Nat × Obj)), q.1 ≠ V := by
      intro q hq;simp only [qcgw, qchc, or_false] at hq;rcases hq with rfl | rfl | rfl | rfl | rfl | rfl | rfl <;> simp only <;> omega
     have hps1 : ∀ q ∈ (((W.heap.size, .cells #[.bool false] 4) :: (W.heap.size + 1, .cells #[.pointer (some ⟨V, 4, none⟩)] 104) :: (W.heap.size + 1 + 1, .cells #[.string s] 9) :: (W.heap.size + 1 + 1 + 1, .cells #[.int .i64 ((e : Int) + 1)] 3) :: (w.heap.size, .cells #[.string s] 9) :: (w.heap.size + 1, .cells #[.string ⟨#[]⟩, .string ⟨#[]⟩, .string ⟨#[]⟩, .slice none 0 0, .slice none 0 0] 33) :: (w.heap.size + 1 + 1, .cells #[.int .i64 0, .int .i64 0] 25) :: []) : List (Nat × Obj)), q.1 ≠ V + 1 ∧ q.1 ≠ V + 1 + 1 := by
      intro q hq;simp only [qcgw, qchc, or_false] at hq;rcases hq with rfl | rfl | rfl | rfl | rfl | rfl | rfl <;> simp only <;> omega
     clear hLf;generalize hn0 : (W.heap.size + 1 + 1 + 1 + 1) = n₀ at *;refine (wpIn_wide (n := 5)).1 ?_;refine wpIn_rangeFunc_ownG rfl (by omega) (gf := 108) (lb := #[.pointer (some ⟨W.heap.size + 1 + 1 + 1, 0, none⟩), .pointer (some ⟨W.heap.size + 1 + 1, 0, none⟩)]) rfl trivial (enters_of Tryz.func108 (by kernel_rfl) rfl)
      (qwb 4 (by omega) (W.heap.size + 1 + 1 + 1) (W.heap.size + 1 + 1) s (e + 1) (by omega) (by omega) _ hbA hbS) Two.trans (two_b (by simp only [qcgp]; omega) (by simp only [qcgp]; omega)) (Below.refl _ _) (fun _ => rfl)
      (PI s w n₀ V ((W.heap.size, .cells #[.bool false] 4) :: (W.heap.size + 1, .cells #[.pointer (some ⟨V, 4, none⟩)] 104) :: (W.heap.size + 1 + 1, .cells #[.string s] 9) :: (W.heap.size + 1 + 1 + 1, .cells #[.int .i64 ((e : Int) + 1)] 3) :: (w.heap.size, .cells #[.string s] 9) :: (w.heap.size + 1, .cells #[.string ⟨#[]⟩, .string ⟨#[]⟩, .string ⟨#[]⟩, .slice none 0 0, .slice none 0 0] 33) :: (w.heap.size + 1 + 1, .cells #[.int .i64 0, .int .i64 0] 25) :: []) (fun v => #[.string (s.extract 0 a), .string (s.extract b c), .string (s.extract d e), (.slice none 0 0), v]) false e)
      (PX s w n₀ V ((W.heap.size, .cells #[.bool false] 4) :: (W.heap.size + 1, .cells #[.pointer (some ⟨V, 4, none⟩)] 104) :: (W.heap.size + 1 + 1, .cells #[.string s] 9) :: (W.heap.size + 1 + 1 + 1, .cells #[.int .i64 ((e : Int) + 1)] 3) :: (w.heap.size, .cells #[.string s] 9) :: (w.heap.size + 1, .cells #[.string ⟨#[]⟩, .string ⟨#[]⟩, .string ⟨#[]⟩, .slice none 0 0, .slice none 0 0] 33) :: (w.heap.size + 1 + 1, .cells #[.int .i64 0, .int .i64 0] 25) :: []) (fun v => #[.string (s.extract 0 a), .string (s.extract b c), .string (s.extract d e), (.slice none 0 0), v]) false 0)
      (fun pre A B row h hg hr => ⟨qvm s w _ V _ _ _ _ pre _ (by simp only [qcgp]; omega) (fun q hq => by have := hps q hq; simp only [qcgp]; omega) (by simp only [qcgp]; omega) A B row h.1 hg hr, h.2⟩)
      (fun c ys A B row h hg hr => by
       obtain ⟨hc, pre, x, e1, e2, e3, h4⟩ := h;exact ⟨hc, pre, x, e1, e2, e3, qvm s w _ V _ _ _ _ pre _ (by simp only [qcgp]; omega) (fun q hq => by have := hps q hq; simp only [qcgp]; omega) (by simp only [qcgp]; omega) A B row h4 hg hr⟩)
      ⟨⟨_, hLs, qchg _ _ _ _, hBf⟩, rfl⟩ ?a1_p3 ?assign_p3 ?body_p3 ?done_p3 ?stop_p3
     case assign_p3 =>
      intro l x W K hK;gi_wp2
      exact hK
     case body_p3 =>
      rintro lx pre x Wi ⟨⟨v, hLi, hrow, hB⟩, hbad⟩ hlen;obtain ⟨ao, cap, rfl⟩ := qlm hrow;have eV := hLi.head;have eA := hLi.tail.head;have eE := hLi.tail.tail.head;have eI := hLi.tail.tail.tail.head;have eL := hLi.tail.tail.tail.tail.head;have eS := hLi.tail.tail.tail.tail.tail.tail.tail.head;clear cS cA cE v0 v1 v2 v3 v4 zA zE;have cS := qw eS;have cI := qw eI;have cL := qw eL;have cA := qw eA;have cE := qw eE;have zA := qf 0 eA;have zE := qf 0 eE;have WC0 : ∀ w : QW, Calls Tryz.prog 74 #[.string s, .string (s.extract x.1 x.2), .int .i64 (x.2 : Int), .bool false] w fun r w' => r = .returned (.int .i64 (qbv false s.data.toList (seg s.data.toList x.1 x.2) x.2)) ∧ w' = w := fun w => by
       have := qvn s (s.extract x.1 x.2) x.2 false w (by unfold maxLen; omega) (by rw [qbx, qx]; unfold maxLen; simp [seg]; omega)
       rw [qfb] at this;exact this
      have hrowl : pre.length ≤ 70 := by have := qtr s.data.toList _ (e + 1) rfl; rw [qh] at this; omega
      by_cases hk0 : qbv false s.data.toList (seg s.data.toList x.1 x.2) x.2 = 0
      ·rw [hk0] at WC0;have WC := qb WC0;clear WC0;gi_wp2_with (refine ⟨trivial, ?_⟩; gi_at_call 74; refine (callsIn_wide.2 (WC.out _)).mono ?_; rintro e w' ⟨rfl, hw'⟩; rw [hw']; clear hw' w')
       obtain ⟨W1, hW1, hL1, hr1, hB1, hk1, h21, hs1⟩ := qlp (s := s) (cs := fun v => #[.string (s.extract 0 a), .string (s.extract b c), .string (s.extract d e), (.slice none 0 0), v]) (v := .slice ao pre.length cap) (x.2 : Int) 0 (W.heap.size + 1 + 1 + 1) (W.heap.size + 1 + 1) (by omega) (by omega) hps1 (by omega) (by omega) hLi hrow hB
       have hn1 : n₀ ≤ W1.drew.heap.size := by show n₀ ≤ W1.heap.size; rw [hs1]; have := hLi.lt _ (qcgq _ (qcgq _ (qcgq _ (qcgq _ (qcgq _ (qcgq _ qchd)))))); simp only at this; omega
       rw [← hW1];refine wpIn_region_any (by kernel_rfl) ?_
       refine qgs (F := Fence.wide) rfl ?hd_p3 _ _ _ _ ?_
       case hd_p3 => exact qml (by kernel_rfl)
       change wpAnyIn _ _ _ _ _ _ _ _ _ (World.drew _)
       clear hW1;replace hL1 : qbb W1.drew _ := hL1;replace hr1 := hr1.drew;replace hB1 := hB1.drew;replace hk1 := hk1.trans (KeepsOthers.drew W1);replace h21 : Two (W.heap.size + 1 + 1 + 1) (W.heap.size + 1 + 1) Wi W1.drew := h21;clear hs1;generalize W1.drew = W2 at *;have cL2 := qw hL1.tail.tail.tail.tail.head;have cV2 := qd 4 hL1.head rfl;have cLa : ∀ o : Obj, (W2.alloc o).cell? ⟨W.heap.size + 1, 0, none⟩ = some (.pointer (some ⟨V, 4, none⟩)) := fun o => qw (hL1.alloc o).tail.tail.tail.tail.head;have cVa : ∀ o : Obj, (W2.alloc o).cell? ⟨V, 4, none⟩ = some (.slice ao pre.length cap) := fun o => qd 4 (hL1.alloc o).head rfl;have hq3 : ∀ q ∈ ((V, Obj.cells ((fun v => #[.string (s.extract 0 a), .string (s.extract b c), .string (s.extract d e), (.slice none 0 0), v]) (.slice ao pre.length cap)) 33 (0, 0)) :: (V + 1, .cells #[.int .i64 (x.2 : Int)] 3 (0, 0)) :: (V + 1 + 1, .cells #[.int .i64 0] 23 (0, 0)) :: ((W.heap.size, .cells #[.bool false] 4) :: (W.heap.size + 1, .cells #[.pointer (some ⟨V, 4, none⟩)] 104) :: (W.heap.size + 1 + 1, .cells #[.string s] 9) :: (W.heap.size + 1 + 1 + 1, .cells #[.int .i64 ((e : Int) + 1)] 3) :: (w.heap.size, .cells #[.string s] 9) :: (w.heap.size + 1, .cells #[.string ⟨#[]⟩, .string ⟨#[]⟩, .string ⟨#[]⟩, .slice none 0 0, .slice none 0 0] 33) :: (w.heap.size + 1 + 1, .cells #[.int .i64 0, .int .i64 0] 25) :: [])), q.1 < n₀ := by
        intro q hq;rcases qcgw.1 hq with rfl | hq
        ·show V < n₀; omega
        rcases qcgw.1 hq with rfl | hq
        ·show V + 1 < n₀; omega
        rcases qcgw.1 hq with rfl | hq
        ·show V + 1 + 1 < n₀; omega
        exact hps q hq
       have HCL : Hid (∀ (tmp : Obj) (w1 : QW), (W2.alloc tmp).grownBy w1 (Value.slice ao pre.length cap).ownBlock → w1.cell? ⟨W.heap.size + 1, 0, none⟩ = some (.pointer (some ⟨V, 4, none⟩)) ∧ w1.cell? ⟨V, 4, none⟩ = some (.slice ao pre.length cap) ∧ w1.frozen? ⟨V, 4, none⟩ = false) := fun tmp w1 hg => by
        have h := qqd hL1 hq3 hr1 hg;exact ⟨qw h.tail.tail.tail.tail.head, qd 4 h.head rfl, qf 4 h.head⟩
       have FIN := qb (fun (g' cap' : Nat) (tmp : Obj) (w1 : QW) hown' hgrow (B : Nat) => qbcd (g' := g') (cap' := cap') (tmp := tmp) (w1 := w1) (z := e) (off := 4) (cs := fun v => #[.string (s.extract 0 a), .string (s.extract b c), .string (s.extract d e), (.slice none 0 0), v]) (by omega) (fun q hq => ⟨hps q hq, hpsV q hq⟩) (by omega) (by omega) (by omega) (fun u => rfl) hn1 hL1 hr1 hB1 hk1 h21 hbad hk0 hown' hgrow B)
       clear cS cI cL cA cE zA zE eV eA eE eI eL eS hLi hrow hB;refine wpAnyIn_take (i := 4) (v := ?_) rfl rfl (by kernel_rfl) (by kernel_rfl) (by kernel_rfl) (fun _ _ _ h => h) ⟨Or.inl ⟨by rfl, ?_⟩, fun _ => rfl⟩ ?_
       rotate_left
       ·intro w; go_simp
        try with_reducible rfl
       refine wpAnyIn_ready (rs := [0, 1, 5]) (by kernel_rfl) (by simp) ?_
       refine qcgh rfl (fun K hK => ?_) ?_
       ·go_simp
        refine hK _ _ ?_;clear hK K;refine wpAnyIn_ready (rs := [1, 5]) (by kernel_rfl) (by simp) ?_
        refine qcgh rfl (fun K hK => ?_) ?_
        ·go_simp
         refine hK _ _ ?_;clear hK K;refine wpAnyIn_take (i := 2) (v := ?_) rfl rfl (by kernel_rfl) (by kernel_rfl) (by kernel_rfl) (fun _ _ _ h => h) ⟨Or.inl ⟨by rfl, ?_⟩, fun _ => rfl⟩ ?_
         rotate_left
         ·intro w; go_simp
          try with_reducible rfl
         refine wpAnyIn_ready (rs := [3, 5]) (by kernel_rfl) (by simp) ?_
         refine qcgh rfl (fun K hK => ?_) ?_
         ·go_simp
          refine hK _ _ ?_;clear hK K;refine wpAnyIn_ready (rs := [5]) (by kernel_rfl) (by simp) ?_
          refine qcgh rfl (fun K hK => ?_) ?_
          ·go_simp
           refine hK _ _ ?_;clear hK K;refine wpAnyIn_ready (rs := [6]) (by kernel_rfl) (by simp) ?_
           refine qcgh rfl (fun K hK => ?_) ?_
           ·refine qk rfl _ _ 31 rfl n₀ 9 i0 (.string .empty) 1 16 Tryz.underlying31 hi hz0 hz1 hz2 rfl (by decide) _ _ _ rfl (hr1.alloc _) ⟨W2.heap.size, 0, none⟩ 1 1 [.string (s.extract x.1 x.2)] rfl rfl (qm _ _ _) (qbg _) (by unfold maxLen; omega) (by omega) (by simp; omega) ?_
            intro v' w1 hown' hgrow _;obtain ⟨g', cap', rfl⟩ := ownsRow_succ hown';obtain ⟨hc1, hc2, hf2⟩ := HCL.out _ _ hgrow;refine hK _ _ ?_;clear hK K;refine wpAnyIn_take (i := 7) (v := ?_) rfl rfl (by kernel_rfl) (by kernel_rfl) (by kernel_rfl) (fun _ _ _ h => h) ⟨Or.inl ⟨by rfl, ?_⟩, fun _ => rfl⟩ ?_
            rotate_left
            ·intro w; go_simp
             try with_reducible rfl
            refine wpAnyIn_ready (rs := [8]) (by kernel_rfl) (by simp) ?_
            refine qcgh rfl (fun K hK => ?_) ?_
            ·go_simp
             refine hK _ _ ?_;clear hK K;refine wpAnyIn_done (by kernel_rfl) ?_ _
             exact FIN.out _ _ _ _ hown' hgrow _
            exact qcgk
           exact qcgk
          exact qcgk
         refine qcgh rfl (fun K hK => ?_) ?_
         ·go_simp
          refine hK _ _ ?_;clear hK K;refine wpAnyIn_ready (rs := [3]) (by kernel_rfl) (by simp) ?_
          refine qcgh rfl (fun K hK => ?_) ?_
          ·go_simp
           refine hK _ _ ?_;clear hK K;refine wpAnyIn_ready (rs := [6]) (by kernel_rfl) (by simp) ?_
           refine qcgh rfl (fun K hK => ?_) ?_
           ·refine qk rfl _ _ 31 rfl n₀ 9 i0 (.string .empty) 1 16 Tryz.underlying31 hi hz0 hz1 hz2 rfl (by decide) _ _ _ rfl (hr1.alloc _) ⟨W2.heap.size, 0, none⟩ 1 1 [.string (s.extract x.1 x.2)] rfl rfl (qm _ _ _) (qbg _) (by unfold maxLen; omega) (by omega) (by simp; omega) ?_
            intro v' w1 hown' hgrow _;obtain ⟨g', cap', rfl⟩ := ownsRow_succ hown';obtain ⟨hc1, hc2, hf2⟩ := HCL.out _ _ hgrow;refine hK _ _ ?_;clear hK K;refine wpAnyIn_take (i := 7) (v := ?_) rfl rfl (by kernel_rfl) (by kernel_rfl) (by kernel_rfl) (fun _ _ _ h => h) ⟨Or.inl ⟨by rfl, ?_⟩, fun _ => rfl⟩ ?_
            rotate_left
            ·intro w; go_simp
             try with_reducible rfl
            refine wpAnyIn_ready (rs := [8]) (by kernel_rfl) (by simp) ?_
            refine qcgh rfl (fun K hK => ?_) ?_
            ·go_simp
             refine hK _ _ ?_;clear hK K;refine wpAnyIn_done (by kernel_rfl) ?_ _
             exact FIN.out _ _ _ _ hown' hgrow _
            exact qcgk
           exact qcgk
          exact qcgk
         exact qcgk
        refine qcgh rfl (fun K hK => ?_) ?_
        ·go_simp
         refine hK _ _ ?_;clear hK K;refine wpAnyIn_ready (rs := [1]) (by kernel_rfl) (by simp) ?_
         refine qcgh rfl (fun K hK => ?_) ?_
         ·go_simp
          refine hK _ _ ?_;clear hK K;refine wpAnyIn_take (i := 2) (v := ?_) rfl rfl (by kernel_rfl) (by kernel_rfl) (by kernel_rfl) (fun _ _ _ h => h) ⟨Or.inl ⟨by rfl, ?_⟩, fun _ => rfl⟩ ?_
          rotate_left
          ·intro w; go_simp
           try with_reducible rfl
          refine wpAnyIn_ready (rs := [3]) (by kernel_rfl) (by simp) ?_
          refine qcgh rfl (fun K hK => ?_) ?_
          ·go_simp
           refine hK _ _ ?_;clear hK K;refine wpAnyIn_ready (rs := [6]) (by kernel_rfl) (by simp) ?_
           refine qcgh rfl (fun K hK => ?_) ?_
           ·refine qk rfl _ _ 31 rfl n₀ 9 i0 (.string .empty) 1 16 Tryz.underlying31 hi hz0 hz1 hz2 rfl (by decide) _ _ _ rfl (hr1.alloc _) ⟨W2.heap.size, 0, none⟩ 1 1 [.string (s.extract x.1 x.2)] rfl rfl (qm _ _ _) (qbg _) (by unfold maxLen; omega) (by omega) (by simp; omega) ?_
            intro v' w1 hown' hgrow _;obtain ⟨g', cap', rfl⟩ := ownsRow_succ hown';obtain ⟨hc1, hc2, hf2⟩ := HCL.out _ _ hgrow;refine hK _ _ ?_;clear hK K;refine wpAnyIn_take (i := 7) (v := ?_) rfl rfl (by kernel_rfl) (by kernel_rfl) (by kernel_rfl) (fun _ _ _ h => h) ⟨Or.inl ⟨by rfl, ?_⟩, fun _ => rfl⟩ ?_
            rotate_left
            ·intro w; go_simp
             try with_reducible rfl
            refine wpAnyIn_ready (rs := [8]) (by kernel_rfl) (by simp) ?_
            refine qcgh rfl (fun K hK => ?_) ?_
            ·go_simp
             refine hK _ _ ?_;clear hK K;refine wpAnyIn_done (by kernel_rfl) ?_ _
             exact FIN.out _ _ _ _ hown' hgrow _
            exact qcgk
           exact qcgk
          exact qcgk
         exact qcgk
        exact qcgk
       refine qcgh rfl (fun K hK => ?_) ?_
       ·go_simp
        refine hK _ _ ?_;clear hK K;refine wpAnyIn_take (i := 2) (v := ?_) rfl rfl (by kernel_rfl) (by kernel_rfl) (by kernel_rfl) (fun _ _ _ h => h) ⟨Or.inl ⟨by rfl, ?_⟩, fun _ => rfl⟩ ?_
        rotate_left
        ·intro w; go_simp
         try with_reducible rfl
        refine wpAnyIn_ready (rs := [0, 3, 5]) (by kernel_rfl) (by simp) ?_
        refine qcgh rfl (fun K hK => ?_) ?_
        ·go_simp
         refine hK _ _ ?_;clear hK K;refine wpAnyIn_ready (rs := [3, 5]) (by kernel_rfl) (by simp) ?_
         refine qcgh rfl (fun K hK => ?_) ?_
         ·go_simp
          refine hK _ _ ?_;clear hK K;refine wpAnyIn_ready (rs := [5]) (by kernel_rfl) (by simp) ?_
          refine qcgh rfl (fun K hK => ?_) ?_
          ·go_simp
           refine hK _ _ ?_;clear hK K;refine wpAnyIn_ready (rs := [6]) (by kernel_rfl) (by simp) ?_
           refine qcgh rfl (fun K hK => ?_) ?_
           ·refine qk rfl _ _ 31 rfl n₀ 9 i0 (.string .empty) 1 16 Tryz.underlying31 hi hz0 hz1 hz2 rfl (by decide) _ _ _ rfl (hr1.alloc _) ⟨W2.heap.size, 0, none⟩ 1 1 [.string (s.extract x.1 x.2)] rfl rfl (qm _ _ _) (qbg _) (by unfold maxLen; omega) (by omega) (by simp; omega) ?_
            intro v' w1 hown' hgrow _;obtain ⟨g', cap', rfl⟩ := ownsRow_succ hown';obtain ⟨hc1, hc2, hf2⟩ := HCL.out _ _ hgrow;refine hK _ _ ?_;clear hK K;refine wpAnyIn_take (i := 7) (v := ?_) rfl rfl (by kernel_rfl) (by kernel_rfl) (by kernel_rfl) (fun _ _ _ h => h) ⟨Or.inl ⟨by rfl, ?_⟩, fun _ => rfl⟩ ?_
            rotate_left
            ·intro w; go_simp
             try with_reducible rfl
            refine wpAnyIn_ready (rs := [8]) (by kernel_rfl) (by simp) ?_
            refine qcgh rfl (fun K hK => ?_) ?_
            ·go_simp
             refine hK _ _ ?_;clear hK K;refine wpAnyIn_done (by kernel_rfl) ?_ _
             exact FIN.out _ _ _ _ hown' hgrow _
            exact qcgk
           exact qcgk
          exact qcgk
         refine qcgh rfl (fun K hK => ?_) ?_
         ·go_simp
          refine hK _ _ ?_;clear hK K;refine wpAnyIn_ready (rs := [3]) (by kernel_rfl) (by simp) ?_
          refine qcgh rfl (fun K hK => ?_) ?_
          ·go_simp
           refine hK _ _ ?_;clear hK K;refine wpAnyIn_ready (rs := [6]) (by kernel_rfl) (by simp) ?_
           refine qcgh rfl (fun K hK => ?_) ?_
           ·refine qk rfl _ _ 31 rfl n₀ 9 i0 (.string .empty) 1 16 Tryz.underlying31 hi hz0 hz1 hz2 rfl (by decide) _ _ _ rfl (hr1.alloc _) ⟨W2.heap.size, 0, none⟩ 1 1 [.string (s.extract x.1 x.2)] rfl rfl (qm _ _ _) (qbg _) (by unfold maxLen; omega) (by omega) (by simp; omega) ?_
            intro v' w1 hown' hgrow _;obtain ⟨g', cap', rfl⟩ := ownsRow_succ hown';obtain ⟨hc1, hc2, hf2⟩ := HCL.out _ _ hgrow;refine hK _ _ ?_;clear hK K;refine wpAnyIn_take (i := 7) (v := ?_) rfl rfl (by kernel_rfl) (by kernel_rfl) (by kernel_rfl) (fun _ _ _ h => h) ⟨Or.inl ⟨by rfl, ?_⟩, fun _ => rfl⟩ ?_
            rotate_left
            ·intro w; go_simp
             try with_reducible rfl
            refine wpAnyIn_ready (rs := [8]) (by kernel_rfl) (by simp) ?_
            refine qcgh rfl (fun K hK => ?_) ?_
            ·go_simp
             refine hK _ _ ?_;clear hK K;refine wpAnyIn_done (by kernel_rfl) ?_ _
             exact FIN.out _ _ _ _ hown' hgrow _
            exact qcgk
           exact qcgk
          exact qcgk
         exact qcgk
        refine qcgh rfl (fun K hK => ?_) ?_
        ·go_simp
         refine hK _ _ ?_;clear hK K;refine wpAnyIn_ready (rs := [0, 5]) (by kernel_rfl) (by simp) ?_
         refine qcgh rfl (fun K hK => ?_) ?_
         ·go_simp
          refine hK _ _ ?_;clear hK K;refine wpAnyIn_ready (rs := [5]) (by kernel_rfl) (by simp) ?_
          refine qcgh rfl (fun K hK => ?_) ?_
          ·go_simp
           refine hK _ _ ?_;clear hK K;refine wpAnyIn_ready (rs := [6]) (by kernel_rfl) (by simp) ?_
           refine qcgh rfl (fun K hK => ?_) ?_
           ·refine qk rfl _ _ 31 rfl n₀ 9 i0 (.string .empty) 1 16 Tryz.underlying31 hi hz0 hz1 hz2 rfl (by decide) _ _ _ rfl (hr1.alloc _) ⟨W2.heap.size, 0, none⟩ 1 1 [.string (s.extract x.1 x.2)] rfl rfl (qm _ _ _) (qbg _) (by unfold maxLen; omega) (by omega) (by simp; omega) ?_
            intro v' w1 hown' hgrow _;obtain ⟨g', cap', rfl⟩ := ownsRow_succ hown';obtain ⟨hc1, hc2, hf2⟩ := HCL.out _ _ hgrow;refine hK _ _ ?_;clear hK K;refine wpAnyIn_take (i := 7) (v := ?_) rfl rfl (by kernel_rfl) (by kernel_rfl) (by kernel_rfl) (fun _ _ _ h => h) ⟨Or.inl ⟨by rfl, ?_⟩, fun _ => rfl⟩ ?_
            rotate_left
            ·intro w; go_simp
             try with_reducible rfl
            refine wpAnyIn_ready (rs := [8]) (by kernel_rfl) (by simp) ?_
            refine qcgh rfl (fun K hK => ?_) ?_
            ·go_simp
             refine hK _ _ ?_;clear hK K;refine wpAnyIn_done (by kernel_rfl) ?_ _
             exact FIN.out _ _ _ _ hown' hgrow _
            exact qcgk
           exact qcgk
          exact qcgk
         refine qcgh rfl (fun K hK => ?_) ?_
         ·go_simp
          refine hK _ _ ?_;clear hK K;refine wpAnyIn_ready (rs := [0, 6]) (by kernel_rfl) (by simp) ?_
          refine qcgh rfl (fun K hK => ?_) ?_
          ·go_simp
           refine hK _ _ ?_;clear hK K;refine wpAnyIn_ready (rs := [6]) (by kernel_rfl) (by simp) ?_
           refine qcgh rfl (fun K hK => ?_) ?_
           ·refine qk rfl _ _ 31 rfl n₀ 9 i0 (.string .empty) 1 16 Tryz.underlying31 hi hz0 hz1 hz2 rfl (by decide) _ _ _ rfl (hr1.alloc _) ⟨W2.heap.size, 0, none⟩ 1 1 [.string (s.extract x.1 x.2)] rfl rfl (qm _ _ _) (qbg _) (by unfold maxLen; omega) (by omega) (by simp; omega) ?_
            intro v' w1 hown' hgrow _;obtain ⟨g', cap', rfl⟩ := ownsRow_succ hown';obtain ⟨hc1, hc2, hf2⟩ := HCL.out _ _ hgrow;refine hK _ _ ?_;clear hK K;refine wpAnyIn_take (i := 7) (v := ?_) rfl rfl (by kernel_rfl) (by kernel_rfl) (by kernel_rfl) (fun _ _ _ h => h) ⟨Or.inl ⟨by rfl, ?_⟩, fun _ => rfl⟩ ?_
            rotate_left
            ·intro w; go_simp
             try with_reducible rfl
            refine wpAnyIn_ready (rs := [8]) (by kernel_rfl) (by simp) ?_
            refine qcgh rfl (fun K hK => ?_) ?_
            ·go_simp
             refine hK _ _ ?_;clear hK K;refine wpAnyIn_done (by kernel_rfl) ?_ _
             exact FIN.out _ _ _ _ hown' hgrow _
            exact qcgk
           exact qcgk
          refine qcgh rfl (fun K hK => ?_) ?_
          ·refine qk rfl _ _ 31 rfl n₀ 9 i0 (.string .empty) 1 16 Tryz.underlying31 hi hz0 hz1 hz2 rfl (by decide) _ _ _ rfl (hr1.alloc _) ⟨W2.heap.size, 0, none⟩ 1 1 [.string (s.extract x.1 x.2)] rfl rfl (qm _ _ _) (qbg _) (by unfold maxLen; omega) (by omega) (by simp; omega) ?_
           intro v' w1 hown' hgrow _;obtain ⟨g', cap', rfl⟩ := ownsRow_succ hown';obtain ⟨hc1, hc2, hf2⟩ := HCL.out _ _ hgrow;refine hK _ _ ?_;clear hK K;refine wpAnyIn_ready (rs := [0]) (by kernel_rfl) (by simp) ?_
           refine qcgh rfl (fun K hK => ?_) ?_
           ·go_simp
            refine hK _ _ ?_;clear hK K;refine wpAnyIn_take (i := 7) (v := ?_) rfl rfl (by kernel_rfl) (by kernel_rfl) (by kernel_rfl) (fun _ _ _ h => h) ⟨Or.inl ⟨by rfl, ?_⟩, fun _ => rfl⟩ ?_
            rotate_left
            ·intro w; go_simp
             try with_reducible rfl
            refine wpAnyIn_ready (rs := [8]) (by kernel_rfl) (by simp) ?_
            refine qcgh rfl (fun K hK => ?_) ?_
            ·go_simp
             refine hK _ _ ?_;clear hK K;refine wpAnyIn_done (by kernel_rfl) ?_ _
             exact FIN.out _ _ _ _ hown' hgrow _
            exact qcgk
           exact qcgk
          exact qcgk
         exact qcgk
        refine qcgh rfl (fun K hK => ?_) ?_
        ·go_simp
         refine hK _ _ ?_;clear hK K;refine wpAnyIn_ready (rs := [0, 3]) (by kernel_rfl) (by simp) ?_
         refine qcgh rfl (fun K hK => ?_) ?_
         ·go_simp
          refine hK _ _ ?_;clear hK K;refine wpAnyIn_ready (rs := [3]) (by kernel_rfl) (by simp) ?_
          refine qcgh rfl (fun K hK => ?_) ?_
          ·go_simp
           refine hK _ _ ?_;clear hK K;refine wpAnyIn_ready (rs := [6]) (by kernel_rfl) (by simp) ?_
           refine qcgh rfl (fun K hK => ?_) ?_
           ·refine qk rfl _ _ 31 rfl n₀ 9 i0 (.string .empty) 1 16 Tryz.underlying31 hi hz0 hz1 hz2 rfl (by decide) _ _ _ rfl (hr1.alloc _) ⟨W2.heap.size, 0, none⟩ 1 1 [.string (s.extract x.1 x.2)] rfl rfl (qm _ _ _) (qbg _) (by unfold maxLen; omega) (by omega) (by simp; omega) ?_
            intro v' w1 hown' hgrow _;obtain ⟨g', cap', rfl⟩ := ownsRow_succ hown';obtain ⟨hc1, hc2, hf2⟩ := HCL.out _ _ hgrow;refine hK _ _ ?_;clear hK K;refine wpAnyIn_take (i := 7) (v := ?_) rfl rfl (by kernel_rfl) (by kernel_rfl) (by kernel_rfl) (fun _ _ _ h => h) ⟨Or.inl ⟨by rfl, ?_⟩, fun _ => rfl⟩ ?_
            rotate_left
            ·intro w; go_simp
             try with_reducible rfl
            refine wpAnyIn_ready (rs := [8]) (by kernel_rfl) (by simp) ?_
            refine qcgh rfl (fun K hK => ?_) ?_
            ·go_simp
             refine hK _ _ ?_;clear hK K;refine wpAnyIn_done (by kernel_rfl) ?_ _
             exact FIN.out _ _ _ _ hown' hgrow _
            exact qcgk
           exact qcgk
          exact qcgk
         refine qcgh rfl (fun K hK => ?_) ?_
         ·go_simp
          refine hK _ _ ?_;clear hK K;refine wpAnyIn_ready (rs := [0, 6]) (by kernel_rfl) (by simp) ?_
          refine qcgh rfl (fun K hK => ?_) ?_
          ·go_simp
           refine hK _ _ ?_;clear hK K;refine wpAnyIn_ready (rs := [6]) (by kernel_rfl) (by simp) ?_
           refine qcgh rfl (fun K hK => ?_) ?_
           ·refine qk rfl _ _ 31 rfl n₀ 9 i0 (.string .empty) 1 16 Tryz.underlying31 hi hz0 hz1 hz2 rfl (by decide) _ _ _ rfl (hr1.alloc _) ⟨W2.heap.size, 0, none⟩ 1 1 [.string (s.extract x.1 x.2)] rfl rfl (qm _ _ _) (qbg _) (by unfold maxLen; omega) (by omega) (by simp; omega) ?_
            intro v' w1 hown' hgrow _;obtain ⟨g', cap', rfl⟩ := ownsRow_succ hown';obtain ⟨hc1, hc2, hf2⟩ := HCL.out _ _ hgrow;refine hK _ _ ?_;clear hK K;refine wpAnyIn_take (i := 7) (v := ?_) rfl rfl (by kernel_rfl) (by kernel_rfl) (by kernel_rfl) (fun _ _ _ h => h) ⟨Or.inl ⟨by rfl, ?_⟩, fun _ => rfl⟩ ?_
            rotate_left
            ·intro w; go_simp
             try with_reducible rfl
            refine wpAnyIn_ready (rs := [8]) (by kernel_rfl) (by simp) ?_
            refine qcgh rfl (fun K hK => ?_) ?_
            ·go_simp
             refine hK _ _ ?_;clear hK K;refine wpAnyIn_done (by kernel_rfl) ?_ _
             exact FIN.out _ _ _ _ hown' hgrow _
            exact qcgk
           exact qcgk
          refine qcgh rfl (fun K hK => ?_) ?_
          ·refine qk rfl _ _ 31 rfl n₀ 9 i0 (.string .empty) 1 16 Tryz.underlying31 hi hz0 hz1 hz2 rfl (by decide) _ _ _ rfl (hr1.alloc _) ⟨W2.heap.size, 0, none⟩ 1 1 [.string (s.extract x.1 x.2)] rfl rfl (qm _ _ _) (qbg _) (by unfold maxLen; omega) (by omega) (by simp; omega) ?_
           intro v' w1 hown' hgrow _;obtain ⟨g', cap', rfl⟩ := ownsRow_succ hown';obtain ⟨hc1, hc2, hf2⟩ := HCL.out _ _ hgrow;refine hK _ _ ?_;clear hK K;refine wpAnyIn_ready (rs := [0]) (by kernel_rfl) (by simp) ?_
           refine qcgh rfl (fun K hK => ?_) ?_
           ·go_simp
            refine hK _ _ ?_;clear hK K;refine wpAnyIn_take (i := 7) (v := ?_) rfl rfl (by kernel_rfl) (by kernel_rfl) (by kernel_rfl) (fun _ _ _ h => h) ⟨Or.inl ⟨by rfl, ?_⟩, fun _ => rfl⟩ ?_
            rotate_left
            ·intro w; go_simp
             try with_reducible rfl
            refine wpAnyIn_ready (rs := [8]) (by kernel_rfl) (by simp) ?_
            refine qcgh rfl (fun K hK => ?_) ?_
            ·go_simp
             refine hK _ _ ?_;clear hK K;refine wpAnyIn_done (by kernel_rfl) ?_ _
             exact FIN.out _ _ _ _ hown' hgrow _
            exact qcgk
           exact qcgk
          exact qcgk
         exact qcgk
        exact qcgk
       refine qcgh rfl (fun K hK => ?_) ?_
       ·go_simp
        refine hK _ _ ?_;clear hK K;refine wpAnyIn_ready (rs := [0, 1]) (by kernel_rfl) (by simp) ?_
        refine qcgh rfl (fun K hK => ?_) ?_
        ·go_simp
         refine hK _ _ ?_;clear hK K;refine wpAnyIn_ready (rs := [1]) (by kernel_rfl) (by simp) ?_
         refine qcgh rfl (fun K hK => ?_) ?_
         ·go_simp
          refine hK _ _ ?_;clear hK K;refine wpAnyIn_take (i := 2) (v := ?_) rfl rfl (by kernel_rfl) (by kernel_rfl) (by kernel_rfl) (fun _ _ _ h => h) ⟨Or.inl ⟨by rfl, ?_⟩, fun _ => rfl⟩ ?_
          rotate_left
          ·intro w; go_simp
           try with_reducible rfl
          refine wpAnyIn_ready (rs := [3]) (by kernel_rfl) (by simp) ?_
          refine qcgh rfl (fun K hK => ?_) ?_
          ·go_simp
           refine hK _ _ ?_;clear hK K;refine wpAnyIn_ready (rs := [6]) (by kernel_rfl) (by simp) ?_
           refine qcgh rfl (fun K hK => ?_) ?_
           ·refine qk rfl _ _ 31 rfl n₀ 9 i0 (.string .empty) 1 16 Tryz.underlying31 hi hz0 hz1 hz2 rfl (by decide) _ _ _ rfl (hr1.alloc _) ⟨W2.heap.size, 0, none⟩ 1 1 [.string (s.extract x.1 x.2)] rfl rfl (qm _ _ _) (qbg _) (by unfold maxLen; omega) (by omega) (by simp; omega) ?_
            intro v' w1 hown' hgrow _;obtain ⟨g', cap', rfl⟩ := ownsRow_succ hown';obtain ⟨hc1, hc2, hf2⟩ := HCL.out _ _ hgrow;refine hK _ _ ?_;clear hK K;refine wpAnyIn_take (i := 7) (v := ?_) rfl rfl (by kernel_rfl) (by kernel_rfl) (by kernel_rfl) (fun _ _ _ h => h) ⟨Or.inl ⟨by rfl, ?_⟩, fun _ => rfl⟩ ?_
            rotate_left
            ·intro w; go_simp
             try with_reducible rfl
            refine wpAnyIn_ready (rs := [8]) (by kernel_rfl) (by simp) ?_
            refine qcgh rfl (fun K hK => ?_) ?_
            ·go_simp
             refine hK _ _ ?_;clear hK K;refine wpAnyIn_done (by kernel_rfl) ?_ _
             exact FIN.out _ _ _ _ hown' hgrow _
            exact qcgk
           exact qcgk
          exact qcgk
         exact qcgk
        refine qcgh rfl (fun K hK => ?_) ?_
        ·go_simp
         refine hK _ _ ?_;clear hK K;refine wpAnyIn_take (i := 2) (v := ?_) rfl rfl (by kernel_rfl) (by kernel_rfl) (by kernel_rfl) (fun _ _ _ h => h) ⟨Or.inl ⟨by rfl, ?_⟩, fun _ => rfl⟩ ?_
         rotate_left
         ·intro w; go_simp
          try with_reducible rfl
         refine wpAnyIn_ready (rs := [0, 3]) (by kernel_rfl) (by simp) ?_
         refine qcgh rfl (fun K hK => ?_) ?_
         ·go_simp
          refine hK _ _ ?_;clear hK K;refine wpAnyIn_ready (rs := [3]) (by kernel_rfl) (by simp) ?_
          refine qcgh rfl (fun K hK => ?_) ?_
          ·go_simp
           refine hK _ _ ?_;clear hK K;refine wpAnyIn_ready (rs := [6]) (by kernel_rfl) (by simp) ?_
           refine qcgh rfl (fun K hK => ?_) ?_
           ·refine qk rfl _ _ 31 rfl n₀ 9 i0 (.string .empty) 1 16 Tryz.underlying31 hi hz0 hz1 hz2 rfl (by decide) _ _ _ rfl (hr1.alloc _) ⟨W2.heap.size, 0, none⟩ 1 1 [.string (s.extract x.1 x.2)] rfl rfl (qm _ _ _) (qbg _) (by unfold maxLen; omega) (by omega) (by simp; omega) ?_
            intro v' w1 hown' hgrow _;obtain ⟨g', cap', rfl⟩ := ownsRow_succ hown';obtain ⟨hc1, hc2, hf2⟩ := HCL.out _ _ hgrow;refine hK _ _ ?_;clear hK K;refine wpAnyIn_take (i := 7) (v := ?_) rfl rfl (by kernel_rfl) (by kernel_rfl) (by kernel_rfl) (fun _ _ _ h => h) ⟨Or.inl ⟨by rfl, ?_⟩, fun _ => rfl⟩ ?_
            rotate_left
            ·intro w; go_simp
             try with_reducible rfl
            refine wpAnyIn_ready (rs := [8]) (by kernel_rfl) (by simp) ?_
            refine qcgh rfl (fun K hK => ?_) ?_
            ·go_simp
             refine hK _ _ ?_;clear hK K;refine wpAnyIn_done (by kernel_rfl) ?_ _
             exact FIN.out _ _ _ _ hown' hgrow _
            exact qcgk
           exact qcgk
          exact qcgk
         refine qcgh rfl (fun K hK => ?_) ?_
         ·go_simp
          refine hK _ _ ?_;clear hK K;refine wpAnyIn_ready (rs := [0, 6]) (by kernel_rfl) (by simp) ?_
          refine qcgh rfl (fun K hK => ?_) ?_
          ·go_simp
           refine hK _ _ ?_;clear hK K;refine wpAnyIn_ready (rs := [6]) (by kernel_rfl) (by simp) ?_
           refine qcgh rfl (fun K hK => ?_) ?_
           ·refine qk rfl _ _ 31 rfl n₀ 9 i0 (.string .empty) 1 16 Tryz.underlying31 hi hz0 hz1 hz2 rfl (by decide) _ _ _ rfl (hr1.alloc _) ⟨W2.heap.size, 0, none⟩ 1 1 [.string (s.extract x.1 x.2)] rfl rfl (qm _ _ _) (qbg _) (by unfold maxLen; omega) (by omega) (by simp; omega) ?_
            intro v' w1 hown' hgrow _;obtain ⟨g', cap', rfl⟩ := ownsRow_succ hown';obtain ⟨hc1, hc2, hf2⟩ := HCL.out _ _ hgrow;refine hK _ _ ?_;clear hK K;refine wpAnyIn_take (i := 7) (v := ?_) rfl rfl (by kernel_rfl) (by kernel_rfl) (by kernel_rfl) (fun _ _ _ h => h) ⟨Or.inl ⟨by rfl, ?_⟩, fun _ => rfl⟩ ?_
            rotate_left
            ·intro w; go_simp
             try with_reducible rfl
            refine wpAnyIn_ready (rs := [8]) (by kernel_rfl) (by simp) ?_
            refine qcgh rfl (fun K hK => ?_) ?_
            ·go_simp
             refine hK _ _ ?_;clear hK K;refine wpAnyIn_done (by kernel_rfl) ?_ _
             exact FIN.out _ _ _ _ hown' hgrow _
            exact qcgk
           exact qcgk
          refine qcgh rfl (fun K hK => ?_) ?_
          ·refine qk rfl _ _ 31 rfl n₀ 9 i0 (.string .empty) 1 16 Tryz.underlying31 hi hz0 hz1 hz2 rfl (by decide) _ _ _ rfl (hr1.alloc _) ⟨W2.heap.size, 0, none⟩ 1 1 [.string (s.extract x.1 x.2)] rfl rfl (qm _ _ _) (qbg _) (by unfold maxLen; omega) (by omega) (by simp; omega) ?_
           intro v' w1 hown' hgrow _;obtain ⟨g', cap', rfl⟩ := ownsRow_succ hown';obtain ⟨hc1, hc2, hf2⟩ := HCL.out _ _ hgrow;refine hK _ _ ?_;clear hK K;refine wpAnyIn_ready (rs := [0]) (by kernel_rfl) (by simp) ?_
           refine qcgh rfl (fun K hK => ?_) ?_
           ·go_simp
            refine hK _ _ ?_;clear hK K;refine wpAnyIn_take (i := 7) (v := ?_) rfl rfl (by kernel_rfl) (by kernel_rfl) (by kernel_rfl) (fun _ _ _ h => h) ⟨Or.inl ⟨by rfl, ?_⟩, fun _ => rfl⟩ ?_
            rotate_left
            ·intro w; go_simp
             try with_reducible rfl
            refine wpAnyIn_ready (rs := [8]) (by kernel_rfl) (by simp) ?_
            refine qcgh rfl (fun K hK => ?_) ?_
            ·go_simp
             refine hK _ _ ?_;clear hK K;refine wpAnyIn_done (by kernel_rfl) ?_ _
             exact FIN.out _ _ _ _ hown' hgrow _
            exact qcgk
           exact qcgk
          exact qcgk
         exact qcgk
        exact qcgk
       exact qcgk
      ·generalize hkk : qbv false s.data.toList (seg s.data.toList x.1 x.2) x.2 = kk at *;have WC := qb WC0;clear WC0;have hkb : (kk != 0) = true := by simpa using hk0
       gi_wp2_with (refine ⟨trivial, ?_⟩; gi_at_call 74; refine (callsIn_wide.2 (WC.out _)).mono ?_; rintro e w' ⟨rfl, hw'⟩; rw [hw']; clear hw' w')
       obtain ⟨W1, hW1, hL1, hr1, hB1, hk1, h21, hs1⟩ := qlp (s := s) (cs := fun v => #[.string (s.extract 0 a), .string (s.extract b c), .string (s.extract d e), (.slice none 0 0), v]) (v := .slice ao pre.length cap) (x.2 : Int) kk (W.heap.size + 1 + 1 + 1) (W.heap.size + 1 + 1) (by omega) (by omega) hps1 (by omega) (by omega) hLi hrow hB
       rw [← hW1];exact ⟨hk1.from _, rfl, pre, x, rfl, hbad, by rw [hkk]; exact hk0, _, by rw [hkk]; exact hL1, hr1, hB1⟩
     case done_p3 =>
      rintro D2 ys Wc hD rfl ⟨⟨v, hL2, hrow, hB2⟩, hbad⟩ hK;clear cS cA cE v0 v1 v2 v3 v4 zA zE eV eA eE eS eR eF ls0 ls1 ls2 lr0 lr1 lr2 lf0 lf1 lf2 lv0 lv1 lv2 la0 la1 la2 le0 le1 le2 hL hBW hLs hBf hbA hbS hps hpsV hps1;simp only [qcgp] at hD;have hids := qzk false s.data.toList (e + 1) hbad;have hq := qhw s.data.toList (e + 1) (by rw [qh]; omega)
      rw [qh] at hq;have HT2 : Hid (qbf s.data.toList = putT a b c d e (if qcm (e + 1) (qp s.data.toList (e + 1)) < s.data.toList.length then .error (10, qcm (e + 1) (qp s.data.toList (e + 1))) else .ok ([], qp s.data.toList (e + 1)))) := by
       show _ = _;rw [HT.out, qbnz H43.out hids]
      rw [qmn] at hL2;have hne := qcx s.data.toList (e + 1);clear hids hbad HT H43;generalize qcm (e + 1) (qp s.data.toList (e + 1)) = q at *;generalize qp s.data.toList (e + 1) = Q at *;obtain ⟨g2, cap2, rfl⟩ := qbfb hrow (by cases Q with | nil => exact absurd rfl hne | cons _ _ => simp)
      obtain ⟨cur2, hg2, hgb2, HO2'⟩ := qwr hrow;have HO2 := qb HO2';clear HO2' hne;have hL : qbb Wc _ := qbb.cons hL2.head (qbb.cons hL2.tail.head (qbb.cons hL2.tail.tail.head (qbb.cons hL2.tail.tail.tail.tail.tail.tail.tail.head (qbb.cons hL2.tail.tail.tail.tail.tail.tail.tail.tail.head (qbb.cons hL2.tail.tail.tail.tail.tail.tail.tail.tail.tail.head (qbb.cons hgb2 (qbb.cons hK (qbb.nil _))))))));have hBW := hB2;clear hL2 hB2 hrow hK;have hVs : V + 3 ≤ Wc.heap.size := by have := hL.lt _ (qcgq _ (qcgq _ qchd)); simp only at this; omega
      have eV := hL.head;have eA := hL.tail.head;have eE := hL.tail.tail.head;have eS := hL.tail.tail.tail.head;have eR := hL.tail.tail.tail.tail.head;have eF := hL.tail.tail.tail.tail.tail.head;have y_g := hL.tail.tail.tail.tail.tail.tail.head;have y_D := hL.tail.tail.tail.tail.tail.tail.tail.head;have cS := qw eS;have cA := qw eA;have cE := qw eE;have v0 := qd 0 eV rfl;have v1 := qd 1 eV rfl;have v2 := qd 2 eV rfl;have v3 := qd 3 eV rfl;have v4 := qd 4 eV rfl;have zA := qf 0 eA;have zE := qf 0 eE
      by_cases hend : q = s.size
      ·have HP : Hid (qbf s.data.toList = .ok ⟨a, b, c, d, e, [], Q⟩) := by
        show _ = _;rw [HT2.out, if_neg (by rw [qh]; omega)]; rfl
       have hlt : ¬ ((q : Int) < (s.size : Int)) := by omega
       clear hend;have r0 := qd 0 eR rfl;have r1 := qd 1 eR rfl;have r2 := qd 2 eR rfl;have r3 := qd 3 eR rfl;have r4 := qd 4 eR rfl;have f0 := qd 0 eF rfl;have f1 := qd 1 eF rfl;have z0 := qf 0 eR;have z1 := qf 1 eR;have z2 := qf 2 eR;have z3 := qf 3 eR;have z4 := qf 4 eR;have y0 := qf 0 eF;have y1 := qf 1 eF;(go_wp2_with fail);rw [rounds_succ];go_wp2_with fail
       try rw [qcdz]
       obtain ⟨W9, hW9, gr, gf, hk, hbl⟩ := qdt (W := Wc) (B1 := w.heap.size + 1) (B2 := w.heap.size + 1 + 1) (by omega) (.string (s.extract 0 a)) (.string (s.extract b c)) (.string (s.extract d e)) (.slice none 0 0) (.slice (some ⟨g2, 0, none⟩) Q.length cap2) (.int .i64 0) (.int .i64 0) eR eF
       rw [← hW9];refine fin9 _ [D2] W9 w.heap.size (w.heap.size + 1) (w.heap.size + 1 + 1) _ _ _ _ _ _ _ ⟨_, _, _, rfl⟩ ⟨_, _, _, rfl⟩ rfl rfl gr gf (by simp) (by intro D hD; simp only [qcgw, qchc, or_false] at hD; rcases hD with rfl <;> exact ⟨by omega, (hk _ (by omega) (by omega)).trans (by assumption)⟩) ?_
       exact fun W' h => qtw (c := ⟨a, b, c, d, e, [], Q⟩) HP.out (hBW.trans (hbl _ (by omega) (by omega))) h (qchg _ _ _ _) (HO2.out _ _ ((hk g2 (by omega) (by omega)).trans y_g) (by omega))
      ·have hlt : q < s.size := by omega
       clear hend;have hb1 : ((s[q].toNat : Int) == 45) = false := qfl (k := 45) (by omega) (qbfm s q hlt hq.2)
       have hWs := hBW.size;have ls0 : w.heap.size < Wc.heap.size := by omega
       have ls1 : w.heap.size < Wc.heap.size + 1 := by omega
       have ls2 : w.heap.size < Wc.heap.size + 1 + 1 := by omega
       have lr0 : w.heap.size + 1 < Wc.heap.size := by omega
       have lr1 : w.heap.size + 1 < Wc.heap.size + 1 := by omega
       have lr2 : w.heap.size + 1 < Wc.heap.size + 1 + 1 := by omega
       have lf0 : w.heap.size + 1 + 1 < Wc.heap.size := by omega
       have lf1 : w.heap.size + 1 + 1 < Wc.heap.size + 1 := by omega
       have lf2 : w.heap.size + 1 + 1 < Wc.heap.size + 1 + 1 := by omega
       have lv0 : V < Wc.heap.size := by omega
       have lv1 : V < Wc.heap.size + 1 := by omega
       have lv2 : V < Wc.heap.size + 1 + 1 := by omega
       have la0 : V + 1 < Wc.heap.size := by omega
       have la1 : V + 1 < Wc.heap.size + 1 := by omega
       have la2 : V + 1 < Wc.heap.size + 1 + 1 := by omega
       have le0 : V + 1 + 1 < Wc.heap.size := by omega
       have le1 : V + 1 + 1 < Wc.heap.size + 1 := by omega
       have le2 : V + 1 + 1 < Wc.heap.size + 1 + 1 := by omega
       by_cases h43 : s[q] = 43
       ·have hb2 : ((s[q].toNat : Int) != 43) = false := by rw [h43]; rfl
        clear h43;(go_wp2_with fail);have HP : Hid (qbf s.data.toList = .error ((10 : Int), q)) := by
         show _ = _;rw [HT2.out, if_pos (by rw [qh]; exact hlt)]; rfl
        rw [rounds_succ];(go_wp2_with fail);obtain ⟨W8, hW8, hL8, hB8⟩ := qjv (w := w) (o1 := .cells #[.bool false] 4) (o2 := .cells #[.pointer (some ⟨V, 4, none⟩)] 104) (by omega) (by omega) (by
         intro q hq;simp only [qcgw, qchc, or_false] at hq;rcases hq with rfl | rfl | rfl | rfl | rfl <;> simp only <;> omega) hL hBW
        rw [← hW8];clear hW8 cS cA cE v0 v1 v2 v3 v4 zA zE eV eA eE eS eR eF ls0 ls1 ls2 lr0 lr1 lr2 lf0 lf1 lf2 lv0 lv1 lv2 la0 la1 la2 le0 le1 le2;have eA := hL8.tail.head;have eE := hL8.tail.tail.head;have eR := hL8.tail.tail.tail.tail.head;have eF := hL8.tail.tail.tail.tail.tail.head;have cA := qw eA;have cE := qw eE;have xd0 := hL8.tail.tail.tail.tail.tail.tail.tail.head;have r0 := qd 0 eR rfl;have r1 := qd 1 eR rfl;have r2 := qd 2 eR rfl;have r3 := qd 3 eR rfl;have r4 := qd 4 eR rfl;have f0 := qd 0 eF rfl;have f1 := qd 1 eF rfl;have z0 := qf 0 eR;have z1 := qf 1 eR;have z2 := qf 2 eR;have z3 := qf 3 eR;have z4 := qf 4 eR;have y0 := qf 0 eF;have y1 := qf 1 eF;replace hBW := hB8;clear eA eE hL8 hB8;go_region
        go_wp2_with fail
        try rw [qcdz]
        obtain ⟨W9, hW9, gr, gf, hk, hbl⟩ := qdt (W := W8) (B1 := w.heap.size + 1) (B2 := w.heap.size + 1 + 1) (by omega) (.string ⟨#[]⟩) (.string ⟨#[]⟩) (.string ⟨#[]⟩) (.slice none 0 0) (.slice none 0 0) (.int .i64 (((10 : Int), q)).1) (.int .i64 ((((10 : Int), q)).2 : Int)) eR eF
        rw [← hW9];refine fin9 _ [D2] W9.drew w.heap.size (w.heap.size + 1) (w.heap.size + 1 + 1) _ _ _ _ _ _ _ ⟨_, _, _, rfl⟩ ⟨_, _, _, rfl⟩ rfl rfl gr gf (by simp) (by intro D hD; simp only [qcgw, qchc, or_false] at hD; rcases hD with rfl <;> exact ⟨by omega, (hk _ (by omega) (by omega)).trans (by assumption)⟩) ?_
        exact fun W' h => qgr HP.out ((hBW.trans (hbl _ (by omega) (by omega))).drew) h
       ·have hb2 : ((s[q].toNat : Int) != 43) = true := by have := qfl (k := 43) (by omega) h43; simpa [bne] using this
        clear h43;(go_wp2_with fail);have HP : Hid (qbf s.data.toList = .error ((10 : Int), q)) := by
         show _ = _;rw [HT2.out, if_pos (by rw [qh]; exact hlt)]; rfl
        rw [rounds_succ];(go_wp2_with fail);obtain ⟨W8, hW8, hL8, hB8⟩ := qjv (w := w) (o1 := .cells #[.bool false] 4) (o2 := .cells #[.pointer (some ⟨V, 4, none⟩)] 104) (by omega) (by omega) (by
         intro q hq;simp only [qcgw, qchc, or_false] at hq;rcases hq with rfl | rfl | rfl | rfl | rfl <;> simp only <;> omega) hL hBW
        rw [← hW8];clear hW8 cS cA cE v0 v1 v2 v3 v4 zA zE eV eA eE eS eR eF ls0 ls1 ls2 lr0 lr1 lr2 lf0 lf1 lf2 lv0 lv1 lv2 la0 la1 la2 le0 le1 le2;have eA := hL8.tail.head;have eE := hL8.tail.tail.head;have eR := hL8.tail.tail.tail.tail.head;have eF := hL8.tail.tail.tail.tail.tail.head;have cA := qw eA;have cE := qw eE;have xd0 := hL8.tail.tail.tail.tail.tail.tail.tail.head;have r0 := qd 0 eR rfl;have r1 := qd 1 eR rfl;have r2 := qd 2 eR rfl;have r3 := qd 3 eR rfl;have r4 := qd 4 eR rfl;have f0 := qd 0 eF rfl;have f1 := qd 1 eF rfl;have z0 := qf 0 eR;have z1 := qf 1 eR;have z2 := qf 2 eR;have z3 := qf 3 eR;have z4 := qf 4 eR;have y0 := qf 0 eF;have y1 := qf 1 eF;replace hBW := hB8;clear eA eE hL8 hB8;go_region
        go_wp2_with fail
        try rw [qcdz]
        obtain ⟨W9, hW9, gr, gf, hk, hbl⟩ := qdt (W := W8) (B1 := w.heap.size + 1) (B2 := w.heap.size + 1 + 1) (by omega) (.string ⟨#[]⟩) (.string ⟨#[]⟩) (.string ⟨#[]⟩) (.slice none 0 0) (.slice none 0 0) (.int .i64 (((10 : Int), q)).1) (.int .i64 ((((10 : Int), q)).2 : Int)) eR eF
        rw [← hW9];refine fin9 _ [D2] W9.drew w.heap.size (w.heap.size + 1) (w.heap.size + 1 + 1) _ _ _ _ _ _ _ ⟨_, _, _, rfl⟩ ⟨_, _, _, rfl⟩ rfl rfl gr gf (by simp) (by intro D hD; simp only [qcgw, qchc, or_false] at hD; rcases hD with rfl <;> exact ⟨by omega, (hk _ (by omega) (by omega)).trans (by assumption)⟩) ?_
        exact fun W' h => qgr HP.out ((hBW.trans (hbl _ (by omega) (by omega))).drew) h
     case stop_p3 =>
      rintro D9 c ys W7 hD hpre ⟨rfl, pre, x, rfl, hbad, hx, v, hL7, hrow, hB7⟩ hK;clear cS cA cE v0 v1 v2 v3 v4 zA zE eV eA eE eS eR eF ls0 ls1 ls2 lr0 lr1 lr2 lf0 lf1 lf2 lv0 lv1 lv2 la0 la1 la2 le0 le1 le2 hL hBW hLs hBf hbA hbS hps hpsV hps1;simp only [qcgp] at hD;have HP : Hid (qbf s.data.toList = .error (qbv false s.data.toList (seg s.data.toList x.1 x.2) x.2, x.2)) := by
       show _ = _;rw [HT.out, qbgw H43.out (qqx false _ _ pre x hbad hx hpre)]; rfl
      generalize qbv false s.data.toList (seg s.data.toList x.1 x.2) x.2 = kk at *;have hkb : (kk != 0) = true := by simpa using hx
      have hkc : (kk == 0) = false := by simpa using hx
      have eA := hL7.tail.head;have eE := hL7.tail.tail.head;have eR := hL7.tail.tail.tail.tail.tail.tail.tail.tail.head;have eF := hL7.tail.tail.tail.tail.tail.tail.tail.tail.tail.head;have cA := qw eA;have cE := qw eE;have r0 := qd 0 eR rfl;have r1 := qd 1 eR rfl;have r2 := qd 2 eR rfl;have r3 := qd 3 eR rfl;have r4 := qd 4 eR rfl;have f0 := qd 0 eF rfl;have f1 := qd 1 eF rfl;have z0 := qf 0 eR;have z1 := qf 1 eR;have z2 := qf 2 eR;have z3 := qf 3 eR;have z4 := qf 4 eR;have y0 := qf 0 eF;have y1 := qf 1 eF;have hBW := hB7;clear eA eE hL7 hB7 hrow hbad hx hpre;refine wpIn_wide.2 ?_;(go_wp2_with fail);go_region
      go_wp2_with fail
      try rw [qcdz]
      obtain ⟨W9, hW9, gr, gf, hk, hbl⟩ := qdt (W := W7) (B1 := w.heap.size + 1) (B2 := w.heap.size + 1 + 1) (by omega) (.string ⟨#[]⟩) (.string ⟨#[]⟩) (.string ⟨#[]⟩) (.slice none 0 0) (.slice none 0 0) (.int .i64 ((kk, x.2)).1) (.int .i64 (((kk, x.2)).2 : Int)) eR eF
      rw [← hW9];refine fin9 _ [D9] W9.drew w.heap.size (w.heap.size + 1) (w.heap.size + 1 + 1) _ _ _ _ _ _ _ ⟨_, _, _, rfl⟩ ⟨_, _, _, rfl⟩ rfl rfl gr gf (by simp) (by intro D hD; simp only [qcgw, qchc, or_false] at hD; rcases hD with rfl <;> exact ⟨by omega, (hk _ (by omega) (by omega)).trans (by assumption)⟩) ?_
      exact fun W' h => qgr HP.out ((hBW.trans (hbl _ (by omega) (by omega))).drew) h
    ·have hb2 : ((s[e].toNat : Int) != 43) = true := by have := qfl (k := 43) (by omega) h43; simpa [bne] using this
     have h43n : ¬ s.data.toList[e]? = some 43 := by rw [qdz s e hlt]; simpa using h43
     clear h43;have HP : Hid (qbf s.data.toList = .error ((10 : Int), e)) := by
      show _ = _;rw [HT.out, qqh h43n, if_pos (by rw [qh]; exact hlt)]; rfl
     rw [rounds_succ];(go_wp2_with fail);obtain ⟨W8, hW8, hL8, hB8⟩ := qjv (w := w) (o1 := .cells #[.bool false] 4) (o2 := .cells #[.pointer (some ⟨V, 4, none⟩)] 104) (by omega) (by omega) (by
      intro q hq;simp only [qcgw, qchc, or_false] at hq;rcases hq with rfl | rfl | rfl <;> simp only <;> omega) hL hBW
     rw [← hW8];clear hW8 cS cA cE v0 v1 v2 v3 v4 zA zE eV eA eE eS eR eF ls0 ls1 ls2 lr0 lr1 lr2 lf0 lf1 lf2 lv0 lv1 lv2 la0 la1 la2 le0 le1 le2;have eA := hL8.tail.head;have eE := hL8.tail.tail.head;have eR := hL8.tail.tail.tail.tail.head;have eF := hL8.tail.tail.tail.tail.tail.head;have cA := qw eA;have cE := qw eE;have r0 := qd 0 eR rfl;have r1 := qd 1 eR rfl;have r2 := qd 2 eR rfl;have r3 := qd 3 eR rfl;have r4 := qd 4 eR rfl;have f0 := qd 0 eF rfl;have f1 := qd 1 eF rfl;have z0 := qf 0 eR;have z1 := qf 1 eR;have z2 := qf 2 eR;have z3 := qf 3 eR;have z4 := qf 4 eR;have y0 := qf 0 eF;have y1 := qf 1 eF;replace hBW := hB8;clear eA eE hL8 hB8;go_region
     go_wp2_with fail
     try rw [qcdz]
     obtain ⟨W9, hW9, gr, gf, hk, hbl⟩ := qdt (W := W8) (B1 := w.heap.size + 1) (B2 := w.heap.size + 1 + 1) (by omega) (.string ⟨#[]⟩) (.string ⟨#[]⟩) (.string ⟨#[]⟩) (.slice none 0 0) (.slice none 0 0) (.int .i64 (((10 : Int), e)).1) (.int .i64 ((((10 : Int), e)).2 : Int)) eR eF
     rw [← hW9];refine fin9 _ [] W9.drew w.heap.size (w.heap.size + 1) (w.heap.size + 1 + 1) _ _ _ _ _ _ _ ⟨_, _, _, rfl⟩ ⟨_, _, _, rfl⟩ rfl rfl gr gf (by simp) (by simp) ?_
     exact fun W' h => qgr HP.out ((hBW.trans (hbl _ (by omega) (by omega))).drew) h
theorem qvp (s : QY) (w : QW) (hs : s.size ≤ 64) : Calls Tryz.prog 39 #[.string s] w (qtn s w) :=
 (callsIn_wide (n := 5)).1 (Parse_in s w hs)
end Go.Proofs.YtpdlgiioahjhiaaGreat
