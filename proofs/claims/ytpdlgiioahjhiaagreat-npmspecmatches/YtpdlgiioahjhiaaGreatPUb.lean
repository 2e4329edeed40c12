/- Walks: the document's order of texts. -/
import Derived.Test.YtpdlgiioahjhiaaGreatPEzo
import Derived.Test.YtpdlgiioahjhiaaGreatPMf
import Derived.Deep.RegionHeld3
import Derived.BigQuiet
import Derived.Test.YtpdlgiioahjhiaaGreatPKo
import Derived.Test.YtpdlgiioahjhiaaGreatPEzl
import Derived.Test.YtpdlgiioahjhiaaGreatPKe
import Derived.Test.YtpdlgiioahjhiaaGreatPBa
namespace Go.Proofs.YtpdlgiioahjhiaaGreat
open Go.RowKit Go.Shelf
open Go renaming World → QW
set_option linter.unusedVariables false
set_option maxHeartbeats 8000000
set_option maxRecDepth 100000
def P30 (R : Int × Int × List (List Comp)) (w : QW) (e : Ending) (w' : QW) : Prop :=
 ∃ v, e = .returned (.tuple #[v, .int .i64 R.1, .int .i64 R.2.1]) ∧ qlb w.heap.size w' v R.2.2 ∧ Below w.heap.size w w'
theorem qlb.mono {lo lo' : Nat} {W : QW} {v : Value} {l : List (List Comp)} (h : qlb lo W v l) (hl : lo' ≤ lo) : qlb lo' W v l := by
 obtain ⟨us, h1, h2⟩ := h;refine ⟨us, qqq h1 hl, fun i hi => ?_⟩;obtain ⟨u, h3, h4⟩ := h2 i hi;exact ⟨u, h3, h4.keep (A' := fun b => lo' ≤ b ∧ v.ownBlock ≠ some b) ⟨Nat.le_refl _, fun _ _ _ _ _ h => h⟩ (fun b hb _ => ⟨Nat.le_trans hl hb.1, hb.2⟩)⟩
def slcLen : Value → Nat
 | .slice _ n _ => n
 | _ => 0
theorem qbvw {w0 w W : QW} {B : Nat} (h : Below w0.heap.size w0 w) (t : Turn B w W) (hB : w0.heap.size ≤ B) : Below w0.heap.size w0 W :=
 ⟨t.os.trans h.os, t.tape.trans h.tape, t.output.trans h.output, Nat.le_trans h.size t.size, fun k hk => (t.block k (Nat.lt_of_lt_of_le hk h.size) (by omega)).trans (h.block k hk)⟩
structure PW (w W : QW) (s : QY) (c : Nat) (e q : Int) (v : Value) (sets : List (List Comp)) : Prop where
 rd : NrAt W w.heap.size s c e q
 st : qlb (w.heap.size + 1) W v sets
 bel : Below w.heap.size w W
section
variable {w W W' : World} {c c' : Nat} {s : ByteArray} {e e' q q' : Int} {v : Value} {sets : List (List Comp)}
theorem PW.turn (h : PW w W s c e q v sets) (t : Turn w.heap.size W W') (r : NrAt W' w.heap.size s c' e' q') : PW w W' s c' e' q' v sets :=
 ⟨r, h.st.keep (qjd t (fun b hb => by omega)), qbvw h.bel t (Nat.le_refl _)⟩
theorem PW.drewN (h : PW w W s c e q v sets) (k : Nat) : PW w (W.drewN k) s c e q v sets := h.turn (Turn.drewN _ W k) (h.rd.drewN k)
theorem PW.drew (h : PW w W s c e q v sets) : PW w W.drew s c e q v sets := h.drewN 1
theorem PW.step (h : PW w W s c e q v sets) : PW w (W.setCell ⟨w.heap.size, 1, none⟩ (.int .i64 ((c : Int) + 1))) s (c + 1) e q v sets := h.turn (Turn.set _ 1 W _) h.rd.step
theorem PW.seen (h : PW w W s c e q v sets) : (W.cell? ⟨w.heap.size, 0, none⟩ = some (.string s) ∧ W.cell? ⟨w.heap.size, 1, none⟩ = some (.int .i64 (c : Int)) ∧ W.cell? ⟨w.heap.size, 2, none⟩ = some (.int .i64 e)) ∧ W.frozen? ⟨w.heap.size, 1, none⟩ = false :=
 ⟨⟨h.rd.seen.1, h.rd.seen.2.1, h.rd.seen.2.2.1⟩, qf 1 h.rd⟩
theorem PW.slice (h : PW w W s c e q v sets) : ∃ a k, v = .slice a sets.length k := by
 obtain ⟨us, h1, _⟩ := h.st;obtain ⟨a, k, hv, _⟩ := qdd h1;exact ⟨a, k, hv⟩
theorem PW.app (h : PW w W s c e q v sets) {u : Value} {cs : List Comp} {xs : List Value} {w0 : QW} (hs0 : w.heap.size + 1 ≤ w0.heap.size) (hv0 : ∀ g, v.ownBlock = some g → g < w0.heap.size) (hu : W.ownsRow w0.heap.size 35 6 u cs.length xs) (hc : qbw (fun b => w0.heap.size ≤ b) W cs xs) (hul : u.oneCell' = true) (hn : sets.length ≤ 1048576) :
  ∃ v' W', (Builtin.append_ #[22, 22] 22 #[v, .slice (some ⟨W.heap.size, 0, none⟩) 1 1]).run Tryz.prog (W.alloc (.cells #[u] 39)) = .ok v' W' ∧ PW w W' s c e q v' (sets ++ [cs]) := by
 obtain ⟨i0, hi, hz0, hz1, hz2⟩ := info_parts info39;obtain ⟨us, h1, h2⟩ := h.st;have hlo : w.heap.size + 1 ≤ W.heap.size := by have := h.rd.lt; omega
 have hkb : ∀ {A : Nat → Prop}, Keep A W (W.alloc (.cells #[u] 39)) := qfh ((Below.refl _ W).alloc (Nat.le_refl _) _);have h1' := qgq (A := fun _ => True) h1 hkb (fun _ _ => trivial);have hsz : (W.alloc (.cells #[u] 39)).heap.size = W.heap.size + 1 := by simp
 obtain ⟨v', W', r1, r2, r3, _, r4⟩ := run_append_own_at (P := Tryz.prog) (w := W.alloc (.cells #[u] 39)) (w.heap.size + 1) 22 22 39 i0 _ 1 24 Tryz.underlying22 hi hz0 hz1 hz2 rfl (by decide) v sets.length us h1' ⟨W.heap.size, 0, none⟩ 1 1 [u] rfl
  (fun j x hx => qvg (qd j (World.alloc_heap_new W (.cells #[u] 39)) (by rw [List.getElem?_toArray]; exact hx))) (fun x hx => by rw [List.mem_singleton.1 hx]; exact hul) (by unfold maxLen; omega) (by omega) (by rw [hsz]; omega)
 have hlt := qcn h1';have hgb : ∀ k, k < W.heap.size → k < w.heap.size + 1 → W'.heap[k]? = W.heap[k]? := fun k h3 h4 => (r3.block k (by rw [hsz]; omega) (fun e => by have := (hlt k e.symm).1; omega)).trans (Below.heap_alloc _ _ _ h3)
 refine ⟨v', W', r1, ?_, ?_, ?_⟩
 ·exact (hgb _ h.rd.lt (by omega)).trans h.rd
 ·refine qlb.snoc h1' (fun i hi => ?_) ?_ r2 r3 r4
  ·obtain ⟨x, q1, q2⟩ := h2 i hi;exact ⟨x, q1, q2.keep hkb (fun _ hb _ => hb)⟩
  ·refine SetO.keep (A := fun b => w0.heap.size ≤ b) ⟨xs, qqq hu (Nat.zero_le _), fun g hg => (qcn hu g hg).1, hc⟩ hkb (fun b hb _ => ⟨by omega, fun e => by have := hv0 b e; omega⟩)
 ·have ha : Below w.heap.size w (W.alloc (.cells #[u] 39)) := h.bel.alloc h.bel.size _;exact ⟨r3.os.trans ha.os, r3.tape.trans ha.tape, r3.output.trans ha.output, Nat.le_trans ha.size r3.size, fun k hk => (hgb k (Nat.lt_of_lt_of_le hk h.bel.size) (by omega)).trans (h.bel.block k hk)⟩
end
theorem PW.start (w : QW) (s : QY) : PW w (w.alloc (.cells #[.string s, .int .i64 0, .int .i64 0, .int .i64 0] 86)) s 0 0 0 (.slice none 0 0) [] :=
 ⟨World.alloc_heap_new w _, ⟨[], World.ownsRow_nil _ _ _ _, fun i h => by cases h⟩, (Below.refl _ w).alloc (Nat.le_refl _) _⟩
theorem one_le (l : QB) (a : Nat) : setA l a = if (qbr l a).1 = 0 then blk l (qbr l a).2.1.toNat else (qbr l a).2.1.toNat := rfl
theorem qtc (lo : Nat) (W : QW) : qlb lo W (.slice none 0 0) [] := ⟨[], World.ownsRow_nil _ _ _ _, fun i h => by cases h⟩
structure PWI (l : QB) (c : Nat) (sets : List (List Comp)) (G : Int × Int × List (List Comp)) : Prop where
 cl : c ≤ l.length
 num : sets.length ≤ 31
 eq : G = npGo l (33 - sets.length) c sets
section
variable {l : List UInt8} {c : Nat} {sets : List (List Comp)} {G : Int × Int × List (List Comp)}
theorem PWI.bad (h : PWI l c sets G) (he : (qbr l c).1 ≠ 0) : G = ((qbr l c).1, (qbr l c).2.1, []) := by
 have := h.num;rw [h.eq, show 33 - sets.length = (32 - sets.length) + 1 by omega, npGo, if_pos he]
theorem PWI.done (h : PWI l c sets G) (he : (qbr l c).1 = 0) (hb : setA l c = l.length) : G = (0, 0, sets ++ [(qbr l c).2.2]) := by
 have := h.num;unfold setA at hb;rw [if_pos he] at hb;rw [h.eq, show 33 - sets.length = (32 - sets.length) + 1 by omega, npGo, if_neg (by simp [he]), if_pos hb]
theorem PWI.more (h : PWI l c sets G) (he : (qbr l c).1 = 0) (hb : setA l c ≠ l.length) :
  (¬ l[setA l c + 1]? = some 124 → G = (misL l.length (setA l c + 1), ((setA l c + 1 : Nat) : Int), [])) ∧
  (l[setA l c + 1]? = some 124 → sets.length + 1 = 32 → G = (12, ((setA l c + 1 : Nat) : Int), [])) ∧
  (l[setA l c + 1]? = some 124 → sets.length + 1 ≠ 32 → PWI l (setA l c + 2) (sets ++ [(qbr l c).2.2]) G) := by
 have hn := h.num;have hA : setA l c = blk l (qbr l c).2.1.toNat := if_pos he;have hG : G = npGo l ((32 - sets.length) + 1) c sets := by rw [h.eq, show 33 - sets.length = (32 - sets.length) + 1 by omega]
 rw [npGo, if_neg (by simp [he]), if_neg (by rw [← hA]; exact hb), ← hA] at hG
 refine ⟨fun h1 => ?_, fun h1 h2 => ?_, fun h1 h2 => ?_⟩
 ·have hB : qgg l (setA l c) (sets.length + 1) = (setA l c + 1, misL l.length (setA l c + 1)) := by unfold qgg; rw [if_neg h1]
  rw [hG, hB, if_pos (qch _ _)]
 ·have hB : qgg l (setA l c) (sets.length + 1) = (setA l c + 1, 12) := by unfold qgg; rw [if_pos h1, if_pos h2]
  rw [hG, hB, if_pos (by simp)]
 ·have hB : qgg l (setA l c) (sets.length + 1) = (setA l c + 2, 0) := by unfold qgg; rw [if_pos h1, if_neg h2]
  rw [hB, if_neg (by simp)] at hG
  have hlt := (List.getElem?_eq_some_iff.1 h1).1;refine ⟨by omega, by rw [List.length_append]; simp; omega, ?_⟩
  rw [hG, List.length_append];simp only [List.length_cons, List.length_nil]
  congr 1
  omega
end
theorem qbpp (s : QY) (w : QW) (hs : 256 < s.size) : Calls Tryz.prog 30 #[.string s] w (P30 (12, 256, []) w) := by
 have hs' : decide ((256 : Int) < (s.size : Int)) = true := by simp; omega
 clear hs;go_enter Tryz.func30, Tryz.ntmps30
 (go_wp2_with fail);go_ret3
 exact ⟨_, rfl, qtc _ _, Below.refl _ _⟩
theorem qcdd (s : QY) (w : QW) (hs : s.size ≤ 256) : Calls Tryz.prog 30 #[.string s] w (P30 (npGo s.data.toList 33 0 []) w) := by
 have hs' : decide ((256 : Int) < (s.size : Int)) = false := by simp; omega
 have HL : Hid (s.data.toList.length = s.size) := qh s;obtain ⟨G, hG⟩ : ∃ G, npGo s.data.toList 33 0 [] = G := ⟨_, rfl⟩;rw [hG];have HG := qb hG;clear hG;have Q0 := qb (PW.start w s);go_enter Tryz.func30, Tryz.ntmps30
 (go_wp2_with fail);generalize w.alloc _ = W0 at *;go_loopw [6] (fun vv wr => ∃ (c : Nat) (q : Int) (v : Value) (sets : List (List Comp)), vv = v ∧ c ≤ s.size ∧ Hid (PW w wr s c 0 q v sets) ∧ Hid (PWI s.data.toList c sets G)) (fun v _ => 33 - slcLen v)
 case atStart => exact ⟨0, 0, _, [], rfl, Nat.zero_le _, Q0, ⟨Nat.zero_le _, Nat.zero_le _, HG.out.symm⟩⟩
 case round =>
  clear Q0;obtain ⟨c, q, v, sets, rfl, hcs, Q1, HI⟩ := hrel;obtain ⟨va, vk, hv⟩ := Q1.out.slice;obtain ⟨N, hN⟩ : ∃ N, sets.length = N := ⟨_, rfl⟩;rw [hN] at hv;subst hv;have HN := qb hN;clear hN;(go_wp2_with fail);refine (nset_any w.heap.size s c q wr Q1.out.rd hcs hs).mono ?_;rintro r w2 ⟨⟨q2, h2⟩, t2, u, rfl, ⟨ua, un, uc, rfl⟩, hok, hpos⟩;have Q2 := qb (Q1.out.turn t2 h2);have HOK := qb hok;have HPOS := qb hpos;have HBAD := qb (fun h => HI.out.bad h);have HDONE := qb (fun h1 h2 => HI.out.done h1 h2);have HMORE := qb (fun h1 h2 => HI.out.more h1 h2);have HA := qb (one_le s.data.toList c);have OL1 := qb (qcn Q1.out.st.choose_spec.1);have LO1 : Hid (w.heap.size + 1 ≤ wr.heap.size) := Q1.out.rd.lt;clear h2 t2 hok hpos;generalize setA s.data.toList c = d at *;generalize qbr s.data.toList c = X at *;obtain ⟨xe, xp, cs⟩ := X;dsimp only at *;obtain ⟨⟨c0, c1, c2⟩, f1⟩ := Q2.out.seen
  by_cases hx : xe = 0
  ·subst hx;have b1 : ((0 : Int) != 0) = false := rfl;obtain ⟨hds, xs, hr, hc⟩ := HOK.out rfl;obtain ⟨v', w3, hrun, hpw⟩ := Q2.out.app (u := .slice ua un uc) (w0 := wr) LO1.out (fun g hg => (OL1.out g hg).2) hr hc rfl (by have := HI.out.num; omega)
   obtain ⟨va', vk', hv'⟩ := hpw.slice;obtain ⟨M, hM⟩ : ∃ M, (sets ++ [cs]).length = M := ⟨_, rfl⟩;have HM : Hid (M = N + 1) := by show _ = _; rw [← hM, List.length_append, HN.out]; rfl
   rw [hM] at hv';subst hv';have HDN := qb (HDONE.out rfl);have HMR := qb (HMORE.out rfl);have Q3 := qb hpw;have HLN := qb hM;clear hr hc hpw HOK HBAD HDONE HMORE hM;obtain ⟨⟨m0, m1, m2⟩, g1⟩ := Q3.out.seen
   by_cases hd : s.size ≤ d
   ·have k1 : decide ((s.size : Int) ≤ (d : Int)) = true := decide_eq_true (by omega)
    have k2 : decide (s.size ≤ d) = true := decide_eq_true hd;have HGD := qb (HDN.out (by rw [HL.out]; omega))
    clear hd;go_wp2_with (at_builtin; refine qbl rfl _ _ 22 rfl _ _ _ rfl rfl hrun ?_)
    go_ret3
    unfold P30;rw [HGD.out];exact ⟨_, rfl, Q3.out.st.mono (Nat.le_succ _), Q3.out.bel⟩
   ·have k1 : decide ((s.size : Int) ≤ (d : Int)) = false := decide_eq_false (by omega)
    have k2 : decide (s.size ≤ d) = false := decide_eq_false hd;obtain ⟨hm1, hm2, hm3⟩ := HMR.out (by rw [HL.out]; omega)
    have HM1 := qb hm1;have HM2 := qb hm2;have HM3 := qb hm3;have Q4 := qb Q3.out.step;have hd1 : d + 1 ≤ s.size := by omega
    clear hd hm1 hm2 hm3 HMR HDN;go_wp2_with (at_builtin; refine qbl rfl _ _ 22 rfl _ _ _ rfl rfl hrun ?_)
    generalize w3.setCell _ _ = W4 at *;clear m0 m1 m2 g1 c0 c1 c2 f1 hrun k1 k2;obtain ⟨z, hz⟩ : ∃ z, d + 1 = z := ⟨_, rfl⟩;have HZ : Hid (d + 2 = z + 1) := by show _ = _; omega
    rw [HZ.out] at HM3;rw [hz] at HM1 HM2 HM3 Q4 hd1;clear hz;have IS0 := qcp w.heap.size s z 0 q2 124 _ Q4.out.rd;rw [show (decide ((0 : Int) = 0) && atB s.data.toList z 124) = atB s.data.toList z 124 by simp] at IS0
    cases h124 : atB s.data.toList z 124
    ·rw [h124] at IS0;have IS := qb IS0;have HGB := qb (HM1.out (fun h => by rw [(qbz _ _ 124).2 h] at h124; cases h124))
     clear IS0 h124 HM1 HM2 HM3;refine IS.out.mono ?_;rintro r w5 ⟨rfl, n5, rfl⟩;have Q5 := qb (Q4.out.drewN n5);clear IS;(go_wp2_with fail);refine (qgb w.heap.size s z 0 q2 _ Q5.out.rd hd1).mono ?_;rintro r w6 ⟨rfl, h6, t6⟩;rw [qbj] at h6;have Q6 := qb (Q5.out.turn t6 h6);clear h6 t6;obtain ⟨⟨c0, c1, c2⟩, f1⟩ := Q6.out.seen;(go_wp2_with fail);go_region
     all_goals
      (go_wp2_with fail);go_ret3
      unfold P30;rw [HGB.out, HL.out];exact ⟨_, rfl, qtc _ _, Q6.out.drew.bel⟩
    ·rw [h124] at IS0;have IS := qb IS0;have h9 := (qbz _ _ 124).1 h124;have HG2 := qb (HM2.out h9);have HG3 := qb (HM3.out h9);clear IS0 h124 HM1 HM2 HM3 h9;refine IS.out.mono ?_;rintro r w5 ⟨rfl, n5, rfl⟩;have Q5 := qb (Q4.out.drewN n5);clear IS;generalize W4.drewN n5 = W5 at *;obtain ⟨⟨c0, c1, c2⟩, f1⟩ := Q5.out.seen
     by_cases h32 : M = 32
     ·have k5 : ((M : Int) == 32) = true := by simp; omega
      have HGB := qb (HG2.out (by have := HM.out; have := HN.out; omega))
      clear h32;(go_wp2_with fail);go_region
      all_goals
       (go_wp2_with fail);go_ret3
       unfold P30;rw [HGB.out];exact ⟨_, rfl, qtc _ _, Q5.out.drew.bel⟩
     ·have k5 : ((M : Int) == 32) = false := by simp; omega
      have HI3 := qb (HG3.out (by have := HM.out; have := HN.out; omega))
      have Q6 := qb Q5.out.step;have hnum := HI.out.num;clear h32;(go_wp2_with fail);go_roundw
      case rel => exact ⟨z + 1, q2, _, _, rfl, by have := HI3.out.cl; rw [HL.out] at this; exact this, Q6, HI3.out⟩
      case measure => simp [slcLen]; have := HM.out; have := HN.out; omega
  ·have b1 : (xe != 0) = true := by simpa using hx
   have HGB := qb (HBAD.out hx);have HXP := qb (HPOS.out hx);clear hx HOK HBAD HDONE HMORE;(go_wp2_with fail);go_region
   all_goals
    (go_wp2_with fail);go_ret3
    unfold P30;rw [HGB.out, HXP.out];exact ⟨_, rfl, qtc _ _, Q2.out.drew.bel⟩
theorem qbvl (s : QY) (w : QW) : Calls Tryz.prog 30 #[.string s] w (P30 (qbq s.data.toList) w) := by
 unfold qbq;rw [qh]
 by_cases h : 256 < s.size
 ·rw [if_pos h];exact qbpp s w h
 ·rw [if_neg h];exact qcdd s w (by omega)
end Go.Proofs.YtpdlgiioahjhiaaGreat

namespace Go.Proofs.YtpdlgiioahjhiaaGreat
open Go.RowKit Go.Shelf
set_option linter.unusedVariables false
theorem qbrb {s : QB} (h : (qbq s).1 = 0) : (∀ cs ∈ (qbq s).2.2, cs.length ≤ 2000000 ∧ ∀ c ∈ cs, lenS c.2 ≤ 1048576) ∧ (qbq s).2.2.length ≤ 2000000 ∧ (Lib.join ((qbq s).2.2.map (fun cs => (setT cs).1)) [32, 124, 124, 32]).length ≤ 140737488355328 := by
 obtain ⟨g1, g2⟩ := qxp s;obtain ⟨_, _, q3⟩ := qcdr h;refine ⟨fun cs hc => ⟨by have := (g2 cs hc).1; omega, fun c hx => by have := (q3 cs hc c hx).2; omega⟩, by omega, ?_⟩
 have hset : ∀ t ∈ (qbq s).2.2.map (fun cs => (setT cs).1), t.length ≤ 100000000 := by
  intro t ht;obtain ⟨cs, hc, rfl⟩ := List.mem_map.1 ht;have h66 := (g2 cs hc).1;unfold setT;split
  ·simp
  ·split
   ·have hj := qvh 1048600 [32] (cs.map qkp) (by
     intro u hu;obtain ⟨c, hx, rfl⟩ := List.mem_map.1 hu;exact qbgz c (by have := (q3 cs hc c hx).2; omega))
    rw [List.length_map] at hj;have : cs.length * (1048600 + 1) ≤ 66 * (1048600 + 1) := Nat.mul_le_mul_right _ h66;have h1 : ([32] : QB).length = 1 := rfl;rw [h1] at hj;show (Lib.join (cs.map qkp) [32]).length ≤ _;omega
   ·simp
 have hj := qvh 100000000 [32, 124, 124, 32] _ hset;rw [List.length_map] at hj;have : (qbq s).2.2.length * (100000000 + 4) ≤ 33 * (100000000 + 4) := Nat.mul_le_mul_right _ g1;have h1 : ([32, 124, 124, 32] : QB).length = 4 := rfl;rw [h1] at hj;omega
end Go.Proofs.YtpdlgiioahjhiaaGreat

namespace Go.Proofs.YtpdlgiioahjhiaaGreat
open Go.RowKit Go.Shelf
set_option linter.unusedVariables false
set_option maxHeartbeats 8000000
set_option maxRecDepth 100000
theorem takes_no {S : List (List Comp)} {t : QB} (h : (fauP t).1 ≠ 0) : qfj S t = false := by
 have hs : semP t = semN := by
  unfold fauP at h;unfold semP;cases hp : qbf t with
  | ok c => rw [hp] at h; exact absurd rfl h
  | error y => rfl
 unfold qfj;rw [hs];rw [List.any_eq_false];intro cs _;unfold setL;have h0 : fitW semN = false := by
  unfold fitW semN;rw [show numB ([] : QB) = false from rfl];simp
 rw [h0];simp
theorem qccx {α : Type} (p : α → Bool) (l : List α) (i : Nat) (hi : i < l.length) (h : ∀ x ∈ l.take i, p x = false) (hx : p l[i] = false) : ∀ x ∈ l.take (i + 1), p x = false := by
 intro x hm;rw [List.take_succ_eq_append_getElem hi] at hm;rcases List.mem_append.1 hm with hm | hm
 ·exact h x hm
 ·rw [List.mem_singleton.1 hm]; exact hx
theorem qbdn (s u : QY) (w : World) :
  Calls Tryz.prog 22 #[.string s, .string u] w fun e w' => e = .returned (.bool (qfj (qbq s.data.toList).2.2 u.data.toList)) ∧ Below w.heap.size w w' := by
 have P1 := qb (fun W => qbvl s W);have HNO := qb (@qbvb s.data.toList);have HSZ := qb (@qbrb s.data.toList);have HTN := qb (fun S => @takes_no S u.data.toList);have R1 := qb (fun W => qbwn u W);have HLY := qb (qbck u.data.toList).2;unfold P30 at P1;generalize qbq s.data.toList = R at *;obtain ⟨re, ra, l⟩ := R;dsimp only at *;obtain ⟨T, hT⟩ : ∃ T, qfj l u.data.toList = T := ⟨_, rfl⟩;have HT0 := qb hT;have HT : Hid (l.any (fun cs => setL cs (semP u.data.toList)) = T) := hT;rw [hT];clear hT;generalize semP u.data.toList = y at *;go_enter Tryz.func22, Tryz.ntmps22
 (go_wp2_with fail);refine (P1.out _).mono ?_;rintro e w1 ⟨v, rfl, hS, b1⟩;obtain ⟨a1, k1, rfl, _⟩ := id hS.at_;have HS := qb hS.at_;have B1 := qb b1;clear P1 hS b1;dsimp only;(go_wp2_with fail);refine (R1.out _).mono ?_;rintro e w2 ⟨b2, v2, rfl, hF⟩;obtain ⟨vp, vb, rfl, t1, t2, _, _⟩ := id hF;obtain ⟨ap, kp, rfl, _⟩ := id t1;obtain ⟨ab, kb, rfl, _⟩ := id t2;have HF := qb hF.toAt;have HS2 := qb (HS.out.below b2);have B2 := qb (B1.out.trans (b2.mono B1.out.size));clear b2 hF t1 t2 R1 HS B1;generalize fauP u.data.toList = f at *;obtain ⟨fe, fa⟩ := f;dsimp only at *;obtain ⟨W5, hW5⟩ : ∃ W5, (w2.alloc (.cells #[.string (qg y.maj), .string (qg y.min), .string (qg y.pat), .slice ap y.pre.length kp, .slice ab y.bld.length kb] 33)).alloc (.cells #[.int .i64 fe, .int .i64 (fa : Int)] 25) = W5 := ⟨_, rfl⟩;have b5 : Below w2.heap.size w2 W5 := by rw [← hW5]; exact ((Below.refl _ w2).alloc (Nat.le_refl _) _).alloc (by simp) _
 have n5 : W5.heap[w2.heap.size]? = some (.cells #[.string (qg y.maj), .string (qg y.min), .string (qg y.pat), .slice ap y.pre.length kp, .slice ab y.bld.length kb] 33 (0, 0)) := by rw [← hW5]; exact qgm w2 _ _
 have m5 : W5.heap[w2.heap.size + 1]? = some (.cells #[.int .i64 fe, .int .i64 (fa : Int)] 25 (0, 0)) := by rw [← hW5]; exact qkb w2 _ _
 have N5 := qb n5;have B5 := qb (B2.out.trans (b5.mono B2.out.size));have HS5 := qb (HS2.out.below b5);have HF5 := qb (HF.out.below b5);have x0 : W5.cell? ⟨w2.heap.size + 1, 0, none⟩ = some (.int .i64 fe) := qd 0 m5 rfl;have L5 : Hid (w2.heap.size < W5.heap.size) := (Array.getElem?_eq_some_iff.1 n5).1;clear n5 m5 b5 HS2 HF B2
 by_cases hre : re = 0
 ·subst hre;have r1 : ((0 : Int) != 0) = false := rfl
  by_cases hfe : fe = 0
  ·subst hfe;obtain ⟨hz1, hz2, _⟩ := HSZ.out (by simp)
   have HZ1 := qb hz1;obtain ⟨n, hn⟩ : ∃ n, l.length = n := ⟨_, rfl⟩;have HN := qb hn;rw [hn] at HS5 hz2 ⊢;clear hz1 HSZ HNO HTN HT0 hn;(go_wp2_with fail);clear hW5;go_loopw [10] (fun j wr => ∃ i : Nat, i ≤ n ∧ j = .int .i64 (i : Int) ∧ Hid (Below W5.heap.size W5 wr) ∧ Hid (∀ cs ∈ l.take i, setL cs y = false)) (fun j _ => n - (intOf j).toNat)
   case atStart => exact ⟨0, by omega, rfl, Below.refl _ _, fun cs hc => by simp at hc⟩
   case round =>
    clear x0;obtain ⟨i, hin, rfl, HW, HA⟩ := hrel
    by_cases hlt : i < n
    ·have hlt' : (i : Int) < (n : Int) := by omega
     have hi0 : (0 : Int) ≤ (i : Int) := by omega
     have i1 : i < l.length := by rw [HN.out]; exact hlt
     obtain ⟨a', k', hv', h0 | ⟨b1, o1, rfl, hbl1, hrow1⟩⟩ := HS5.out
     ·exfalso;rw [h0] at i1;simp at i1
     injection hv' with z1 z2 z3;subst z1;subst z3;clear z2;obtain ⟨u1, d0, hcu⟩ := hrow1 i i1;obtain ⟨m0, hsc⟩ := HZ1.out l[i] (List.getElem_mem i1);obtain ⟨au, ku, rfl, _⟩ := id hcu;have D0 : wr.cell? ⟨b1, o1 + i, none⟩ = some (.slice au l[i].length ku) := (HW.out.cell hbl1).trans d0;have HAT := qb (fun h => qccx (fun cs => setL cs y) l i i1 HA.out h);have HYES : Hid (setL l[i] y = true → T = true) := fun h => by rw [← HT.out]; exact List.any_eq_true.2 ⟨_, List.getElem_mem i1, h⟩
     have HC := qb (hcu.below HW.out);have HSC := qb hsc;have HMC := qb m0;clear d0 hcu hrow1 hsc;generalize l[i] = cs at *;obtain ⟨m, hm⟩ : ∃ m, cs.length = m := ⟨_, rfl⟩;rw [hm] at HC D0;clear i1 m0;have NW := (HW.out.block _ L5.out).trans N5.out;have y0 : wr.cell? ⟨w2.heap.size, 0, none⟩ = some (.string (qg y.maj)) := qd 0 NW rfl;have y1 : wr.cell? ⟨w2.heap.size, 1, none⟩ = some (.string (qg y.min)) := qd 1 NW rfl;have y2 : wr.cell? ⟨w2.heap.size, 2, none⟩ = some (.string (qg y.pat)) := qd 2 NW rfl;have y3 : wr.cell? ⟨w2.heap.size, 3, none⟩ = some (.slice ap y.pre.length kp) := qd 3 NW rfl;have y4 : wr.cell? ⟨w2.heap.size, 4, none⟩ = some (.slice ab y.bld.length kb) := qd 4 NW rfl;have bd := qbh wr.heap.size wr;have WD := qb (HW.out.trans (bd.mono HW.out.size));have SE := qb (RSet_any cs y (.slice au m ku) (.agg #[.string (qg y.maj), .string (qg y.min), .string (qg y.pat), .slice ap y.pre.length kp, .slice ab y.bld.length kb]) wr.drew (HC.out.below bd) (HF5.out.below WD.out) HSC.out HLY.out HMC.out);have HLB := qb hbl1;have SZ := qb HW.out.size;generalize setL cs y = Z at *;(go_wp2_with fail)
     go_region_held3 (fun W' => W'.cell? ⟨b1, o1 + i, none⟩ = some (.slice au m ku) ∧ W'.cell? ⟨w2.heap.size, 0, none⟩ = some (.string (qg y.maj)) ∧ W'.cell? ⟨w2.heap.size, 1, none⟩ = some (.string (qg y.min)) ∧ W'.cell? ⟨w2.heap.size, 2, none⟩ = some (.string (qg y.pat)) ∧ W'.cell? ⟨w2.heap.size, 3, none⟩ = some (.slice ap y.pre.length kp) ∧ W'.cell? ⟨w2.heap.size, 4, none⟩ = some (.slice ab y.bld.length kb)) (go_keep) ((first
      | (
        go_at_call 18
        refine SE.out.mono ?_;rintro e w6 ⟨rfl, b6⟩;have D6 := (b6.cell (Nat.lt_of_lt_of_le HLB.out SZ.out)).trans D0;have N6 := (b6.block _ (Nat.lt_of_lt_of_le L5.out SZ.out)).trans NW;have u0 : w6.cell? ⟨w2.heap.size, 0, none⟩ = some (.string (qg y.maj)) := qd 0 N6 rfl;have u1 : w6.cell? ⟨w2.heap.size, 1, none⟩ = some (.string (qg y.min)) := qd 1 N6 rfl;have u2 : w6.cell? ⟨w2.heap.size, 2, none⟩ = some (.string (qg y.pat)) := qd 2 N6 rfl;have u3 : w6.cell? ⟨w2.heap.size, 3, none⟩ = some (.slice ap y.pre.length kp) := qd 3 N6 rfl;have u4 : w6.cell? ⟨w2.heap.size, 4, none⟩ = some (.slice ab y.bld.length kb) := qd 4 N6 rfl;have W6 := qb (WD.out.trans (b6.mono WD.out.size));clear b6)
      | fail))
     try dsimp only
     cases Z with
     | true =>
      have HF1 : Hid (T = true) := HYES.out rfl;(go_wp2_with fail);go_ret
      exact ⟨by rw [HF1.out]; rfl, B5.out.trans (W6.out.mono B5.out.size)⟩
     | false =>
      have HA2 := qb (HAT.out rfl);(go_wp2_with fail);go_roundw
      case rel => exact ⟨i + 1, by omega, by go_num, W6, HA2.out⟩
      case measure => simp [intOf]; omega
    ·have hlt' : ¬ (i : Int) < (n : Int) := by omega
     have HF0 : Hid (T = false) := by
      show _ = _;rw [← HT.out, List.any_eq_false];intro cs hc;have := HA.out cs (by rw [List.take_of_length_le (by rw [HN.out]; omega)]; exact hc)
      rw [this]; simp
     (go_wp2_with fail);go_ret
     exact ⟨by rw [HF0.out]; rfl, B5.out.trans (HW.out.mono B5.out.size)⟩
  ·have r2 : (fe != 0) = true := by simpa using hfe
   have HF0 : Hid (T = false) := HT0.out.symm.trans (HTN.out l hfe);clear hfe HTN HNO HSZ;(go_wp2_with fail);go_ret
   exact ⟨by rw [HF0.out]; rfl, B5.out⟩
 ·have r1 : (re != 0) = true := by simpa using hre
  have HF0 : Hid (T = false) := by
   show _ = _;rw [← HT.out, HNO.out hre]
   rfl
  clear hre HTN HNO HSZ;(go_wp2_with fail);go_ret
  exact ⟨by rw [HF0.out]; rfl, B5.out⟩
end Go.Proofs.YtpdlgiioahjhiaaGreat

namespace Go.Proofs.YtpdlgiioahjhiaaGreat
open Go.RowKit Go.Shelf
set_option linter.unusedVariables false
set_option maxHeartbeats 4000000
set_option maxRecDepth 100000
theorem cmpT_p (a b : QB) : cmpT a b = if (fauP a).1 = 0 then (if (fauP b).1 = 0 then ordW (semP a) (semP b) else 1) else (if (fauP b).1 = 0 then -1 else Lib.compareBytes a b) := by
 unfold cmpT fauP semP;cases ha : qbf a with
 | error x =>
  have hx := qpf ha;cases hb : qbf b with
  | error y =>
   have hy := qpf hb;simp only [if_neg hx, if_neg hy]
  | ok y => simp only [if_neg hx, if_true]
 | ok x =>
  cases hb : qbf b with
  | error y =>
   have hy := qpf hb;simp only [if_neg hy, if_true]
  | ok y =>
   simp only [if_true];unfold ordW;rw [(qvs ha).1, (qvs hb).1]
   rfl
theorem qbmp (s t : QY) (w : World) :
  Calls Tryz.prog 43 #[.string s, .string t] w fun e w' => e = .returned (.int .i64 (cmpT s.data.toList t.data.toList)) ∧ Below w.heap.size w w' := by
 have P1 := qb (fun w => qst s w);have P2 := qb (fun w => qst t w);have HC := cmpT_p s.data.toList t.data.toList;have lx := (qbck s.data.toList).2;have ly := (qbck t.data.toList).2;have HB := cmp3 s.toList t.toList;rw [← toL, ← toL] at HC;rw [← toL, ← toL];have HC := qb HC;have HB := qb HB;generalize cmpT s.toList t.toList = R at *;generalize Lib.compareBytes s.toList t.toList = c9 at *;rw [toL, toL] at HC;generalize semP s.data.toList = x at *;generalize semP t.data.toList = y at *;generalize fauP s.data.toList = f at *;generalize fauP t.data.toList = g at *;obtain ⟨f1, f2⟩ := f;obtain ⟨g1, g2⟩ := g;simp only at P1 P2 HC;have TR := qb (fun b w => qbdd b w)
 by_cases hf : f1 = 0
 ·by_cases hg : g1 = 0
  ·have HZ : Hid (R = ordW x y) := by show _ = _; rw [HC.out, if_pos hf, if_pos hg]
   subst hf hg;have RO := qb (fun W v u hv hu => qzv v u x y W hv hu lx ly);clear HC lx ly HB;go_enter Tryz.func43, Tryz.ntmps43
   (go_wp2_with fail);refine (P1.out _).mono ?_;rintro e w1 ⟨b1, v, rfl, hv⟩;have HV := qb (fun W (h : Below w1.heap.size w1 W) => hv.toAt.below h);obtain ⟨vp, vb, rfl, ⟨a1, c1, rfl, _⟩, ⟨a3, c3, rfl, _⟩, _, _⟩ := hv;have B1 := b1.alloc b1.size (.cells #[.string (qg x.maj), .string (qg x.min), .string (qg x.pat), .slice a1 x.pre.length c1, .slice a3 x.bld.length c3] 33);have bb1 := (Below.refl _ w1).alloc (Nat.le_refl _) (.cells #[.string (qg x.maj), .string (qg x.min), .string (qg x.pat), .slice a1 x.pre.length c1, .slice a3 x.bld.length c3] 33);have k1 := World.alloc_heap_new w1 (.cells #[.string (qg x.maj), .string (qg x.min), .string (qg x.pat), .slice a1 x.pre.length c1, .slice a3 x.bld.length c3] 33);(go_wp2_with fail);generalize w1.alloc (.cells #[.string (qg x.maj), .string (qg x.min), .string (qg x.pat), .slice a1 x.pre.length c1, .slice a3 x.bld.length c3] 33) = W1 at *;refine (P2.out _).mono ?_;rintro e w2 ⟨b2, u, rfl, hu⟩;have HU := qb (fun W (h : Below w2.heap.size w2 W) => hu.toAt.below h);obtain ⟨up, ub, rfl, ⟨a2, c2, rfl, _⟩, ⟨a4, c4, rfl, _⟩, _, _⟩ := hu;have B2 := B1.trans (b2.mono B1.size);have bb2 := (Below.refl _ w2).alloc (Nat.le_refl _) (.cells #[.string (qg y.maj), .string (qg y.min), .string (qg y.pat), .slice a2 y.pre.length c2, .slice a4 y.bld.length c4] 33);have B3 := B2.trans (bb2.mono B2.size);have bbv := (bb1.trans (b2.mono bb1.size)).trans (bb2.mono (Nat.le_trans bb1.size b2.size))
   have k2 := World.alloc_heap_new w2 (.cells #[.string (qg y.maj), .string (qg y.min), .string (qg y.pat), .slice a2 y.pre.length c2, .slice a4 y.bld.length c4] 33);have l1 : w1.heap.size < W1.heap.size := (Array.getElem?_eq_some_iff.1 k1).1;have l2 := b2.size;have k1' := (b2.block _ l1).trans k1;have hne : w1.heap.size < w2.heap.size := by omega
   obtain ⟨r0, r1, r2, r3, r4⟩ := qcd k1';have RO1 := qb (RO.out _ _ _ (HV.out _ bbv) (HU.out _ bb2));clear b1 b2 bb1 bb2 bbv B1 B2 k1 HV HU RO;clear k1' k2;(go_wp2_with fail);refine RO1.out.mono ?_;rintro e w3 ⟨rfl, b3⟩;(go_wp2_with fail);go_ret
   exact ⟨qbn HZ.out.symm, B3.trans (b3.mono B3.size)⟩
  ·have HZ : Hid (R = 1) := by show _ = _; rw [HC.out, if_pos hf, if_neg hg]
   have hg0 : (g1 != 0) = true := by simpa using hg
   have hg1 : (g1 == 0) = false := by simpa using hg
   subst hf;clear HC lx ly HB hg;go_enter Tryz.func43, Tryz.ntmps43
   (go_wp2_with fail);refine (P1.out _).mono ?_;rintro e w1 ⟨b1, v, rfl, hv⟩;obtain ⟨vp, vb, rfl, ⟨a1, c1, rfl, _⟩, ⟨a3, c3, rfl, _⟩, _, _⟩ := hv;have B1 := b1.alloc b1.size (.cells #[.string (qg x.maj), .string (qg x.min), .string (qg x.pat), .slice a1 x.pre.length c1, .slice a3 x.bld.length c3] 33);(go_wp2_with fail);refine (P2.out _).mono ?_;rintro e w2 ⟨b2, u, rfl, hu⟩;obtain ⟨up, ub, rfl, ⟨a2, c2, rfl, _⟩, ⟨a4, c4, rfl, _⟩, _, _⟩ := hu;have B2 := B1.trans (b2.mono B1.size);have B3 := B2.alloc B2.size (.cells #[.string (qg y.maj), .string (qg y.min), .string (qg y.pat), .slice a2 y.pre.length c2, .slice a4 y.bld.length c4] 33);clear b1 b2 B1 B2;(go_wp2_with fail);refine (TR.out true _).mono ?_;rintro e w' ⟨rfl, hw'⟩;rw [hw']; clear hw' w';(go_wp2_with fail);refine (TR.out false _).mono ?_;rintro e w' ⟨rfl, hw'⟩;rw [hw']; clear hw' w';(go_wp2_with fail);go_ret
   exact ⟨qbn HZ.out.symm, B3⟩
 ·have hf0 : (f1 != 0) = true := by simpa using hf
  have hf1 : (f1 == 0) = false := by simpa using hf
  by_cases hg : g1 = 0
  ·have HZ : Hid (R = -1) := by show _ = _; rw [HC.out, if_neg hf, if_pos hg]
   subst hg;clear HC lx ly HB hf;go_enter Tryz.func43, Tryz.ntmps43
   (go_wp2_with fail);refine (P1.out _).mono ?_;rintro e w1 ⟨b1, v, rfl, hv⟩;obtain ⟨vp, vb, rfl, ⟨a1, c1, rfl, _⟩, ⟨a3, c3, rfl, _⟩, _, _⟩ := hv;have B1 := b1.alloc b1.size (.cells #[.string (qg x.maj), .string (qg x.min), .string (qg x.pat), .slice a1 x.pre.length c1, .slice a3 x.bld.length c3] 33);(go_wp2_with fail);refine (P2.out _).mono ?_;rintro e w2 ⟨b2, u, rfl, hu⟩;obtain ⟨up, ub, rfl, ⟨a2, c2, rfl, _⟩, ⟨a4, c4, rfl, _⟩, _, _⟩ := hu;have B2 := B1.trans (b2.mono B1.size);have B3 := B2.alloc B2.size (.cells #[.string (qg y.maj), .string (qg y.min), .string (qg y.pat), .slice a2 y.pre.length c2, .slice a4 y.bld.length c4] 33);clear b1 b2 B1 B2;(go_wp2_with fail);refine (TR.out false _).mono ?_;rintro e w' ⟨rfl, hw'⟩;rw [hw']; clear hw' w';(go_wp2_with fail);refine (TR.out true _).mono ?_;rintro e w' ⟨rfl, hw'⟩;rw [hw']; clear hw' w';(go_wp2_with fail);go_ret
   exact ⟨qbn HZ.out.symm, B3⟩
  ·have HZ : Hid (R = c9) := by show _ = _; rw [HC.out, if_neg hf, if_neg hg]
   have hg0 : (g1 != 0) = true := by simpa using hg
   have hg1 : (g1 == 0) = false := by simpa using hg
   clear HC lx ly hf hg;rcases HB.out with ⟨rfl, hbl⟩ | ⟨rfl, hbl, heq⟩ | ⟨rfl, hbl, heq⟩
   ·go_enter Tryz.func43, Tryz.ntmps43
    (go_wp2_with fail);refine (P1.out _).mono ?_;rintro e w1 ⟨b1, v, rfl, hv⟩;obtain ⟨vp, vb, rfl, ⟨a1, c1, rfl, _⟩, ⟨a3, c3, rfl, _⟩, _, _⟩ := hv;have B1 := b1.alloc b1.size (.cells #[.string (qg x.maj), .string (qg x.min), .string (qg x.pat), .slice a1 x.pre.length c1, .slice a3 x.bld.length c3] 33);(go_wp2_with fail);refine (P2.out _).mono ?_;rintro e w2 ⟨b2, u, rfl, hu⟩;obtain ⟨up, ub, rfl, ⟨a2, c2, rfl, _⟩, ⟨a4, c4, rfl, _⟩, _, _⟩ := hu;have B2 := B1.trans (b2.mono B1.size);have B3 := B2.alloc B2.size (.cells #[.string (qg y.maj), .string (qg y.min), .string (qg y.pat), .slice a2 y.pre.length c2, .slice a4 y.bld.length c4] 33);clear b1 b2 B1 B2;(go_wp2_with fail);refine (TR.out false _).mono ?_;rintro e w' ⟨rfl, hw'⟩;rw [hw']; clear hw' w';(go_wp2_with fail);refine (TR.out true _).mono ?_;rintro e w' ⟨rfl, hw'⟩;rw [hw']; clear hw' w';(go_wp2_with fail);go_ret
    exact ⟨qbn HZ.out.symm, B3⟩
   ·go_enter Tryz.func43, Tryz.ntmps43
    (go_wp2_with fail);refine (P1.out _).mono ?_;rintro e w1 ⟨b1, v, rfl, hv⟩;obtain ⟨vp, vb, rfl, ⟨a1, c1, rfl, _⟩, ⟨a3, c3, rfl, _⟩, _, _⟩ := hv;have B1 := b1.alloc b1.size (.cells #[.string (qg x.maj), .string (qg x.min), .string (qg x.pat), .slice a1 x.pre.length c1, .slice a3 x.bld.length c3] 33);(go_wp2_with fail);refine (P2.out _).mono ?_;rintro e w2 ⟨b2, u, rfl, hu⟩;obtain ⟨up, ub, rfl, ⟨a2, c2, rfl, _⟩, ⟨a4, c4, rfl, _⟩, _, _⟩ := hu;have B2 := B1.trans (b2.mono B1.size);have B3 := B2.alloc B2.size (.cells #[.string (qg y.maj), .string (qg y.min), .string (qg y.pat), .slice a2 y.pre.length c2, .slice a4 y.bld.length c4] 33);clear b1 b2 B1 B2;(go_wp2_with fail);refine (TR.out false _).mono ?_;rintro e w' ⟨rfl, hw'⟩;rw [hw']; clear hw' w';(go_wp2_with fail);refine (TR.out false _).mono ?_;rintro e w' ⟨rfl, hw'⟩;rw [hw']; clear hw' w';(go_wp2_with fail);go_ret
    exact ⟨qbn HZ.out.symm, B3⟩
   ·go_enter Tryz.func43, Tryz.ntmps43
    (go_wp2_with fail);refine (P1.out _).mono ?_;rintro e w1 ⟨b1, v, rfl, hv⟩;obtain ⟨vp, vb, rfl, ⟨a1, c1, rfl, _⟩, ⟨a3, c3, rfl, _⟩, _, _⟩ := hv;have B1 := b1.alloc b1.size (.cells #[.string (qg x.maj), .string (qg x.min), .string (qg x.pat), .slice a1 x.pre.length c1, .slice a3 x.bld.length c3] 33);(go_wp2_with fail);refine (P2.out _).mono ?_;rintro e w2 ⟨b2, u, rfl, hu⟩;obtain ⟨up, ub, rfl, ⟨a2, c2, rfl, _⟩, ⟨a4, c4, rfl, _⟩, _, _⟩ := hu;have B2 := B1.trans (b2.mono B1.size);have B3 := B2.alloc B2.size (.cells #[.string (qg y.maj), .string (qg y.min), .string (qg y.pat), .slice a2 y.pre.length c2, .slice a4 y.bld.length c4] 33);clear b1 b2 B1 B2;(go_wp2_with fail);refine (TR.out true _).mono ?_;rintro e w' ⟨rfl, hw'⟩;rw [hw']; clear hw' w';(go_wp2_with fail);refine (TR.out false _).mono ?_;rintro e w' ⟨rfl, hw'⟩;rw [hw']; clear hw' w';(go_wp2_with fail);go_ret
    exact ⟨qbn HZ.out.symm, B3⟩
end Go.Proofs.YtpdlgiioahjhiaaGreat
