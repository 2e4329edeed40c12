/- The contract of strings.Join, laid at this dump. -/
import Derived.Test.YtpdlgiioahjhiaaGreatPSc
import Derived.Test.YtpdlgiioahjhiaaGreatPSd
import Derived.WalkSmall
import Derived.Test.YtpdlgiioahjhiaaGreatPEd
import Derived.Shelf.Strings.OnBuilder
import Derived.Test.YtpdlgiioahjhiaaGreatProg
namespace Go.Proofs.YtpdlgiioahjhiaaGreat
open Go.RowKit Go.Shelf
open _root_.Array renaming getElem?_eq_some_iff → qcgg
open Below renaming heap_alloc → qcgz, refl → qcgm
open Nat renaming le_refl → qcgl
open Go renaming World → QW, Value → QV
set_option linter.unusedVariables false
set_option maxHeartbeats 1000000
set_option maxRecDepth 100000
theorem qdl {W : QW} {base : Nat} {v : QV} {s : QY} {xs : List (Nat × Nat)} (h : W.ownsRow base 9 1 v xs.length (strs s xs)) : Txt W v (xs.map fun x => seg s.data.toList x.1 x.2) := by
 rcases h.2 with ⟨rfl, h0⟩ | ⟨g, cap, cur, rfl, hg, hh, r1, r2, r3, r4⟩
 ·refine ⟨none, 0, by simp [h0], .inl ?_⟩
  rw [List.length_eq_zero_iff.1 h0]; rfl
 ·refine ⟨some ⟨g, 0, none⟩, cap, by simp, .inr ⟨g, 0, rfl, (qcgg.1 hh).1, fun i hi => ?_⟩⟩
  have hi' : i < xs.length := by simpa using hi
  have hc : cur[i]? = some (.string (s.extract xs[i].1 xs[i].2)) := by
   have e1 : (cur.toList.take (xs.length * 1))[i]? = (strs s xs)[i]? := by rw [r4]
   rw [List.getElem?_take, if_pos (by omega)] at e1
   rw [← Array.getElem?_toList, e1, strs];simp [hi']
  rw [Nat.zero_add, qd i hh hc, qbx];simp
def qhm (n : Nat) (v : QV) : Prop := ∀ a i c, v = .slice (some a) i c → n ≤ a.block
theorem qds {W : QW} {base : Nat} {v : QV} {k : Nat} {xs : List QV} (h : W.ownsRow base 9 1 v k xs) : qhm base v := by
 rintro a i c rfl;rcases h.2 with ⟨h1, _⟩ | ⟨g, cap, cur, h1, hg, _⟩
 ·cases h1
 ·cases h1; exact hg
def PRes (l : QB) (n : Nat) (e : Ending) (w' : QW) : Prop :=
 match qbf l with
 | .error x => e = .returned (.tuple #[semZ, .agg #[.int .i64 x.1, .int .i64 (x.2 : Int)]])
 | .ok c => ∃ vp vb, e = .returned (.tuple #[.agg #[.string (qg (qcf l c).maj), .string (qg (qcf l c).min), .string (qg (qcf l c).pat), vp, vb], .agg #[.int .i64 0, .int .i64 0]]) ∧ Txt w' vp (qcf l c).pre ∧ Txt w' vb (qcf l c).bld ∧ qhm n vp ∧ qhm n vb
theorem qbdp (s : QY) (w : QW) (hs : ¬ s.size ≤ 64) :
  Calls Tryz.prog 39 #[.string s] w fun e w' => Below w.heap.size w w' ∧ e = .returned (.tuple #[semZ, .agg #[.int .i64 12, .int .i64 64]]) := by
 have hl : (64 : Int) < (s.size : Int) := by omega
 go_enter Tryz.func39, Tryz.ntmps39
 (go_wp2_with fail);go_step3
 go_wp2_with fail
 try rw [Exit.noGoto_ret]
 refine bodyPost_ret (by simp [results, Tryz.results39, go_sem]; try rfl) rfl ?_
 exact ⟨(((qcgm _ w).alloc (qcgl _) _).alloc (by simp) _).alloc (by simp; omega) _, rfl⟩
theorem qbhg (PA : ∀ (s : QY) (w : QW), s.size ≤ 64 → Calls Tryz.prog 39 #[.string s] w (qtn s w)) (s : QY) (w : QW) :
  Calls Tryz.prog 39 #[.string s] w fun e w' => Below w.heap.size w w' ∧ PRes s.data.toList w.heap.size e w' := by
 by_cases hs : s.size ≤ 64
 ·refine (PA s w hs).mono ?_;rintro e w' ⟨hb, h⟩;refine ⟨hb, ?_⟩;unfold PRes;cases hp : qbf s.data.toList with
  | error x => rw [hp] at h; exact h
  | ok c =>
   rw [hp] at h;obtain ⟨vp, vb, rfl, h1, h2⟩ := h;refine ⟨vp, vb, ?_, qdl h1, qdl h2, qds h1, qds h2⟩;simp only [semV, qcf, qbx]
 ·refine (qbdp s w hs).mono ?_;rintro e w' ⟨hb, rfl⟩;refine ⟨hb, ?_⟩;unfold PRes qbf;rw [if_pos (by rw [qh]; omega)]
  rfl
theorem qnk {l : QB} {p : Nat} {pre pr b : List (Nat × Nat)} (h : qcb l p pre = .ok (pr, b)) : pr = pre ∧ (b = [] ∨ ∃ a, b = qp l a) := by
 unfold qcb at h;split at h
 ·unfold idsR at h;split at h
  ·cases h
  ·rename_i b' q hq;split at hq
   ·cases hq
   ·cases hq;split at h
    ·cases h
    ·cases h; exact ⟨rfl, .inr ⟨_, rfl⟩⟩
 ·split at h
  ·cases h
  ·cases h; exact ⟨rfl, .inl rfl⟩
theorem qbxh {l : QB} {e : Nat} {pr b : List (Nat × Nat)} (h : qdg l e = .ok (pr, b)) : (pr = [] ∨ ∃ a, pr = qp l a) ∧ (b = [] ∨ ∃ a, b = qp l a) := by
 unfold qdg at h;split at h
 ·unfold idsR at h;split at h
  ·cases h
  ·rename_i b' q hq;split at hq
   ·cases hq
   ·cases hq;have := qnk h;exact ⟨.inr ⟨_, this.1⟩, this.2⟩
 ·have := qnk h;exact ⟨.inl this.1, this.2⟩
theorem qpx (l : QB) (hl : l.length ≤ 64) (xs : List (Nat × Nat)) (h : xs = [] ∨ ∃ a, xs = qp l a) : xs.length ≤ 65 := by
 rcases h with rfl | ⟨a, rfl⟩
 ·simp
 ·have := qtr l _ a rfl; omega
theorem qlh (l : QB) (hl : l.length ≤ 64) (a e : Nat) : (seg l a e).length ≤ 64 := by simp [seg]; omega
theorem qvx {l : QB} {c : Cuts} (h : qbf l = .ok c) : l.length ≤ 64 := by
 unfold qbf at h;split at h
 ·cases h
 ·omega
theorem qqs {l : QB} {c : Cuts} (h : qbf l = .ok c) : (c.pre = [] ∨ ∃ a, c.pre = qp l a) ∧ (c.bld = [] ∨ ∃ a, c.bld = qp l a) := by
 unfold qbf at h;split at h
 ·cases h
 ·split at h
  ·cases h
  ·split at h
   ·cases h
   ·rename_i ht;cases h;exact qbxh ht
theorem qrd {l : QB} {c : Cuts} (h : qbf l = .ok c) : qct (qcf l c) := by
 have hl := qvx h;have hs := qqs h;have h1 := qpx l hl _ hs.1;have h2 := qpx l hl _ hs.2;have hq : ∀ a e, (seg l a e).length ≤ 9223372036854775806 := fun a e => Nat.le_trans (qlh l hl a e) (by omega)
 refine ⟨hq _ _, hq _ _, hq _ _, ⟨by simp [qcf]; omega, ?_⟩, ⟨by simp [qcf]; omega, ?_⟩⟩
 ·intro t ht;simp only [qcf, List.mem_map] at ht;obtain ⟨x, _, rfl⟩ := ht;exact hq _ _
 ·intro t ht;simp only [qcf, List.mem_map] at ht;obtain ⟨x, _, rfl⟩ := ht;exact hq _ _
theorem qbxz {p : Bool} {l : QB} {x : Int × Nat} : ∀ xs : List (Nat × Nat), qcj p l xs = some x → x.1 ≠ 0
 | [], h => by cases h
 | y :: r, h => by
  unfold qcj at h;split at h
  ·exact qbxz r h
  ·rename_i hn; cases h; exact hn
theorem qtp {p : Bool} {l : QB} {a : Nat} {x : Int × Nat} (h : idsR p l a = .error x) : x.1 ≠ 0 := by
 unfold idsR at h;split at h
 ·rename_i hb; cases h; exact qbxz _ hb
 ·cases h
theorem qbhw {l : QB} {p : Nat} {pre : List (Nat × Nat)} {x : Int × Nat} (h : qcb l p pre = .error x) : x.1 ≠ 0 := by
 unfold qcb at h;split at h
 ·split at h
  ·rename_i hi; cases h; exact qtp hi
  ·split at h
   ·cases h; simp
   ·cases h
 ·split at h
  ·cases h; simp
  ·cases h
theorem qbpg {l : QB} {e : Nat} {x : Int × Nat} (h : qdg l e = .error x) : x.1 ≠ 0 := by
 unfold qdg at h;split at h
 ·split at h
  ·rename_i hi; cases h; exact qtp hi
  ·exact qbhw h
 ·exact qbhw h
theorem qpf {l : QB} {x : Int × Nat} (h : qbf l = .error x) : x.1 ≠ 0 := by
 unfold qbf at h;split at h
 ·cases h; simp
 ·split at h
  ·rename_i hn; cases h; exact qbtv hn
  ·split at h
   ·rename_i hn; cases h; exact qbpg hn
   ·cases h
def qsm (W : QW) (v : QV) (l : QB) : Prop :=
 match qbf l with
 | .error _ => v = .agg #[.string (qg l), .string ⟨#[]⟩, .string ⟨#[]⟩, .string ⟨#[]⟩, .slice none 0 0, .slice none 0 0, .bool false]
 | .ok c => ∃ vp vb, v = .agg #[.string (qg l), .string (qg (qcf l c).maj), .string (qg (qcf l c).min), .string (qg (qcf l c).pat), vp, vb, .bool true] ∧ Txt W vp (qcf l c).pre ∧ Txt W vb (qcf l c).bld
theorem qsm.below {W W' : QW} {v : QV} {l : QB} (h : qsm W v l) (hb : Below W.heap.size W W') : qsm W' v l := by
 unfold qsm at *;cases hp : qbf l with
 | error x => rw [hp] at h; exact h
 | ok c =>
  rw [hp] at h;obtain ⟨vp, vb, hv, h1, h2⟩ := h;exact ⟨vp, vb, hv, h1.below hb, h2.below hb⟩
theorem qxg {W : QW} {B : Nat} {x0 x1 x2 x3 x4 x5 x6 : QV} (a b c d e f g : QV) (o1 o2 : Obj) (h : W.heap[B]? = some (.cells #[x0, x1, x2, x3, x4, x5, x6] 136 (0, 0))) :
  ∃ W', W' = ((((((((W.setCell ⟨B, 0, none⟩ a).setCell ⟨B, 1, none⟩ b).setCell ⟨B, 2, none⟩ c).setCell ⟨B, 3, none⟩ d).setCell ⟨B, 4, none⟩ e).setCell ⟨B, 5, none⟩ f).setCell ⟨B, 6, none⟩ g).alloc o1).alloc o2 ∧
   W'.heap[B]? = some (.cells #[a, b, c, d, e, f, g] 136 (0, 0)) ∧ (∀ n₀, n₀ ≤ B → Below n₀ W W') ∧ (∀ j, j < W.heap.size → j ≠ B → W'.heap[j]? = W.heap[j]?) ∧ W.heap.size ≤ W'.heap.size := by
 have hlt := (qcgg.1 h).1;have hB : ∀ n₀, n₀ ≤ B → Below n₀ W (((((((((W.setCell ⟨B, 0, none⟩ a).setCell ⟨B, 1, none⟩ b).setCell ⟨B, 2, none⟩ c).setCell ⟨B, 3, none⟩ d).setCell ⟨B, 4, none⟩ e).setCell ⟨B, 5, none⟩ f).setCell ⟨B, 6, none⟩ g).alloc o1).alloc o2) := fun n₀ hn => by
  have h1 := ((((((((qcgm n₀ W).setCell (p := ⟨B, 0, none⟩) hn a).setCell (p := ⟨B, 1, none⟩) hn b).setCell (p := ⟨B, 2, none⟩) hn c).setCell (p := ⟨B, 3, none⟩) hn d).setCell (p := ⟨B, 4, none⟩) hn e).setCell (p := ⟨B, 5, none⟩) hn f).setCell (p := ⟨B, 6, none⟩) hn g);have h2 := h1.alloc (by have := h1.size; omega) o1
  exact h2.alloc (by have := h2.size; omega) o2
 have k1 : ∀ (X : QW) (o : Nat) (u : QV) (j : Nat), j ≠ B → (X.setCell ⟨B, o, none⟩ u).heap[j]? = X.heap[j]? := fun X o u j hj => Below.heap_setCell _ _ _ j hj;have hz : (((((((W.setCell ⟨B, 0, none⟩ a).setCell ⟨B, 1, none⟩ b).setCell ⟨B, 2, none⟩ c).setCell ⟨B, 3, none⟩ d).setCell ⟨B, 4, none⟩ e).setCell ⟨B, 5, none⟩ f).setCell ⟨B, 6, none⟩ g).heap.size = W.heap.size := by
  have k2 : ∀ (X : QW) (o : Nat) (u : QV), (X.setCell ⟨B, o, none⟩ u).heap.size = X.heap.size := fun X o u => Array.size_modify;rw [k2, k2, k2, k2, k2, k2, k2]
 refine ⟨_, rfl, ?_, hB, ?_, (hB 0 (Nat.zero_le _)).size⟩
 ·rw [qcgz _ _ _ (by rw [World.size_alloc, hz]; omega), qcgz _ _ _ (by rw [hz]; omega)]
  have h0 : (W.setCell ⟨B, 0, none⟩ a).heap[B]? = some (.cells #[a, x1, x2, x3, x4, x5, x6] 136 (0, 0)) := qv 0 a h;have h1 : ((W.setCell ⟨B, 0, none⟩ a).setCell ⟨B, 1, none⟩ b).heap[B]? = some (.cells #[a, b, x2, x3, x4, x5, x6] 136 (0, 0)) := qv 1 b h0;generalize (W.setCell ⟨B, 0, none⟩ a).setCell ⟨B, 1, none⟩ b = W1 at *;have h2 : (W1.setCell ⟨B, 2, none⟩ c).heap[B]? = some (.cells #[a, b, c, x3, x4, x5, x6] 136 (0, 0)) := qv 2 c h1;generalize W1.setCell ⟨B, 2, none⟩ c = W2 at *;have h3 : (W2.setCell ⟨B, 3, none⟩ d).heap[B]? = some (.cells #[a, b, c, d, x4, x5, x6] 136 (0, 0)) := qv 3 d h2;generalize W2.setCell ⟨B, 3, none⟩ d = W3 at *;have h4 : (W3.setCell ⟨B, 4, none⟩ e).heap[B]? = some (.cells #[a, b, c, d, e, x5, x6] 136 (0, 0)) := qv 4 e h3;generalize W3.setCell ⟨B, 4, none⟩ e = W4 at *;have h5 : (W4.setCell ⟨B, 5, none⟩ f).heap[B]? = some (.cells #[a, b, c, d, e, f, x6] 136 (0, 0)) := qv 5 f h4;exact qv 6 g h5
 ·intro j hj hne;rw [qcgz _ _ _ (by rw [World.size_alloc, hz]; omega), qcgz _ _ _ (by rw [hz]; omega), k1 _ _ _ _ hne, k1 _ _ _ _ hne, k1 _ _ _ _ hne, k1 _ _ _ _ hne, k1 _ _ _ _ hne, k1 _ _ _ _ hne, k1 _ _ _ _ hne]
theorem fin33 {R : Ending → QW → Prop} (tmps : Array QV) (W : QW) (B : Nat) (a b c d : QY) (vp vb : QV) (k : Bool) (op : ∃ a i c, vp = .slice a i c) (ob : ∃ a i c, vb = .slice a i c)
  (h2 : tmps.getD 4 undef = .pointer (some ⟨B, 0, none⟩)) (e1 : W.heap[B]? = some (.cells #[.string a, .string b, .string c, .string d, vp, vb, .bool k] 136 (0, 0)))
  (hR : R (.returned (.agg #[.string a, .string b, .string c, .string d, vp, vb, .bool k])) W) :
  bodyPost Tryz.prog Tryz.f110 R .ret { tmps := tmps, defers := [] } W := by
 obtain ⟨a1, i1, c1, rfl⟩ := op;obtain ⟨a2, i2, c2, rfl⟩ := ob;have r0 := qd 0 e1 rfl;have r1 := qd 1 e1 rfl;have r2 := qd 2 e1 rfl;have r3 := qd 3 e1 rfl;have r4 := qd 4 e1 rfl;have r5 := qd 5 e1 rfl;have r6 := qd 6 e1 rfl;rw [Array.getD_eq_getD_getElem?] at h2;refine ⟨rfl, _, ?_, hR⟩;simp [results, Tryz.results110, go_sem, h2, r0, r1, r2, r3, r4, r5, r6]
 try rfl
theorem qbsv {W W' : QW} {v : QV} {ts : List QB} {B : Nat} (h : Txt W v ts) (hk : ∀ j, j < W.heap.size → j ≠ B → W'.heap[j]? = W.heap[j]?) (hs : W.heap.size ≤ W'.heap.size) (hB : ∀ a n cap, v = .slice (some a) n cap → ts ≠ [] → a.block ≠ B) : Txt W' v ts := by
 obtain ⟨a, cap, hv, h0 | ⟨b, off, ha, hlt, hc⟩⟩ := h
 ·exact ⟨a, cap, hv, .inl h0⟩
 ·by_cases hn : ts = []
  ·exact ⟨a, cap, hv, .inl hn⟩
  ·have hne := hB _ _ _ (by rw [hv, ha]) hn
   exact ⟨a, cap, hv, .inr ⟨b, off, ha, Nat.lt_of_lt_of_le hlt hs, fun i hi => by rw [← hc i hi]; simp only [World.cell?]; rw [hk b hlt hne]⟩⟩
theorem qbrx (PA : ∀ (s : QY) (w : QW), s.size ≤ 64 → Calls Tryz.prog 39 #[.string s] w (qtn s w)) (s : QY) (w : QW) :
  Calls Tryz.prog 110 #[.string s, .func (.func 39) #[] #[]] w fun e w' => Below w.heap.size w w' ∧ ∃ v, e = .returned v ∧ qsm w' v s.data.toList := by
 cases hp : qbf s.data.toList with
 | error x =>
  have HX := qb (qpf hp);have hxb : (x.1 == 0) = false := by simpa using HX.out
  go_enter Tryz.func110, Tryz.ntmps110
  (go_wp2_with fail);refine (qbhg PA s _).mono ?_;rintro e w1 ⟨b1, h1⟩;unfold PRes at h1;rw [hp] at h1;subst h1;unfold semZ;have eR := (b1.block w.heap.size (by simp)).trans (World.alloc_heap_new w _)
  have bw := (((qcgm _ w).alloc (qcgl _) _)).trans (b1.mono (by simp))
  have hlt : w.heap.size < w1.heap.size := (qcgg.1 eR).1;have hlt1 : w.heap.size < w1.heap.size + 1 := by omega
  have hlt2 : w.heap.size < w1.heap.size + 1 + 1 := by omega
  have r0 := qd 0 eR rfl;have r1 := qd 1 eR rfl;have r2 := qd 2 eR rfl;have r3 := qd 3 eR rfl;have r4 := qd 4 eR rfl;have r5 := qd 5 eR rfl;have r6 := qd 6 eR rfl;have z0 := qf 0 eR;have z1 := qf 1 eR;have z2 := qf 2 eR;have z3 := qf 3 eR;have z4 := qf 4 eR;have z5 := qf 5 eR;have z6 := qf 6 eR;clear b1;(go_wp2_with fail);obtain ⟨W9, hW9, g1, hbl, hk, hs9⟩ := qxg (.string s) (.string ⟨#[]⟩) (.string ⟨#[]⟩) (.string ⟨#[]⟩) (.slice none 0 0) (.slice none 0 0) (.bool false) (.cells #[.string ⟨#[]⟩, .string ⟨#[]⟩, .string ⟨#[]⟩, .slice none 0 0, .slice none 0 0] 33) (.cells #[.int .i64 x.1, .int .i64 (x.2 : Int)] 25) eR;rw [← hW9];refine fin33 _ W9 w.heap.size _ _ _ _ _ _ _ ⟨_, _, _, rfl⟩ ⟨_, _, _, rfl⟩ rfl g1 ?_;refine ⟨bw.trans (hbl _ (qcgl _)), _, rfl, ?_⟩;unfold qsm;rw [hp, qgx]
 | ok c =>
  go_enter Tryz.func110, Tryz.ntmps110
  (go_wp2_with fail);refine (qbhg PA s _).mono ?_;rintro e w1 ⟨b1, h1⟩;unfold PRes at h1;rw [hp] at h1;obtain ⟨vp, vb, rfl, t1, t2, fr1, fr2⟩ := h1;simp only [World.size_alloc] at fr1 fr2;obtain ⟨a1, c1, rfl, q1⟩ := id t1;obtain ⟨a2, c2, rfl, q2⟩ := id t2;have eR := (b1.block w.heap.size (by simp)).trans (World.alloc_heap_new w _)
  have bw := (((qcgm _ w).alloc (qcgl _) _)).trans (b1.mono (by simp))
  have hlt : w.heap.size < w1.heap.size := (qcgg.1 eR).1;have hlt1 : w.heap.size < w1.heap.size + 1 := by omega
  have hlt2 : w.heap.size < w1.heap.size + 1 + 1 := by omega
  have T1 : Hid (∀ (W' : QW), (∀ j, j < w1.heap.size → j ≠ w.heap.size → W'.heap[j]? = w1.heap[j]?) → w1.heap.size ≤ W'.heap.size → Txt W' _ (qcf s.data.toList c).pre) := fun W' hk hs => qbsv (B := w.heap.size) t1 hk hs (fun a n cap hv hn => by have := fr1 _ _ _ hv; omega)
  have T2 : Hid (∀ (W' : QW), (∀ j, j < w1.heap.size → j ≠ w.heap.size → W'.heap[j]? = w1.heap[j]?) → w1.heap.size ≤ W'.heap.size → Txt W' _ (qcf s.data.toList c).bld) := fun W' hk hs => qbsv (B := w.heap.size) t2 hk hs (fun a n cap hv hn => by have := fr2 _ _ _ hv; omega)
  have r0 := qd 0 eR rfl;have r1 := qd 1 eR rfl;have r2 := qd 2 eR rfl;have r3 := qd 3 eR rfl;have r4 := qd 4 eR rfl;have r5 := qd 5 eR rfl;have r6 := qd 6 eR rfl;have z0 := qf 0 eR;have z1 := qf 1 eR;have z2 := qf 2 eR;have z3 := qf 3 eR;have z4 := qf 4 eR;have z5 := qf 5 eR;have z6 := qf 6 eR;clear b1 t1 t2 q1 q2 fr1 fr2;(go_wp2_with fail);obtain ⟨W9, hW9, g1, hbl, hk, hs9⟩ := qxg (.string s) (.string (qg (qcf s.data.toList c).maj)) (.string (qg (qcf s.data.toList c).min)) (.string (qg (qcf s.data.toList c).pat)) (.slice a1 (qcf s.data.toList c).pre.length c1) (.slice a2 (qcf s.data.toList c).bld.length c2) (.bool true) (.cells #[.string (qg (qcf s.data.toList c).maj), .string (qg (qcf s.data.toList c).min), .string (qg (qcf s.data.toList c).pat), .slice a1 (qcf s.data.toList c).pre.length c1, .slice a2 (qcf s.data.toList c).bld.length c2] 33) (.cells #[.int .i64 0, .int .i64 0] 25) eR;rw [← hW9];refine fin33 _ W9 w.heap.size _ _ _ _ _ _ _ ⟨_, _, _, rfl⟩ ⟨_, _, _, rfl⟩ rfl g1 ?_;refine ⟨bw.trans (hbl _ (qcgl _)), _, rfl, ?_⟩;unfold qsm;rw [hp];exact ⟨_, _, by rw [qgx], T1.out _ hk hs9, T2.out _ hk hs9⟩
theorem qbtl (va vb : QV) (a b : QB) (w : QW) (ha : qsm w va a) (hb : qsm w vb b) :
  Calls Tryz.prog 109 #[va, vb, .func (.func 71) #[] #[], .func (.func 111) #[] #[]] w fun e w' => e = .returned (.int .i64 (cmpT a b)) ∧ Below w.heap.size w w' := by
 unfold qsm at ha hb;cases hp : qbf a with
 | error x =>
  rw [hp] at ha;cases hq : qbf b with
  | error y =>
   rw [hq] at hb;subst ha hb;have HC : Hid (cmpT a b = Lib.compareBytes a b) := by show _ = _; unfold cmpT; rw [hp, hq]
   have S := qmj (qg a) (qg b);rw [qj, qj] at S;have HS := qb S;clear S hp hq;go_enter Tryz.func109, Tryz.ntmps109
   (go_wp2_with fail);refine (HS.out _).mono ?_;rintro e w' ⟨rfl, rfl⟩;(go_wp2_with fail);go_ret
   exact ⟨qbn HC.out.symm, ((qcgm _ w).alloc (qcgl _) _).alloc (by simp) _⟩
  | ok y =>
   rw [hq] at hb;obtain ⟨vp, vb, rfl, t1, t2⟩ := hb;obtain ⟨a1, c1, rfl, _⟩ := t1;obtain ⟨a2, c2, rfl, _⟩ := t2;subst ha;have HC : Hid (cmpT a b = -1) := by show _ = _; unfold cmpT; rw [hp, hq]
   clear hp hq;go_enter Tryz.func109, Tryz.ntmps109
   (go_wp2_with fail);go_ret
   exact ⟨qbn HC.out.symm, ((qcgm _ w).alloc (qcgl _) _).alloc (by simp) _⟩
 | ok x =>
  rw [hp] at ha;obtain ⟨vp, vb', rfl, t1, t2⟩ := ha;obtain ⟨a1, c1, rfl, _⟩ := id t1;obtain ⟨a2, c2, rfl, _⟩ := id t2;cases hq : qbf b with
  | error y =>
   rw [hq] at hb;subst hb;have HC : Hid (cmpT a b = 1) := by show _ = _; unfold cmpT; rw [hp, hq]
   clear hp hq t1 t2;go_enter Tryz.func109, Tryz.ntmps109
   (go_wp2_with fail);go_ret
   exact ⟨qbn HC.out.symm, ((qcgm _ w).alloc (qcgl _) _).alloc (by simp) _⟩
  | ok y =>
   rw [hq] at hb;obtain ⟨wp, wb, rfl, u1, u2⟩ := hb;obtain ⟨a3, c3, rfl, _⟩ := id u1;obtain ⟨a4, c4, rfl, _⟩ := id u2;have HC : Hid (cmpT a b = ordO (qcf a x) (qcf b y)) := by show _ = _; unfold cmpT; rw [hp, hq]
   have HO := qb (fun W (hW : Below w.heap.size w W) => qbhl _ _ (qcf a x) (qcf b y) W (qfd.below ⟨_, _, rfl, t1, t2⟩ hW) (qfd.below ⟨_, _, rfl, u1, u2⟩ hW) (qrd hp) (qrd hq));clear hp hq t1 t2 u1 u2;go_enter Tryz.func109, Tryz.ntmps109
   (go_wp2_with fail);refine (HO.out _ (((qcgm _ w).alloc (qcgl _) _).alloc (by simp) _)).mono ?_
   rintro e w' ⟨rfl, b1⟩;(go_wp2_with fail);go_ret
   exact ⟨qbn HC.out.symm, (((qcgm _ w).alloc (qcgl _) _).alloc (by simp) _).trans (b1.mono (by simp; omega))⟩
theorem qwf (PA : ∀ (s : QY) (w : QW), s.size ≤ 64 → Calls Tryz.prog 39 #[.string s] w (qtn s w)) (s t : QY) (w : QW) :
  Calls Tryz.prog 75 #[.string s, .string t, .func (.func 39) #[] #[], .func (.func 71) #[] #[]] w fun e w' => e = .returned (.int .i64 (cmpT s.data.toList t.data.toList)) ∧ Below w.heap.size w w' := by
 go_enter Tryz.func75, Tryz.ntmps75
 (go_wp2_with fail);refine (qbrx PA _ _).mono ?_;rintro e w1 ⟨b1, v1, rfl, h1⟩;(go_wp2_with fail);refine (qbrx PA _ _).mono ?_;rintro e w2 ⟨b2, v2, rfl, h2⟩;have C := qb (qbtl v1 v2 _ _ w2 (h1.below b2) h2);clear h1 h2;(go_wp2_with fail);refine C.out.mono ?_;rintro e w3 ⟨rfl, b3⟩;(go_wp2_with fail);go_ret
 exact ⟨rfl, b1.trans ((b2.mono b1.size).trans (b3.mono (Nat.le_trans b1.size b2.size)))⟩
theorem qbkf (PA : ∀ (s : QY) (w : QW), s.size ≤ 64 → Calls Tryz.prog 39 #[.string s] w (qtn s w)) (s t : QY) (w : QW) :
  Calls Tryz.prog 42 #[.string s, .string t] w fun e w' => e = .returned (.int .i64 (cmpT s.data.toList t.data.toList)) ∧ Below w.heap.size w w' := by
 go_enter Tryz.func42, Tryz.ntmps42
 (go_wp2_with fail);refine (qwf PA _ _ _).mono ?_;rintro e w1 ⟨rfl, b1⟩;(go_wp2_with fail);go_ret
 exact ⟨rfl, b1⟩
end Go.Proofs.YtpdlgiioahjhiaaGreat

namespace Go.Proofs.YtpdlgiioahjhiaaGreat
open Go.RowKit Go.Shelf
set_option linter.unusedVariables false
set_option maxHeartbeats 400000
set_option maxRecDepth 100000
theorem qbgn (s : QY) (c : Int) (w : World) :
  Calls Tryz.prog 166 #[.string s, .int .u8 c] w fun e w' => e = .returned (.int .i64 (Lib.indexByte s.data.toList c.toNat.toUInt8)) ∧ w' = w := by
 go_enter Tryz.func166, Tryz.ntmps166
 go_wp2
 rw [run_callFunc_extern Tryz.func170 (by kernel_rfl) (by kernel_rfl) (by kernel_rfl) (e := Extern.BytealgIndexByte.indexByte) (by kernel_rfl), Lib.run_indexByteString]
 simp only [Result.andThen];rw [Oper.upon_value];go_wp2
 go_ret
 exact ⟨rfl, rfl⟩
end Go.Proofs.YtpdlgiioahjhiaaGreat

namespace Go.Proofs.YtpdlgiioahjhiaaGreat
open Go.RowKit
set_option linter.unusedVariables false
set_option maxHeartbeats 1000000
theorem qbxm (s : QY) (c : Int) (w : World) :
  Calls Tryz.prog 158 #[.string s, .int .u8 c] w fun e w' => e = .returned (.int .i64 (Lib.indexByte s.data.toList c.toNat.toUInt8)) ∧ w' = w := by
 go_enter Tryz.func158, Tryz.ntmps158
 (go_wp2_with fail);refine (qbgn _ _ _).mono ?_;rintro e w' ⟨rfl, rfl⟩;(go_wp2_with fail);go_ret
 exact ⟨rfl, rfl⟩
def qfv (c : UInt8) : Bool := isC (c.toNat : Int) 5 || decide (0 ≤ Lib.indexByte [45, 43, 46] c)
def prL : QB → Nat
 | [] => 0
 | c :: r => if qfv c then prL r + 1 else 0
theorem qbcs : ∀ l : QB, prL l ≤ l.length
 | [] => Nat.le_refl _
 | c :: r => by
  unfold prL;split
  ·have := qbcs r; simp; omega
  ·simp
theorem qblh (s : QY) (j : Nat) (h : j < s.size) (hc : qfv s[j] = true) : prL (s.data.toList.drop j) = 1 + prL (s.data.toList.drop (j + 1)) := by
 have h' : j < s.data.toList.length := by rw [qh]; exact h
 rw [List.drop_eq_getElem_cons h', prL, if_pos (by exact hc)]
 omega
theorem prL_miss (s : QY) (j : Nat) (h : j < s.size) (hc : qfv s[j] = false) : prL (s.data.toList.drop j) = 0 := by
 have h' : j < s.data.toList.length := by rw [qh]; exact h
 rw [List.drop_eq_getElem_cons h', prL, if_neg (by rw [show s.data.toList[j] = s[j] from rfl, hc]; decide)]
theorem prL_end (s : QY) (j : Nat) (h : ¬ j < s.size) : prL (s.data.toList.drop j) = 0 := by
 rw [List.drop_eq_nil_of_le (by rw [qh]; omega)]; rfl
theorem qccj (c : UInt8) : ((c.toNat : Int)).toNat.toUInt8 = c := by simp
theorem qbws (s : QY) (a : Nat) (w : World) (hs : s.size ≤ 256) (ha : a ≤ s.size) :
  Calls Tryz.prog 147 #[.string s, .int .i64 (a : Int)] w fun e w' => e = .returned (.int .i64 ((a + prL (s.data.toList.drop a) : Nat) : Int)) ∧ w' = w := by
 generalize hR : a + prL (s.data.toList.drop a) = R;have HR0 := qb hR;clear hR;have CI := qb (fun (c : UInt8) W => (by have := qbxm ⟨#[45, 43, 46]⟩ (c.toNat : Int) W; rw [qccj] at this; exact this : Calls Tryz.prog 158 #[.string ⟨#[45, 43, 46]⟩, .int .u8 (c.toNat : Int)] W fun e w' => e = .returned (.int .i64 (Lib.indexByte [45, 43, 46] c)) ∧ w' = W))
 go_enter Tryz.func147, Tryz.ntmps147
 (go_wp2_with fail);go_loop [1] (fun i => ∃ j : Nat, a + j ≤ s.size ∧ i = .int .i64 ((a + j : Nat) : Int) ∧ Hid (prL (s.data.toList.drop a) = j + prL (s.data.toList.drop (a + j)))) (fun i => s.size - (intOf i).toNat)
 case atStart => exact ⟨0, by omega, by simp, by simp [Hid]⟩
 case round =>
  obtain ⟨j, hj, rfl, HR⟩ := hrel;obtain ⟨k, hk⟩ : ∃ k, k = a + j := ⟨_, rfl⟩;rw [← hk] at HR hj ⊢
  by_cases hlt : k < s.size
  ·by_cases hc : isC (s[k].toNat : Int) 5 = true
   ·have H1 := qb (qblh s k hlt (by unfold qfv; rw [hc]; rfl))
    have HK := qb hk;clear hk;go_wp2_with (go_at_call 55; refine (qgz _ _ _).mono ?_; rintro e w' ⟨rfl, rfl⟩)
    go_round
    case rel => exact ⟨j + 1, by have := HK.out; omega, by have := HK.out; subst this; go_num, by have a := HR.out; have b := H1.out; have c := HK.out; subst c; show _ = _; rw [Nat.add_assoc] at b; omega⟩
    case measure => simp [intOf]; omega
   ·have hc' : isC (s[k].toNat : Int) 5 = false := by simpa using hc
    clear hc
    by_cases hi : 0 ≤ Lib.indexByte [45, 43, 46] s[k]
    ·have H1 := qb (qblh s k hlt (by unfold qfv; rw [hc', decide_eq_true hi]; rfl))
     have HK := qb hk;clear hk;go_wp2_with (first | (go_at_call 55; refine (qgz _ _ _).mono ?_; rintro e w' ⟨rfl, rfl⟩) | (go_at_call 158; refine (CI.out _ _).mono ?_; rintro e w' ⟨rfl, rfl⟩))
     go_round
     case rel => exact ⟨j + 1, by have := HK.out; omega, by have := HK.out; subst this; go_num, by have a := HR.out; have b := H1.out; have c := HK.out; subst c; show _ = _; rw [Nat.add_assoc] at b; omega⟩
     case measure => simp [intOf]; omega
    ·have H1 := qb (prL_miss s k hlt (by unfold qfv; rw [hc', decide_eq_false hi]; rfl))
     have HK := qb hk;clear hk;go_wp2_with (first | (go_at_call 55; refine (qgz _ _ _).mono ?_; rintro e w' ⟨rfl, rfl⟩) | (go_at_call 158; refine (CI.out _ _).mono ?_; rintro e w' ⟨rfl, rfl⟩))
     go_ret
     exact ⟨qbn (by have a := HR.out; have b := H1.out; have c := HK.out; have d := HR0.out; omega), rfl⟩
  ·have H1 := qb (prL_end s k hlt);have HK := qb hk;clear hk;(go_wp2_with fail);go_ret
   exact ⟨qbn (by have a := HR.out; have b := H1.out; have c := HK.out; have d := HR0.out; omega), rfl⟩
end Go.Proofs.YtpdlgiioahjhiaaGreat

namespace Go.Proofs.YtpdlgiioahjhiaaGreat
open Go.Shelf
def Tryz.lays156_ren : Go.Shelf.Ren := ⟨fun | 156 => 33 | 165 => 63 | 166 => 64 | 169 => 65 | 240 => 100 | 241 => 101 | 276 => 138 | 277 => 139 | n => n, fun | 31 => 31 | 9 => 9 | 3 => 3 | 4 => 4 | 0 => 0 | 20 => 20 | 72 => 93 | 76 => 97 | 70 => 90 | 37 => 91 | 75 => 96 | 127 => 127 | 164 => 155 | 5 => 5 | 80 => 99 | n => n, fun | n => n⟩
theorem Tryz.lays156 : Go.Proofs.Lays.n156 Tryz.prog Tryz.lays156_ren := {
 mixed := by kernel_rfl
 f156 := Tryz.func33.trans (congrArg some (by kernel_rfl))
 f165 := Tryz.func63.trans (congrArg some (by kernel_rfl))
 f166 := Tryz.func64.trans (congrArg some (by kernel_rfl))
 f169 := Tryz.func65.trans (congrArg some (by kernel_rfl))
 f240 := Tryz.func100.trans (congrArg some (by kernel_rfl))
 f241 := Tryz.func101.trans (congrArg some (by kernel_rfl))
 f276 := Tryz.func138.trans (congrArg some (by kernel_rfl))
 f277 := Tryz.func139.trans (congrArg some (by kernel_rfl))
 t0 := Tryz.underlying0
 a0 := Tryz.isAgg0
 z0 := Tryz.sizeOf0
 v0 := Tryz.zeroValue0
 t3 := Tryz.underlying3
 a3 := Tryz.isAgg3
 z3 := Tryz.sizeOf3
 v3 := Tryz.zeroValue3
 t4 := Tryz.underlying4
 a4 := Tryz.isAgg4
 z4 := Tryz.sizeOf4
 v4 := Tryz.zeroValue4
 t9 := Tryz.underlying9
 a9 := Tryz.isAgg9
 z9 := Tryz.sizeOf9
 v9 := Tryz.zeroValue9
 t20 := Tryz.underlying20
 a20 := Tryz.isAgg20
 z20 := Tryz.sizeOf20
 v20 := Tryz.zeroValue20
 t31 := Tryz.underlying31
 a31 := Tryz.isAgg31
 z31 := Tryz.sizeOf31
 v31 := Tryz.zeroValue31
 t37 := Tryz.underlying91
 a37 := Tryz.isAgg91
 z37 := Tryz.sizeOf91
 v37 := Tryz.zeroValue91
 t70 := Tryz.underlying90
 a70 := Tryz.isAgg90
 z70 := Tryz.sizeOf90
 v70 := Tryz.zeroValue90
 t72 := Tryz.underlying93
 a72 := Tryz.isAgg93
 z72 := Tryz.sizeOf93
 v72 := Tryz.zeroValue93
 t75 := Tryz.underlying96
 a75 := Tryz.isAgg96
 z75 := Tryz.sizeOf96
 v75 := Tryz.zeroValue96
 t76 := Tryz.underlying97
 a76 := Tryz.isAgg97
 z76 := Tryz.sizeOf97
 v76 := Tryz.zeroValue97
 t127 := Tryz.underlying127
 a127 := Tryz.isAgg127
 z127 := Tryz.sizeOf127
 v127 := Tryz.zeroValue127
 t164 := Tryz.underlying155
 a164 := Tryz.isAgg155
 z164 := Tryz.sizeOf155
 v164 := Tryz.zeroValue155 }
theorem Tryz.Builder_Extra_156 : Builder.Extra Tryz.prog Tryz.lays156_ren := {
 sizeBuilder := by kernel_rfl
 liesBuilder := by kernel_rfl
 t5 := Tryz.underlying5
 a5 := Tryz.isAgg5
 z5 := Tryz.sizeOf5
 v5 := Tryz.zeroValue5
 infoByte := by kernel_rfl
 cellsByte := by kernel_rfl
 sizeByte := by kernel_rfl
 neB5 := by decide }
open Go.RowKit in
theorem Tryz.strings_Join_none (a : Option Addr) (c : Nat) (sep : QY) (w : World) :
  Calls Tryz.prog 33 #[.slice a 0 c, .string sep] w fun e w' => e = .returned (.string ⟨#[]⟩) ∧ w' = w := Any.strings_Join_none Tryz.lays156 Tryz.Builder_Extra_156 a c sep w
open Go.RowKit in
theorem Tryz.strings_Join (bk o c : Nat) (xs : List QY) (sep : QY) (w : World) (hcells : ∀ (j : Nat) x, xs[j]? = some x → w.cell? ⟨bk, o + j, none⟩ = some (.string x)) (hbk : bk < w.heap.size) (hN : xs.length ≤ 140737488355328) (hcap : xs.length ≤ c) (hlen : (Lib.join (xs.map (·.data.toList)) sep.data.toList).length ≤ 140737488355328) :
  Calls Tryz.prog 33 #[.slice (some ⟨bk, o, none⟩) xs.length c, .string sep] w fun e w' => e = .returned (.string ⟨(Lib.join (xs.map (·.data.toList)) sep.data.toList).toArray⟩) ∧ Below w.heap.size w w' := Any.strings_Join Tryz.lays156 Tryz.Builder_Extra_156 bk o c xs sep w hcells hbk hN hcap hlen
end Go.Proofs.YtpdlgiioahjhiaaGreat
