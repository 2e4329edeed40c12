/- What lies in memory while a version is read, and what a retu -/
import Derived.Test.YtpdlgiioahjhiaaGreatPFc
import Derived.Test.YtpdlgiioahjhiaaGreatPSb
namespace Go.Proofs.YtpdlgiioahjhiaaGreat
open Go.RowKit Go.Shelf
open Below renaming heap_alloc → qcgz, heap_setCell → qcgx
open World renaming alloc_heap_new → qcgj, size_alloc → qcgp
open Go renaming World → QW, Value → QV
open Go.RowKit renaming Below → QE
set_option linter.unusedVariables false
attribute [local go_sem] Oper.semAt_some
theorem Tryz.info9 : (Tryz.prog.info? 9).map (fun i => (i.zero, i.size, i.bytes)) = some (some (.string .empty), 1, 16) := by kernel_rfl
def strs (s : QY) (xs : List (Nat × Nat)) : List QV := xs.map fun x => .string (s.extract x.1 x.2)
def semV (s : QY) (c : Cuts) (vp vb : QV) : QV := .agg #[.string (s.extract 0 c.a), .string (s.extract c.b c.c), .string (s.extract c.d c.e), vp, vb]
def qtn (s : QY) (w : QW) (e : Ending) (w' : QW) : Prop :=
 QE w.heap.size w w' ∧
  match qbf s.data.toList with
  | .error x => e = .returned (.tuple #[semZ, .agg #[.int .i64 x.1, .int .i64 (x.2 : Int)]])
  | .ok c => ∃ vp vb, e = .returned (.tuple #[semV s c vp vb, .agg #[.int .i64 0, .int .i64 0]]) ∧ w'.ownsRow w.heap.size 9 1 vp c.pre.length (strs s c.pre) ∧ w'.ownsRow w.heap.size 9 1 vb c.bld.length (strs s c.bld)
def PS (s : QY) (w : QW) (n₀ V : Nat) (ps : List (Nat × Obj)) (cs : QV → Array QV) (at' err : Int) (pre : List (Nat × Nat)) (W : QW) : Prop :=
 ∃ v, qbb W ((V, .cells (cs v) 33 (0, 0)) :: (V + 1, .cells #[.int .i64 at'] 3 (0, 0)) :: (V + 1 + 1, .cells #[.int .i64 err] 23 (0, 0)) :: ps) ∧ W.ownsRow n₀ 9 1 v pre.length (strs s pre) ∧ QE w.heap.size w W
def PI (s : QY) (w : QW) (n₀ V : Nat) (ps : List (Nat × Obj)) (cs : QV → Array QV) (p : Bool) (z : Nat) (pre : List (Nat × Nat)) (W : QW) : Prop :=
 PS s w n₀ V ps cs (qcm z pre : Nat) 0 pre W ∧ qcj p s.data.toList pre = none
def PX (s : QY) (w : QW) (n₀ V : Nat) (ps : List (Nat × Obj)) (cs : QV → Array QV) (p : Bool) (k : Nat) (c : Code) (ys : List (Nat × Nat)) (W : QW) : Prop :=
 c = .exit k ∧ ∃ pre x, ys = pre ++ [x] ∧ qcj p s.data.toList pre = none ∧ qbv p s.data.toList (seg s.data.toList x.1 x.2) x.2 ≠ 0 ∧ PS s w n₀ V ps cs (x.2 : Nat) (qbv p s.data.toList (seg s.data.toList x.1 x.2) x.2) pre W
theorem qvm (s : QY) (w : QW) (n₀ V : Nat) (ps : List (Nat × Obj)) (cs : QV → Array QV) (at' err : Int) (pre : List (Nat × Nat)) (B0 : Nat) (hV : V + 3 ≤ B0) (hps : ∀ p ∈ ps, p.1 < B0) (hw : w.heap.size ≤ B0) :
  ∀ (X Y : QW) (row : Option Nat), PS s w n₀ V ps cs at' err pre X → X.grownBy Y row → (∀ r, row = some r → B0 ≤ r ∧ ∃ o : Obj, X.heap[r]? = some o ∧ o.isCells = false) → PS s w n₀ V ps cs at' err pre Y := by
 rintro X Y row ⟨v, hl, hr, hb⟩ hg hrow;refine ⟨v, hl.kept hg ?_, hr.kept hg ?_, ?_⟩
 ·intro p hp e;have h1 := (hrow p.1 e.symm).1;simp only [List.mem_cons] at hp;rcases hp with rfl | rfl | rfl | hp
  ·simp at h1; omega
  ·simp at h1; omega
  ·simp at h1; omega
  ·have := hps p hp; omega
 ·rcases hr.2 with ⟨rfl, _⟩ | ⟨g, cap, cur, rfl, _, hgb, _⟩
  ·exact .inl rfl
  ·refine .inr fun e' => ?_;obtain ⟨_, o, ho, hc⟩ := hrow g (by simpa [Value.ownBlock] using e'.symm)
   rw [hgb] at ho; cases ho; cases hc
 ·exact ownFrom_below (β := Unit) (Nat.le_refl _) hw () X Y row hb hg hrow
theorem qbnc {l : QB} {a : Nat} {x : Int × Nat} (h : numR l a = .error x) : x.1 ≠ 0 := by
 unfold numR misL at h;split at h
 ·cases h; split <;> simp
 ·split at h
  ·cases h; simp
  ·cases h
theorem qbzt {l : QB} {a : Nat} {x : Int × Nat} (h : dotR l a = .error x) : x.1 ≠ 0 := by
 unfold dotR misL at h;split at h
 ·cases h
 ·cases h; split <;> simp
theorem qbtv {l : QB} {x : Int × Nat} (h : qdp l = .error x) : x.1 ≠ 0 := by
 unfold qdp at h;split at h
 ·rename_i y h1; cases h; exact qbnc h1
 split at h
 ·rename_i y h1; cases h; exact qbzt h1
 split at h
 ·rename_i y h1; cases h; exact qbnc h1
 split at h
 ·rename_i y h1; cases h; exact qbzt h1
 split at h
 ·rename_i y h1; cases h; exact qbnc h1
 ·cases h
theorem qbcx (s : QY) (w w1 : QW) (b1 : QE (((w.alloc (.cells #[.string s] 9)).alloc (.cells #[.string ⟨#[]⟩, .string ⟨#[]⟩, .string ⟨#[]⟩, .slice none 0 0, .slice none 0 0] 33)).alloc (.cells #[.int .i64 0, .int .i64 0] 25)).heap.size (((w.alloc (.cells #[.string s] 9)).alloc (.cells #[.string ⟨#[]⟩, .string ⟨#[]⟩, .string ⟨#[]⟩, .slice none 0 0, .slice none 0 0] 33)).alloc (.cells #[.int .i64 0, .int .i64 0] 25)) w1) :
  qbb w1 [(w.heap.size, .cells #[.string s] 9), (w.heap.size + 1, .cells #[.string ⟨#[]⟩, .string ⟨#[]⟩, .string ⟨#[]⟩, .slice none 0 0, .slice none 0 0] 33), (w.heap.size + 1 + 1, .cells #[.int .i64 0, .int .i64 0] 25)] := by
 refine qbb.below (n := (((w.alloc (.cells #[.string s] 9)).alloc (.cells #[.string ⟨#[]⟩, .string ⟨#[]⟩, .string ⟨#[]⟩, .slice none 0 0, .slice none 0 0] 33)).alloc (.cells #[.int .i64 0, .int .i64 0] 25)).heap.size) ?_ b1 ?_
 ·have h1 := Boxed.new w 9 (.string s);have h2 := qcgj (w.alloc (.cells #[.string s] 9)) (.cells #[.string ⟨#[]⟩, .string ⟨#[]⟩, .string ⟨#[]⟩, .slice none 0 0, .slice none 0 0] 33);have h3 := qcgj ((w.alloc (.cells #[.string s] 9)).alloc (.cells #[.string ⟨#[]⟩, .string ⟨#[]⟩, .string ⟨#[]⟩, .slice none 0 0, .slice none 0 0] 33)) (.cells #[.int .i64 0, .int .i64 0] 25);simp only [qcgp] at h2 h3;exact qbb.cons ((h1.alloc _).alloc _) (qbb.cons ((qcgz _ _ _ (by simp)).trans h2) (qbb.cons h3 (qbb.nil _)))
 ·intro p hp;simp only [List.mem_cons, List.not_mem_nil, or_false] at hp;rcases hp with rfl | rfl | rfl <;> simp <;> omega
theorem qxl (s : QY) (w w1 : QW) {o1 o2 o3 : Obj} (b1 : QE (((w.alloc o1).alloc o2).alloc o3).heap.size (((w.alloc o1).alloc o2).alloc o3) w1) : QE w.heap.size w w1 :=
 (((((Below.refl _ w).alloc (Nat.le_refl _) _).alloc (by simp) _).alloc (by simp; omega) _)).trans (b1.mono (by simp; omega))
theorem qbht (w : QW) (o1 o2 o3 : Obj) (ps : List (Nat × Obj)) (h : qbb w ps) :
  qbb (((w.alloc o1).alloc o2).alloc o3) ((w.heap.size, o1) :: (w.heap.size + 1, o2) :: (w.heap.size + 1 + 1, o3) :: ps) := by
 have h1 := qcgj w o1;have h2 := qcgj (w.alloc o1) o2;have h3 := qcgj ((w.alloc o1).alloc o2) o3;simp only [qcgp] at h2 h3;exact qbb.cons ((qcgz _ _ _ (by simp; omega)).trans ((qcgz _ _ _ (by simp)).trans h1)) (qbb.cons ((qcgz _ _ _ (by simp)).trans h2) (qbb.cons h3 (((h.alloc _).alloc _).alloc _)))
theorem qbdl (w w1 : QW) (o1 o2 o3 : Obj) (h : QE w.heap.size w w1) : QE w.heap.size w (((w1.alloc o1).alloc o2).alloc o3) :=
 ((h.alloc h.size _).alloc (by have := h.size; simp; omega) _).alloc (by have := h.size; simp; omega) _
def qbrn (Ds : List Nat) : List Deferred := Ds.map fun D => { target := .collected D, args := #[] }
def Past (n₀ : Nat) (W W' : QW) : Prop := QE n₀ W W' ∧ ∀ (b : Nat) (o : Obj), W.heap[b]? = some o → o.isCells = true → W'.heap[b]? = some o
theorem Past.refl (n₀ : Nat) (W : QW) : Past n₀ W W := ⟨Below.refl _ _, fun _ _ h _ => h⟩
theorem Past.trans {n₀ : Nat} {A B C : QW} (h : Past n₀ A B) (k : Past n₀ B C) : Past n₀ A C := ⟨h.1.trans k.1, fun b o h1 h2 => k.2 b o (h.2 b o h1 h2) h2⟩
theorem Past.own {n₀ base : Nat} {e : TypeId} {size : Nat} {v : QV} {k : Nat} {xs : List QV} {W W' : QW} (h : Past n₀ W W') (hr : W.ownsRow base e size v k xs) : W'.ownsRow base e size v k xs := by
 refine ⟨hr.1, ?_⟩;rcases hr.2 with h2 | ⟨g, cap, cur, hv, hg, hh, r⟩
 ·exact .inl h2
 ·exact .inr ⟨g, cap, cur, hv, hg, h.2 g _ hh rfl, r⟩
theorem qpq {fn : Func} {tmps : Array QV} {R : Ending → QW → Prop} (n₀ : Nat) : ∀ (Ds : List Nat) (W : QW), Ds.Nodup → (∀ D ∈ Ds, n₀ ≤ D ∧ W.heap[D]? = some (.deferred (some []))) →
  (∀ W', Past n₀ W W' → LeavesIn Fence.wide 5 Tryz.prog fn tmps R [] .returning W') → LeavesInM Fence.wide 5 Tryz.prog fn tmps R (qbrn Ds) .returning W
 | [], W, _, _, h => h W (Past.refl _ _)
 | D :: Ds, W, hnd, hD, h => by
  have hd := hD D List.mem_cons_self;have hne : ∀ E ∈ Ds, E ≠ D := fun E hE e => by subst e; exact (List.nodup_cons.1 hnd).1 hE
  refine ⟨by simp, .inl ⟨_, _, rfl, run_takeDeferred hd.2, ?_⟩⟩
  refine qpq n₀ Ds _ (List.nodup_cons.1 hnd).2 (fun E hE => ⟨(hD E (List.mem_cons_of_mem _ hE)).1, (World.putObj_heap_other (hne E hE)).trans (hD E (List.mem_cons_of_mem _ hE)).2⟩) ?_;intro W' hW';refine h W' (Past.trans ⟨?_, ?_⟩ hW')
  ·exact belowK_b (w := { W with heap := W.heap.take n₀ }) (n₀ := n₀) (by have := (Array.getElem?_eq_some_iff.1 hd.2).1; simp; omega) W D _ _ (by simp; omega) hd.2 rfl rfl
  ·intro b o hb ho
   by_cases e : b = D
   ·subst e; rw [hd.2] at hb; cases hb; cases ho
   ·exact (World.putObj_heap_other e).trans hb
theorem fin9 {R : Ending → QW → Prop} (tmps : Array QV) (Ds : List Nat) (W : QW) (n₀ B1 B2 : Nat) (m n p : QY) (vp vb : QV) (k z : Int)
  (op : ∃ a i c, vp = .slice a i c) (ob : ∃ a i c, vb = .slice a i c)
  (h1 : tmps.getD 2 undef = .pointer (some ⟨B1, 0, none⟩)) (h2 : tmps.getD 3 undef = .pointer (some ⟨B2, 0, none⟩))
  (e1 : W.heap[B1]? = some (.cells #[.string m, .string n, .string p, vp, vb] 33 (0, 0))) (e2 : W.heap[B2]? = some (.cells #[.int .i64 k, .int .i64 z] 25 (0, 0)))
  (hnd : Ds.Nodup) (hD : ∀ D ∈ Ds, n₀ ≤ D ∧ W.heap[D]? = some (.deferred (some [])))
  (hR : ∀ W', Past n₀ W W' → R (.returned (.tuple #[.agg #[.string m, .string n, .string p, vp, vb], .agg #[.int .i64 k, .int .i64 z]])) W') :
  bodyPostM Fence.wide 5 Tryz.prog Tryz.f39 R .ret { tmps := tmps, defers := qbrn Ds } W := by
 show LeavesInM _ _ _ _ _ _ _ _ _;refine qpq n₀ Ds W hnd hD ?_;intro W' hW';have e1' := hW'.2 _ _ e1 rfl;have e2' := hW'.2 _ _ e2 rfl;obtain ⟨a1, i1, c1, rfl⟩ := op;obtain ⟨a2, i2, c2, rfl⟩ := ob;have r0 := qd 0 e1' rfl;have r1 := qd 1 e1' rfl;have r2 := qd 2 e1' rfl;have r3 := qd 3 e1' rfl;have r4 := qd 4 e1' rfl;have f0 := qd 0 e2' rfl;have f1 := qd 1 e2' rfl;rw [Array.getD_eq_getD_getElem?] at h1 h2;refine ⟨_, ?_, hR W' hW'⟩;simp [results, Tryz.results39, go_sem, h1, h2, r0, r1, r2, r3, r4, f0, f1]
 try rfl
theorem qbtr {W : QW} {B : Nat} {x0 x1 x2 x3 x4 : QV} (a b c d e : QV) (h : W.heap[B]? = some (.cells #[x0, x1, x2, x3, x4] 33 (0, 0))) :
  (((((W.setCell ⟨B, 0, none⟩ a).setCell ⟨B, 1, none⟩ b).setCell ⟨B, 2, none⟩ c).setCell ⟨B, 3, none⟩ d).setCell ⟨B, 4, none⟩ e).heap[B]? = some (.cells #[a, b, c, d, e] 33 (0, 0)) :=
 qv 4 e (qv 3 d (qv 2 c (qv 1 b (qv 0 a h))))
theorem two_set {W : QW} {B : Nat} {x0 x1 : QV} (a b : QV) (h : W.heap[B]? = some (.cells #[x0, x1] 25 (0, 0))) :
  ((W.setCell ⟨B, 0, none⟩ a).setCell ⟨B, 1, none⟩ b).heap[B]? = some (.cells #[a, b] 25 (0, 0)) :=
 qv 1 b (qv 0 a h)
theorem qdt {W : QW} {B1 B2 : Nat} (hne : B1 ≠ B2) {x0 x1 x2 x3 x4 y0 y1 : QV} (a b c d e k z : QV) (eR : W.heap[B1]? = some (.cells #[x0, x1, x2, x3, x4] 33 (0, 0))) (eF : W.heap[B2]? = some (.cells #[y0, y1] 25 (0, 0))) :
  ∃ W', W' = (((((((W.setCell ⟨B1, 0, none⟩ a).setCell ⟨B1, 1, none⟩ b).setCell ⟨B1, 2, none⟩ c).setCell ⟨B1, 3, none⟩ d).setCell ⟨B1, 4, none⟩ e).setCell ⟨B2, 0, none⟩ k).setCell ⟨B2, 1, none⟩ z) ∧
   W'.heap[B1]? = some (.cells #[a, b, c, d, e] 33 (0, 0)) ∧ W'.heap[B2]? = some (.cells #[k, z] 25 (0, 0)) ∧ (∀ j, j ≠ B1 → j ≠ B2 → W'.heap[j]? = W.heap[j]?) ∧ (∀ n₀, n₀ ≤ B1 → n₀ ≤ B2 → QE n₀ W W') := by
 have k1 : ∀ (X : QW) (o : Nat) (v : QV) (j : Nat), j ≠ B1 → (X.setCell ⟨B1, o, none⟩ v).heap[j]? = X.heap[j]? := fun X o v j hj => qcgx _ _ _ j hj;have k2 : ∀ (X : QW) (o : Nat) (v : QV) (j : Nat), j ≠ B2 → (X.setCell ⟨B2, o, none⟩ v).heap[j]? = X.heap[j]? := fun X o v j hj => qcgx _ _ _ j hj;refine ⟨_, rfl, ?_, ?_, ?_, ?_⟩
 ·rw [k2 _ _ _ _ hne, k2 _ _ _ _ hne]; exact qbtr a b c d e eR
 ·refine two_set (x0 := y0) (x1 := y1) k z ?_;rw [k1 _ _ _ _ hne.symm, k1 _ _ _ _ hne.symm, k1 _ _ _ _ hne.symm, k1 _ _ _ _ hne.symm, k1 _ _ _ _ hne.symm]; exact eF
 ·intro j h1 h2;rw [k2 _ _ _ _ h2, k2 _ _ _ _ h2, k1 _ _ _ _ h1, k1 _ _ _ _ h1, k1 _ _ _ _ h1, k1 _ _ _ _ h1, k1 _ _ _ _ h1]
 ·intro n₀ h1 h2;exact (((((((Below.refl n₀ W).setCell (p := ⟨B1, 0, none⟩) h1 a).setCell (p := ⟨B1, 1, none⟩) h1 b).setCell (p := ⟨B1, 2, none⟩) h1 c).setCell (p := ⟨B1, 3, none⟩) h1 d).setCell (p := ⟨B1, 4, none⟩) h1 e).setCell (p := ⟨B2, 0, none⟩) h2 k).setCell (p := ⟨B2, 1, none⟩) h2 z
theorem qgr {s : QY} {w W W' : QW} {x : Int × Nat} (hp : qbf s.data.toList = .error x) (hb : QE w.heap.size w W) (h : Past w.heap.size W W') : qtn s w (.returned (.tuple #[.agg #[.string ⟨#[]⟩, .string ⟨#[]⟩, .string ⟨#[]⟩, .slice none 0 0, .slice none 0 0], .agg #[.int .i64 x.1, .int .i64 (x.2 : Int)]])) W' := by
 refine ⟨hb.trans h.1, ?_⟩;rw [hp]
 rfl
theorem qtw {s : QY} {w W W' : QW} {c : Cuts} {vp vb : QV} (hp : qbf s.data.toList = .ok c) (hb : QE w.heap.size w W) (h : Past w.heap.size W W') (h1 : W.ownsRow w.heap.size 9 1 vp c.pre.length (strs s c.pre)) (h2 : W.ownsRow w.heap.size 9 1 vb c.bld.length (strs s c.bld)) :
  qtn s w (.returned (.tuple #[.agg #[.string (s.extract 0 c.a), .string (s.extract c.b c.c), .string (s.extract c.d c.e), vp, vb], .agg #[.int .i64 0, .int .i64 0]])) W' := by
 refine ⟨hb.trans h.1, ?_⟩;rw [hp];exact ⟨vp, vb, rfl, h.own h1, h.own h2⟩
theorem num_le {s : QY} {a e : Nat} (ha : a ≤ s.size) (h : numR s.data.toList a = .ok e) : e ≤ s.size := by
 have := qjn 1 s a ha;unfold numR at h;split at h
 ·cases h
 ·split at h
  ·cases h
  ·cases h; exact this
theorem dot_le {s : QY} {a e : Nat} (h : dotR s.data.toList a = .ok e) : e ≤ s.size := by
 unfold dotR at h;split at h
 ·rename_i h1;have := (List.getElem?_eq_some_iff.1 h1).1;rw [qh] at this;cases h; omega
 ·cases h
theorem nums_le {s : QY} {a b c d e : Nat} (h : qdp s.data.toList = .ok (a, b, c, d, e)) : e ≤ s.size := by
 unfold qdp at h;split at h
 ·cases h
 split at h
 ·cases h
 split at h
 ·cases h
 split at h
 ·cases h
 rename_i hd;split at h
 ·cases h
 ·rename_i he;cases h;exact num_le (dot_le hd) he
theorem qwn (w : QW) (o1 o2 o3 o4 : Obj) (ps : List (Nat × Obj)) (h : qbb w ps) :
  qbb ((((w.alloc o1).alloc o2).alloc o3).alloc o4) ((w.heap.size, o1) :: (w.heap.size + 1, o2) :: (w.heap.size + 1 + 1, o3) :: (w.heap.size + 1 + 1 + 1, o4) :: ps) := by
 have h1 := qcgj w o1;have h2 := qcgj (w.alloc o1) o2;have h3 := qcgj ((w.alloc o1).alloc o2) o3;have h4 := qcgj (((w.alloc o1).alloc o2).alloc o3) o4;simp only [qcgp] at h2 h3 h4;exact qbb.cons ((qcgz _ _ _ (by simp only [qcgp]; omega)).trans ((qcgz _ _ _ (by simp only [qcgp]; omega)).trans ((qcgz _ _ _ (by simp)).trans h1))) (qbb.cons ((qcgz _ _ _ (by simp only [qcgp]; omega)).trans ((qcgz _ _ _ (by simp)).trans h2)) (qbb.cons ((qcgz _ _ _ (by simp)).trans h3) (qbb.cons h4 ((((h.alloc _).alloc _).alloc _).alloc _))))
theorem qsq (w w1 : QW) (o1 o2 o3 o4 : Obj) (h : QE w.heap.size w w1) : QE w.heap.size w ((((w1.alloc o1).alloc o2).alloc o3).alloc o4) :=
 (((h.alloc h.size _).alloc (by have := h.size; simp only [qcgp]; omega) _).alloc (by have := h.size; simp only [qcgp]; omega) _).alloc (by have := h.size; simp only [qcgp]; omega) _
theorem qwr {W : QW} {base g cap k : Nat} {e : TypeId} {size : Nat} {xs : List QV} (h : W.ownsRow base e size (.slice (some ⟨g, 0, none⟩) k cap) k xs) :
  ∃ cur : Array QV, base ≤ g ∧ W.heap[g]? = some (.cells cur e (0, 0)) ∧ ∀ (W' : QW) (b' : Nat), W'.heap[g]? = some (.cells cur e (0, 0)) → b' ≤ base → W'.ownsRow b' e size (.slice (some ⟨g, 0, none⟩) k cap) k xs := by
 obtain ⟨h1, h2⟩ := h;rcases h2 with ⟨h2, _⟩ | ⟨g', cap', cur, hv, hg, hh, r⟩
 ·cases h2
 ·cases hv;exact ⟨cur, hg, hh, fun W' b' hW' hb => ⟨h1, .inr ⟨g, cap, cur, rfl, by omega, hW', r⟩⟩⟩
theorem qm (w : QW) (e : TypeId) (x : QV) : ∀ j u, [x][j]? = some u → (w.alloc (.cells #[x] e)).cell? ((⟨w.heap.size, 0, none⟩ : Addr).add j) = some u := by
 intro j u hj;have h := fun j => World.cell?_alloc_mark w #[x] e (0, 0) j
 match j, hj with
 | 0, hj => simp at hj; subst hj; exact h 0
theorem qbg (x : QY) : ∀ u ∈ [Value.string x], u.oneCell' = true := by
 intro u hu;simp at hu;subst hu; rfl
theorem qfg (s : QY) (pre : List (Nat × Nat)) (x : Nat × Nat) : strs s (pre ++ [x]) = strs s pre ++ [.string (s.extract x.1 x.2)] := by simp [strs]
def putT (a b c d e : Nat) : Except (Int × Nat) (List (Nat × Nat) × List (Nat × Nat)) → Except (Int × Nat) Cuts
 | .error x => .error x
 | .ok (pre, bld) => .ok ⟨a, b, c, d, e, pre, bld⟩
theorem qcdn {l : QB} {a b c d e : Nat} (hl : ¬ 64 < l.length) (h : qdp l = .ok (a, b, c, d, e)) : qbf l = putT a b c d e (qdg l e) := by
 unfold qbf putT;rw [if_neg hl, h]
 rfl
theorem tail_bad {l : QB} {e : Nat} (h : l[e]? = some 45) {x : Int × Nat} (hx : idsR true l (e + 1) = .error x) : qdg l e = .error x := by
 unfold qdg; rw [if_pos h, hx]
theorem tail_ok {l : QB} {e p : Nat} {pre : List (Nat × Nat)} (h : l[e]? = some 45) (hx : idsR true l (e + 1) = .ok (pre, p)) : qdg l e = qcb l p pre := by
 unfold qdg; rw [if_pos h, hx]
theorem qcbn {l : QB} {e : Nat} (h : ¬ l[e]? = some 45) : qdg l e = qcb l e [] := by
 unfold qdg; rw [if_neg h]
theorem qbgw {l : QB} {p : Nat} {pre : List (Nat × Nat)} (h : l[p]? = some 43) {x : Int × Nat} (hx : idsR false l (p + 1) = .error x) : qcb l p pre = .error x := by
 unfold qcb; rw [if_pos h, hx]
theorem qbnz {l : QB} {p q : Nat} {pre b : List (Nat × Nat)} (h : l[p]? = some 43) (hx : idsR false l (p + 1) = .ok (b, q)) : qcb l p pre = if q < l.length then .error (10, q) else .ok (pre, b) := by
 unfold qcb; rw [if_pos h, hx]
theorem qqh {l : QB} {p : Nat} {pre : List (Nat × Nat)} (h : ¬ l[p]? = some 43) : qcb l p pre = if p < l.length then .error (10, p) else .ok (pre, []) := by
 unfold qcb; rw [if_neg h]
theorem qwc {W : QW} {n₀ k : Nat} {e : TypeId} {size : Nat} {v : QV} {xs : List QV} (h : W.ownsRow n₀ e size v k xs) (j : Nat) (hj : some j = v.ownBlock) : n₀ ≤ j := by
 rcases h.2 with ⟨rfl, _⟩ | ⟨g, cap, cur, rfl, hb, _, _⟩
 ·simp [Value.ownBlock] at hj
 ·obtain rfl : j = g := by simpa [Value.ownBlock] using hj
  exact hb
theorem qqd {W1 w1 : QW} {tmp : Obj} {n₀ k : Nat} {v : QV} {xs : List QV} {qs : List (Nat × Obj)} (hL : qbb W1 qs) (hq : ∀ q ∈ qs, q.1 < n₀) (hrow : W1.ownsRow n₀ 9 1 v k xs) (hg : (W1.alloc tmp).grownBy w1 v.ownBlock) : qbb w1 qs :=
 (hL.alloc tmp).kept hg (fun q hq' e => by have := qwc hrow q.1 e; have := hq q hq'; omega)
theorem qlp {s : QY} {w Wi : QW} {n₀ V : Nat} {ps : List (Nat × Obj)} {cs : QV → Array QV} {v : QV} {z0 e0 : Int} (z1 e1 : Int) {k : Nat} {xs : List QV} (Ba Bs : Nat)
  (hV : V + 3 ≤ n₀) (hw : w.heap.size ≤ V) (hps : ∀ q ∈ ps, q.1 ≠ V + 1 ∧ q.1 ≠ V + 1 + 1) (hBa : Ba ≠ V + 1 ∧ Ba ≠ V + 1 + 1) (hBs : Bs ≠ V + 1 ∧ Bs ≠ V + 1 + 1)
  (hL : qbb Wi ((V, .cells (cs v) 33 (0, 0)) :: (V + 1, .cells #[.int .i64 z0] 3 (0, 0)) :: (V + 1 + 1, .cells #[.int .i64 e0] 23 (0, 0)) :: ps))
  (hrow : Wi.ownsRow n₀ 9 1 v k xs) (hB : QE w.heap.size w Wi) :
  ∃ W1, W1 = (Wi.setCell ⟨V + 1, 0, none⟩ (.int .i64 z1)).setCell ⟨V + 1 + 1, 0, none⟩ (.int .i64 e1) ∧
   qbb W1 ((V, .cells (cs v) 33 (0, 0)) :: (V + 1, .cells #[.int .i64 z1] 3 (0, 0)) :: (V + 1 + 1, .cells #[.int .i64 e1] 23 (0, 0)) :: ps) ∧ W1.ownsRow n₀ 9 1 v k xs ∧ QE w.heap.size w W1 ∧ KeepsOthers Wi W1 ∧ Two Ba Bs Wi W1 ∧ W1.heap.size = Wi.heap.size := by
 have k1 : ∀ (X : QW) (o : Nat) (u : QV) (j : Nat), j ≠ V + 1 → (X.setCell ⟨V + 1, o, none⟩ u).heap[j]? = X.heap[j]? := fun X o u j hj => qcgx _ _ _ j hj;have k2 : ∀ (X : QW) (o : Nat) (u : QV) (j : Nat), j ≠ V + 1 + 1 → (X.setCell ⟨V + 1 + 1, o, none⟩ u).heap[j]? = X.heap[j]? := fun X o u j hj => qcgx _ _ _ j hj;refine ⟨_, rfl, ?_, ?_, ?_, ?_, ?_, ?_⟩
 ·refine qbb.cons ?_ (qbb.cons ?_ (qbb.cons ?_ ?_))
  ·rw [k2 _ _ _ _ (by omega), k1 _ _ _ _ (by omega)]; exact hL.head
  ·rw [k2 _ _ _ _ (by omega)]; exact qv 0 _ hL.tail.head
  ·exact qv (cs := #[.int .i64 e0]) 0 (.int .i64 e1) (by rw [k1 _ _ _ _ (by omega)]; exact hL.tail.tail.head)
  ·intro q hq;rw [k2 _ _ _ _ (hps q hq).2, k1 _ _ _ _ (hps q hq).1];exact hL.tail.tail.tail q hq
 ·have h1 := hrow.kept (qnh Wi (V + 1) 0 (.int .i64 z1)) (.inr fun e => by have := qwc hrow (V + 1) e.symm; omega)
  exact h1.kept (qnh _ (V + 1 + 1) 0 (.int .i64 e1)) (.inr fun e => by have := qwc hrow (V + 1 + 1) e.symm; omega)
 ·exact (hB.setCell (p := ⟨V + 1, 0, none⟩) (by show _ ≤ V + 1; omega) _).setCell (p := ⟨V + 1 + 1, 0, none⟩) (by show _ ≤ V + 1 + 1; omega) _
 ·exact (KeepsOthers.setCell _ _ _).trans (KeepsOthers.setCell _ _ _)
 ·exact ⟨by rw [k2 _ _ _ _ hBa.2, k1 _ _ _ _ hBa.1], by rw [k2 _ _ _ _ hBs.2, k1 _ _ _ _ hBs.1]⟩
 ·show (Array.modify _ _ _).size = _;rw [Array.size_modify];show (Array.modify _ _ _).size = _;rw [Array.size_modify]
theorem qbcd {s : QY} {w Wi W1 w1 : QW} {n₀ V off z : Nat} {ps : List (Nat × Obj)} {cs : QV → Array QV} {p : Bool} {Ba Bs : Nat} {pre : List (Nat × Nat)} {x : Nat × Nat} {v : QV} {tmp : Obj} {g' cap' : Nat}
  (hV : V + 3 ≤ n₀) (hps : ∀ q ∈ ps, q.1 < n₀ ∧ q.1 ≠ V) (hw : w.heap.size ≤ V) (hBa : Ba < n₀ ∧ Ba ≠ V) (hBs : Bs < n₀ ∧ Bs ≠ V) (hcs : ∀ u, (cs v).setIfInBounds off u = cs u) (hn1 : n₀ ≤ W1.heap.size)
  (hL : qbb W1 ((V, .cells (cs v) 33 (0, 0)) :: (V + 1, .cells #[.int .i64 (x.2 : Int)] 3 (0, 0)) :: (V + 1 + 1, .cells #[.int .i64 0] 23 (0, 0)) :: ps))
  (hrow : W1.ownsRow n₀ 9 1 v pre.length (strs s pre)) (hB : QE w.heap.size w W1) (hk : KeepsOthers Wi W1) (h2 : Two Ba Bs Wi W1)
  (hbad : qcj p s.data.toList pre = none) (hx : qbv p s.data.toList (seg s.data.toList x.1 x.2) x.2 = 0)
  (hown' : w1.ownsRow n₀ 9 1 (.slice (some ⟨g', 0, none⟩) (pre.length + 1) cap') (pre.length + 1) (strs s pre ++ [.string (s.extract x.1 x.2)]))
  (hgrow : (W1.alloc tmp).grownBy w1 v.ownBlock) (B : Nat) :
  KeepsFrom B Wi (w1.setCell ⟨V, off, none⟩ (.slice (some ⟨g', 0, none⟩) (pre.length + 1) cap')) ∧ Two Ba Bs Wi (w1.setCell ⟨V, off, none⟩ (.slice (some ⟨g', 0, none⟩) (pre.length + 1) cap')) ∧
   PI s w n₀ V ps cs p z (pre ++ [x]) (w1.setCell ⟨V, off, none⟩ (.slice (some ⟨g', 0, none⟩) (pre.length + 1) cap')) := by
 have hq : ∀ q ∈ ((V, Obj.cells (cs v) 33 (0, 0)) :: (V + 1, .cells #[.int .i64 (x.2 : Int)] 3 (0, 0)) :: (V + 1 + 1, .cells #[.int .i64 0] 23 (0, 0)) :: ps), q.1 < n₀ := by
  intro q hq;simp only [List.mem_cons] at hq;rcases hq with rfl | rfl | rfl | hq
  ·show V < n₀; omega
  ·show V + 1 < n₀; omega
  ·show V + 1 + 1 < n₀; omega
  ·exact (hps q hq).1
 have hL1 := qqd hL hq hrow hgrow;have hg2 := qnh w1 V off (.slice (some ⟨g', 0, none⟩) (pre.length + 1) cap');have hblk : ∀ j, j < n₀ → j ≠ V → (w1.setCell ⟨V, off, none⟩ (.slice (some ⟨g', 0, none⟩) (pre.length + 1) cap')).heap[j]? = W1.heap[j]? := fun j hj hjV => by
  rw [show (w1.setCell ⟨V, off, none⟩ (.slice (some ⟨g', 0, none⟩) (pre.length + 1) cap')).heap[j]? = w1.heap[j]? from qcgx _ _ _ j hjV];rw [hgrow.block j (by simp; omega) (fun e => by have := qwc hrow j e; omega)]
  exact qcgz _ _ _ (by omega)
 have hkg : KeepsOthers (W1.alloc tmp) w1 := KeepsOthers.of_grownBy hgrow fun j o ej hj => by
  rcases (hrow.alloc tmp).2 with ⟨rfl, _⟩ | ⟨g, cap, cur, rfl, _, hgb, _⟩
  ·simp [Value.ownBlock] at ej
  ·obtain rfl : g = j := by simpa [Value.ownBlock] using ej
   rw [hgb] at hj; cases hj; rfl
 refine ⟨(hk.trans (((KeepsOthers.alloc W1 tmp).trans hkg).trans (KeepsOthers.setCell _ _ _))).from B, ⟨(hblk Ba hBa.1 hBa.2).trans h2.1, (hblk Bs hBs.1 hBs.2).trans h2.2⟩, ⟨.slice (some ⟨g', 0, none⟩) (pre.length + 1) cap', ?_, ?_, ?_⟩, ?_⟩
 ·rw [qbfk];refine qbb.cons ?_ (qbb.cons ?_ (qbb.cons ?_ ?_))
  ·rw [← hcs]; exact qv off _ hL1.head
  ·rw [hblk _ (by omega) (by omega)]; exact hL.tail.head
  ·rw [hblk _ (by omega) (by omega)]; exact hL.tail.tail.head
  ·intro q hq';rw [hblk _ (hps q hq').1 (hps q hq').2]; exact hL.tail.tail.tail q hq'
 ·rw [qfg, List.length_append];exact hown'.kept hg2 (.inr fun e => by have := qwc hown' V e.symm; omega)
 ·have h1 := hB.alloc hB.size tmp;have h2 := h1.grown hgrow (by simp; have := hB.size; omega) (fun j ej => by have := qwc hrow j ej.symm; omega)
  exact h2.setCell (p := ⟨V, off, none⟩) hw _
 ·rw [qsh p _ pre _ hbad];simp [qcj, hx]
theorem qlm {W : QW} {base : Nat} {e : TypeId} {size : Nat} {v : QV} {k : Nat} {xs : List QV} (h : W.ownsRow base e size v k xs) : ∃ ao cap, v = .slice ao k cap := by
 rcases h.2 with ⟨rfl, rfl⟩ | ⟨g, cap, _, rfl, _⟩
 ·exact ⟨none, 0, rfl⟩
 ·exact ⟨_, cap, rfl⟩
def noDefer : Op → Bool
 | .defer _ => false
 | _ => true
theorem qml {ops : Array Oper} (h : ops.all (fun o => noDefer o.op) = true) : ∀ (i : Nat) (o : Oper), ops[i]? = some o → ∀ c, o.op ≠ .defer c := by
 intro i o ho c hc;obtain ⟨hi, he⟩ := Array.getElem?_eq_some_iff.1 ho;have := Array.all_eq_true.1 h i hi;rw [he, hc] at this;cases this
theorem qjv {w W : QW} {V : Nat} {o1 o2 oV : Obj} {z : Int} {ps : List (Nat × Obj)} (hw : w.heap.size ≤ V) (hV : V + 3 ≤ W.heap.size) (hps : ∀ q ∈ ps, q.1 ≠ V + 1 + 1)
  (hL : qbb W ((V, oV) :: (V + 1, .cells #[.int .i64 z] 3 (0, 0)) :: (V + 1 + 1, .cells #[.int .i64 0] 23 (0, 0)) :: ps)) (hB : QE w.heap.size w W) :
  ∃ W', W' = ((W.setCell ⟨V + 1 + 1, 0, none⟩ (.int .i64 10)).alloc o1).alloc o2 ∧
   qbb W' ((V, oV) :: (V + 1, .cells #[.int .i64 z] 3 (0, 0)) :: (V + 1 + 1, .cells #[.int .i64 10] 23 (0, 0)) :: ps) ∧ QE w.heap.size w W' := by
 have k2 : ∀ (X : QW) (o : Nat) (u : QV) (j : Nat), j ≠ V + 1 + 1 → (X.setCell ⟨V + 1 + 1, o, none⟩ u).heap[j]? = X.heap[j]? := fun X o u j hj => qcgx _ _ _ j hj;refine ⟨_, rfl, ?_, ?_⟩
 ·refine qbb.alloc (qbb.alloc ?_ _) _;refine qbb.cons ?_ (qbb.cons ?_ (qbb.cons ?_ ?_))
  ·rw [k2 _ _ _ _ (by omega)]; exact hL.head
  ·rw [k2 _ _ _ _ (by omega)]; exact hL.tail.head
  ·exact qv (cs := #[.int .i64 0]) 0 (.int .i64 10) hL.tail.tail.head
  ·intro q hq;rw [k2 _ _ _ _ (hps q hq)]; exact hL.tail.tail.tail q hq
 ·have h1 := hB.setCell (p := ⟨V + 1 + 1, 0, none⟩) (by show _ ≤ V + 1 + 1; omega) (.int .i64 10)
  have h2 := h1.alloc h1.size o1;exact h2.alloc h2.size o2
theorem qbfb {W : QW} {base : Nat} {v : QV} {k : Nat} {xs : List QV} (h : W.ownsRow base 9 1 v k xs) (hk : 0 < k) : ∃ g cap, v = .slice (some ⟨g, 0, none⟩) k cap := by
 rcases h.2 with ⟨_, h0⟩ | ⟨g, cap, _, rfl, _⟩
 ·omega
 ·exact ⟨g, cap, rfl⟩
theorem qbfm (s : QY) (p : Nat) (h : p < s.size) (h0 : idL (s.data.toList.drop p) = 0) : s[p] ≠ 45 := by
 intro e;have := qpt s p h (qbjj _ e);omega
end Go.Proofs.YtpdlgiioahjhiaaGreat
