/-
  What lies in memory while a version is read, and what a return hands back. · Walks: the version with one part raised. · The document's reader: what lies in memory while it reads; its small walks. · The document's reader: digits, numbers, one byte. · Walks: words with which a text goes on; texts without blanks at their ends. · Walks: words (the document's answer), texts without blanks at their ends.
-/
import Derived.Test.YtpdlgiioahjhiaaGreatQFa
import Derived.Test.YtpdlgiioahjhiaaGreatQSb
import Derived.Deep.RegionWith
import Derived.Test.YtpdlgiioahjhiaaGreatQFc
import Derived.Deep.QuietTactic
import Derived.BigQuiet
import Derived.Test.YtpdlgiioahjhiaaGreatQPlainS
namespace Go.Proofs.YtpdlgiioahjhiaaGreat
open Go.RowKit Go.Shelf
set_option linter.unusedVariables false
attribute [local go_sem] Oper.semAt_some

theorem Tryz.info9 : (Tryz.prog.info? 9).map (fun i => (i.zero, i.size, i.bytes)) = some (some (.string .empty), 1, 16) := by kernel_rfl

def strs (s : ByteArray) (xs : List (Nat × Nat)) : List Value := xs.map fun x => .string (s.extract x.1 x.2)
def semV (s : ByteArray) (c : Cuts) (vp vb : Value) : Value := .agg #[.string (s.extract 0 c.a), .string (s.extract c.b c.c), .string (s.extract c.d c.e), vp, vb]
def PPost (s : ByteArray) (w : World) (e : Ending) (w' : World) : Prop :=
  Below w.heap.size w w' ∧
    match parseR s.data.toList with
    | .error x => e = .returned (.tuple #[semZ, .agg #[.int .i64 x.1, .int .i64 (x.2 : Int)]])
    | .ok c => ∃ vp vb, e = .returned (.tuple #[semV s c vp vb, .agg #[.int .i64 0, .int .i64 0]]) ∧ w'.ownsRow w.heap.size 9 1 vp c.pre.length (strs s c.pre) ∧ w'.ownsRow w.heap.size 9 1 vb c.bld.length (strs s c.bld)

def PS (s : ByteArray) (w : World) (n₀ V : Nat) (ps : List (Nat × Obj)) (cs : Value → Array Value) (at' err : Int) (pre : List (Nat × Nat)) (W : World) : Prop :=
  ∃ v, Lies W ((V, .cells (cs v) 33 (0, 0)) :: (V + 1, .cells #[.int .i64 at'] 3 (0, 0)) :: (V + 1 + 1, .cells #[.int .i64 err] 23 (0, 0)) :: ps) ∧ W.ownsRow n₀ 9 1 v pre.length (strs s pre) ∧ Below w.heap.size w W
def PI (s : ByteArray) (w : World) (n₀ V : Nat) (ps : List (Nat × Obj)) (cs : Value → Array Value) (p : Bool) (z : Nat) (pre : List (Nat × Nat)) (W : World) : Prop :=
  PS s w n₀ V ps cs (lastE z pre : Nat) 0 pre W ∧ badOf p s.data.toList pre = none
def PX (s : ByteArray) (w : World) (n₀ V : Nat) (ps : List (Nat × Obj)) (cs : Value → Array Value) (p : Bool) (k : Nat) (c : Code) (ys : List (Nat × Nat)) (W : World) : Prop :=
  c = .exit k ∧ ∃ pre x, ys = pre ++ [x] ∧ badOf p s.data.toList pre = none ∧ wrongL p s.data.toList (seg s.data.toList x.1 x.2) x.2 ≠ 0 ∧ PS s w n₀ V ps cs (x.2 : Nat) (wrongL p s.data.toList (seg s.data.toList x.1 x.2) x.2) pre W

theorem PS_own (s : ByteArray) (w : World) (n₀ V : Nat) (ps : List (Nat × Obj)) (cs : Value → Array Value) (at' err : Int) (pre : List (Nat × Nat)) (B0 : Nat) (hV : V + 3 ≤ B0) (hps : ∀ p ∈ ps, p.1 < B0) (hw : w.heap.size ≤ B0) :
    ∀ (X Y : World) (row : Option Nat), PS s w n₀ V ps cs at' err pre X → X.grownBy Y row → (∀ r, row = some r → B0 ≤ r ∧ ∃ o : Obj, X.heap[r]? = some o ∧ o.isCells = false) → PS s w n₀ V ps cs at' err pre Y := by
  rintro X Y row ⟨v, hl, hr, hb⟩ hg hrow
  refine ⟨v, hl.kept hg ?_, hr.kept hg ?_, ?_⟩
  · intro p hp e
    have h1 := (hrow p.1 e.symm).1
    simp only [List.mem_cons] at hp
    rcases hp with rfl | rfl | rfl | hp
    · simp at h1; omega
    · simp at h1; omega
    · simp at h1; omega
    · have := hps p hp; omega
  · rcases hr.2 with ⟨rfl, _⟩ | ⟨g, cap, cur, rfl, _, hgb, _⟩
    · exact .inl rfl
    · refine .inr fun e' => ?_
      obtain ⟨_, o, ho, hc⟩ := hrow g (by simpa [Value.ownBlock] using e'.symm)
      rw [hgb] at ho; cases ho; cases hc
  · exact ownFrom_below (β := Unit) (Nat.le_refl _) hw () X Y row hb hg hrow

theorem num_err {l : List UInt8} {a : Nat} {x : Int × Nat} (h : numR l a = .error x) : x.1 ≠ 0 := by
  unfold numR misL at h
  split at h
  · cases h; split <;> simp
  · split at h
    · cases h; simp
    · cases h
theorem dot_err {l : List UInt8} {a : Nat} {x : Int × Nat} (h : dotR l a = .error x) : x.1 ≠ 0 := by
  unfold dotR misL at h
  split at h
  · cases h
  · cases h; split <;> simp
theorem nums_err {l : List UInt8} {x : Int × Nat} (h : numsR l = .error x) : x.1 ≠ 0 := by
  unfold numsR at h
  split at h
  · rename_i y h1; cases h; exact num_err h1
  split at h
  · rename_i y h1; cases h; exact dot_err h1
  split at h
  · rename_i y h1; cases h; exact num_err h1
  split at h
  · rename_i y h1; cases h; exact dot_err h1
  split at h
  · rename_i y h1; cases h; exact num_err h1
  · cases h

theorem lies_start (s : ByteArray) (w w1 : World) (b1 : Below (((w.alloc (.cells #[.string s] 9)).alloc (.cells #[.string ⟨#[]⟩, .string ⟨#[]⟩, .string ⟨#[]⟩, .slice none 0 0, .slice none 0 0] 33)).alloc (.cells #[.int .i64 0, .int .i64 0] 25)).heap.size (((w.alloc (.cells #[.string s] 9)).alloc (.cells #[.string ⟨#[]⟩, .string ⟨#[]⟩, .string ⟨#[]⟩, .slice none 0 0, .slice none 0 0] 33)).alloc (.cells #[.int .i64 0, .int .i64 0] 25)) w1) :
    Lies w1 [(w.heap.size, .cells #[.string s] 9), (w.heap.size + 1, .cells #[.string ⟨#[]⟩, .string ⟨#[]⟩, .string ⟨#[]⟩, .slice none 0 0, .slice none 0 0] 33), (w.heap.size + 1 + 1, .cells #[.int .i64 0, .int .i64 0] 25)] := by
  refine Lies.below (n := (((w.alloc (.cells #[.string s] 9)).alloc (.cells #[.string ⟨#[]⟩, .string ⟨#[]⟩, .string ⟨#[]⟩, .slice none 0 0, .slice none 0 0] 33)).alloc (.cells #[.int .i64 0, .int .i64 0] 25)).heap.size) ?_ b1 ?_
  · have h1 := Boxed.new w 9 (.string s)
    have h2 := World.alloc_heap_new (w.alloc (.cells #[.string s] 9)) (.cells #[.string ⟨#[]⟩, .string ⟨#[]⟩, .string ⟨#[]⟩, .slice none 0 0, .slice none 0 0] 33)
    have h3 := World.alloc_heap_new ((w.alloc (.cells #[.string s] 9)).alloc (.cells #[.string ⟨#[]⟩, .string ⟨#[]⟩, .string ⟨#[]⟩, .slice none 0 0, .slice none 0 0] 33)) (.cells #[.int .i64 0, .int .i64 0] 25)
    simp only [World.size_alloc] at h2 h3
    exact Lies.cons ((h1.alloc _).alloc _) (Lies.cons ((Below.heap_alloc _ _ _ (by simp)).trans h2) (Lies.cons h3 (Lies.nil _)))
  · intro p hp
    simp only [List.mem_cons, List.not_mem_nil, or_false] at hp
    rcases hp with rfl | rfl | rfl <;> simp <;> omega
theorem below_start (s : ByteArray) (w w1 : World) {o1 o2 o3 : Obj} (b1 : Below (((w.alloc o1).alloc o2).alloc o3).heap.size (((w.alloc o1).alloc o2).alloc o3) w1) : Below w.heap.size w w1 :=
  (((((Below.refl _ w).alloc (Nat.le_refl _) _).alloc (by simp) _).alloc (by simp; omega) _)).trans (b1.mono (by simp; omega))
theorem lies_vars (w : World) (o1 o2 o3 : Obj) (ps : List (Nat × Obj)) (h : Lies w ps) :
    Lies (((w.alloc o1).alloc o2).alloc o3) ((w.heap.size, o1) :: (w.heap.size + 1, o2) :: (w.heap.size + 1 + 1, o3) :: ps) := by
  have h1 := World.alloc_heap_new w o1
  have h2 := World.alloc_heap_new (w.alloc o1) o2
  have h3 := World.alloc_heap_new ((w.alloc o1).alloc o2) o3
  simp only [World.size_alloc] at h2 h3
  exact Lies.cons ((Below.heap_alloc _ _ _ (by simp; omega)).trans ((Below.heap_alloc _ _ _ (by simp)).trans h1)) (Lies.cons ((Below.heap_alloc _ _ _ (by simp)).trans h2) (Lies.cons h3 (((h.alloc _).alloc _).alloc _)))
theorem below_vars (w w1 : World) (o1 o2 o3 : Obj) (h : Below w.heap.size w w1) : Below w.heap.size w (((w1.alloc o1).alloc o2).alloc o3) :=
  ((h.alloc h.size _).alloc (by have := h.size; simp; omega) _).alloc (by have := h.size; simp; omega) _

def marks (Ds : List Nat) : List Deferred := Ds.map fun D => { target := .collected D, args := #[] }

def Past (n₀ : Nat) (W W' : World) : Prop := Below n₀ W W' ∧ ∀ (b : Nat) (o : Obj), W.heap[b]? = some o → o.isCells = true → W'.heap[b]? = some o
theorem Past.refl (n₀ : Nat) (W : World) : Past n₀ W W := ⟨Below.refl _ _, fun _ _ h _ => h⟩
theorem Past.trans {n₀ : Nat} {A B C : World} (h : Past n₀ A B) (k : Past n₀ B C) : Past n₀ A C := ⟨h.1.trans k.1, fun b o h1 h2 => k.2 b o (h.2 b o h1 h2) h2⟩
theorem Past.own {n₀ base : Nat} {e : TypeId} {size : Nat} {v : Value} {k : Nat} {xs : List Value} {W W' : World} (h : Past n₀ W W') (hr : W.ownsRow base e size v k xs) : W'.ownsRow base e size v k xs := by
  refine ⟨hr.1, ?_⟩
  rcases hr.2 with h2 | ⟨g, cap, cur, hv, hg, hh, r⟩
  · exact .inl h2
  · exact .inr ⟨g, cap, cur, hv, hg, h.2 g _ hh rfl, r⟩

theorem leaves_marks {fn : Func} {tmps : Array Value} {R : Ending → World → Prop} (n₀ : Nat) : ∀ (Ds : List Nat) (W : World), Ds.Nodup → (∀ D ∈ Ds, n₀ ≤ D ∧ W.heap[D]? = some (.deferred (some []))) →
    (∀ W', Past n₀ W W' → LeavesIn Fence.wide 5 Tryz.prog fn tmps R [] .returning W') → LeavesInM Fence.wide 5 Tryz.prog fn tmps R (marks Ds) .returning W
  | [], W, _, _, h => h W (Past.refl _ _)
  | D :: Ds, W, hnd, hD, h => by
    have hd := hD D List.mem_cons_self
    have hne : ∀ E ∈ Ds, E ≠ D := fun E hE e => by subst e; exact (List.nodup_cons.1 hnd).1 hE
    refine ⟨by simp, .inl ⟨_, _, rfl, run_takeDeferred hd.2, ?_⟩⟩
    refine leaves_marks n₀ Ds _ (List.nodup_cons.1 hnd).2 (fun E hE => ⟨(hD E (List.mem_cons_of_mem _ hE)).1, (World.putObj_heap_other (hne E hE)).trans (hD E (List.mem_cons_of_mem _ hE)).2⟩) ?_
    intro W' hW'
    refine h W' (Past.trans ⟨?_, ?_⟩ hW')
    · exact belowK_b (w := { W with heap := W.heap.take n₀ }) (n₀ := n₀) (by have := (Array.getElem?_eq_some_iff.1 hd.2).1; simp; omega) W D _ _ (by simp; omega) hd.2 rfl rfl
    · intro b o hb ho
      by_cases e : b = D
      · subst e; rw [hd.2] at hb; cases hb; cases ho
      · exact (World.putObj_heap_other e).trans hb

theorem fin9 {R : Ending → World → Prop} (tmps : Array Value) (Ds : List Nat) (W : World) (n₀ B1 B2 : Nat) (m n p : ByteArray) (vp vb : Value) (k z : Int)
    (op : ∃ a i c, vp = .slice a i c) (ob : ∃ a i c, vb = .slice a i c)
    (h1 : tmps.getD 2 undef = .pointer (some ⟨B1, 0, none⟩)) (h2 : tmps.getD 3 undef = .pointer (some ⟨B2, 0, none⟩))
    (e1 : W.heap[B1]? = some (.cells #[.string m, .string n, .string p, vp, vb] 33 (0, 0))) (e2 : W.heap[B2]? = some (.cells #[.int .i64 k, .int .i64 z] 25 (0, 0)))
    (hnd : Ds.Nodup) (hD : ∀ D ∈ Ds, n₀ ≤ D ∧ W.heap[D]? = some (.deferred (some [])))
    (hR : ∀ W', Past n₀ W W' → R (.returned (.tuple #[.agg #[.string m, .string n, .string p, vp, vb], .agg #[.int .i64 k, .int .i64 z]])) W') :
    bodyPostM Fence.wide 5 Tryz.prog Tryz.f39 R .ret { tmps := tmps, defers := marks Ds } W := by
  show LeavesInM _ _ _ _ _ _ _ _ _
  refine leaves_marks n₀ Ds W hnd hD ?_
  intro W' hW'
  have e1' := hW'.2 _ _ e1 rfl
  have e2' := hW'.2 _ _ e2 rfl
  obtain ⟨a1, i1, c1, rfl⟩ := op
  obtain ⟨a2, i2, c2, rfl⟩ := ob
  have r0 := cell_at 0 e1' rfl
  have r1 := cell_at 1 e1' rfl
  have r2 := cell_at 2 e1' rfl
  have r3 := cell_at 3 e1' rfl
  have r4 := cell_at 4 e1' rfl
  have f0 := cell_at 0 e2' rfl
  have f1 := cell_at 1 e2' rfl
  rw [Array.getD_eq_getD_getElem?] at h1 h2
  refine ⟨_, ?_, hR W' hW'⟩
  simp [results, Tryz.results39, go_sem, h1, h2, r0, r1, r2, r3, r4, f0, f1]
  try rfl

theorem five_set {W : World} {B : Nat} {x0 x1 x2 x3 x4 : Value} (a b c d e : Value) (h : W.heap[B]? = some (.cells #[x0, x1, x2, x3, x4] 33 (0, 0))) :
    (((((W.setCell ⟨B, 0, none⟩ a).setCell ⟨B, 1, none⟩ b).setCell ⟨B, 2, none⟩ c).setCell ⟨B, 3, none⟩ d).setCell ⟨B, 4, none⟩ e).heap[B]? = some (.cells #[a, b, c, d, e] 33 (0, 0)) :=
  set_lies 4 e (set_lies 3 d (set_lies 2 c (set_lies 1 b (set_lies 0 a h))))
theorem two_set {W : World} {B : Nat} {x0 x1 : Value} (a b : Value) (h : W.heap[B]? = some (.cells #[x0, x1] 25 (0, 0))) :
    ((W.setCell ⟨B, 0, none⟩ a).setCell ⟨B, 1, none⟩ b).heap[B]? = some (.cells #[a, b] 25 (0, 0)) :=
  set_lies 1 b (set_lies 0 a h)

theorem end_world {W : World} {B1 B2 : Nat} (hne : B1 ≠ B2) {x0 x1 x2 x3 x4 y0 y1 : Value} (a b c d e k z : Value) (eR : W.heap[B1]? = some (.cells #[x0, x1, x2, x3, x4] 33 (0, 0))) (eF : W.heap[B2]? = some (.cells #[y0, y1] 25 (0, 0))) :
    ∃ W', W' = (((((((W.setCell ⟨B1, 0, none⟩ a).setCell ⟨B1, 1, none⟩ b).setCell ⟨B1, 2, none⟩ c).setCell ⟨B1, 3, none⟩ d).setCell ⟨B1, 4, none⟩ e).setCell ⟨B2, 0, none⟩ k).setCell ⟨B2, 1, none⟩ z) ∧
      W'.heap[B1]? = some (.cells #[a, b, c, d, e] 33 (0, 0)) ∧ W'.heap[B2]? = some (.cells #[k, z] 25 (0, 0)) ∧ (∀ j, j ≠ B1 → j ≠ B2 → W'.heap[j]? = W.heap[j]?) ∧ (∀ n₀, n₀ ≤ B1 → n₀ ≤ B2 → Below n₀ W W') := by
  have k1 : ∀ (X : World) (o : Nat) (v : Value) (j : Nat), j ≠ B1 → (X.setCell ⟨B1, o, none⟩ v).heap[j]? = X.heap[j]? := fun X o v j hj => Below.heap_setCell _ _ _ j hj
  have k2 : ∀ (X : World) (o : Nat) (v : Value) (j : Nat), j ≠ B2 → (X.setCell ⟨B2, o, none⟩ v).heap[j]? = X.heap[j]? := fun X o v j hj => Below.heap_setCell _ _ _ j hj
  refine ⟨_, rfl, ?_, ?_, ?_, ?_⟩
  · rw [k2 _ _ _ _ hne, k2 _ _ _ _ hne]; exact five_set a b c d e eR
  · refine two_set (x0 := y0) (x1 := y1) k z ?_
    rw [k1 _ _ _ _ hne.symm, k1 _ _ _ _ hne.symm, k1 _ _ _ _ hne.symm, k1 _ _ _ _ hne.symm, k1 _ _ _ _ hne.symm]; exact eF
  · intro j h1 h2
    rw [k2 _ _ _ _ h2, k2 _ _ _ _ h2, k1 _ _ _ _ h1, k1 _ _ _ _ h1, k1 _ _ _ _ h1, k1 _ _ _ _ h1, k1 _ _ _ _ h1]
  · intro n₀ h1 h2
    exact (((((((Below.refl n₀ W).setCell (p := ⟨B1, 0, none⟩) h1 a).setCell (p := ⟨B1, 1, none⟩) h1 b).setCell (p := ⟨B1, 2, none⟩) h1 c).setCell (p := ⟨B1, 3, none⟩) h1 d).setCell (p := ⟨B1, 4, none⟩) h1 e).setCell (p := ⟨B2, 0, none⟩) h2 k).setCell (p := ⟨B2, 1, none⟩) h2 z

theorem ppost_err {s : ByteArray} {w W W' : World} {x : Int × Nat} (hp : parseR s.data.toList = .error x) (hb : Below w.heap.size w W) (h : Past w.heap.size W W') : PPost s w (.returned (.tuple #[.agg #[.string ⟨#[]⟩, .string ⟨#[]⟩, .string ⟨#[]⟩, .slice none 0 0, .slice none 0 0], .agg #[.int .i64 x.1, .int .i64 (x.2 : Int)]])) W' := by
  refine ⟨hb.trans h.1, ?_⟩
  rw [hp]
  rfl

theorem ppost_ok {s : ByteArray} {w W W' : World} {c : Cuts} {vp vb : Value} (hp : parseR s.data.toList = .ok c) (hb : Below w.heap.size w W) (h : Past w.heap.size W W') (h1 : W.ownsRow w.heap.size 9 1 vp c.pre.length (strs s c.pre)) (h2 : W.ownsRow w.heap.size 9 1 vb c.bld.length (strs s c.bld)) :
    PPost s w (.returned (.tuple #[.agg #[.string (s.extract 0 c.a), .string (s.extract c.b c.c), .string (s.extract c.d c.e), vp, vb], .agg #[.int .i64 0, .int .i64 0]])) W' := by
  refine ⟨hb.trans h.1, ?_⟩
  rw [hp]
  exact ⟨vp, vb, rfl, h.own h1, h.own h2⟩

theorem num_le {s : ByteArray} {a e : Nat} (ha : a ≤ s.size) (h : numR s.data.toList a = .ok e) : e ≤ s.size := by
  have := runL_drop_le 1 s a ha
  unfold numR at h
  split at h
  · cases h
  · split at h
    · cases h
    · cases h; exact this
theorem dot_le {s : ByteArray} {a e : Nat} (h : dotR s.data.toList a = .ok e) : e ≤ s.size := by
  unfold dotR at h
  split at h
  · rename_i h1
    have := (List.getElem?_eq_some_iff.1 h1).1
    rw [len_data] at this
    cases h; omega
  · cases h
theorem nums_le {s : ByteArray} {a b c d e : Nat} (h : numsR s.data.toList = .ok (a, b, c, d, e)) : e ≤ s.size := by
  unfold numsR at h
  split at h
  · cases h
  split at h
  · cases h
  split at h
  · cases h
  split at h
  · cases h
  rename_i hd
  split at h
  · cases h
  · rename_i he
    cases h
    exact num_le (dot_le hd) he

theorem lies_four (w : World) (o1 o2 o3 o4 : Obj) (ps : List (Nat × Obj)) (h : Lies w ps) :
    Lies ((((w.alloc o1).alloc o2).alloc o3).alloc o4) ((w.heap.size, o1) :: (w.heap.size + 1, o2) :: (w.heap.size + 1 + 1, o3) :: (w.heap.size + 1 + 1 + 1, o4) :: ps) := by
  have h1 := World.alloc_heap_new w o1
  have h2 := World.alloc_heap_new (w.alloc o1) o2
  have h3 := World.alloc_heap_new ((w.alloc o1).alloc o2) o3
  have h4 := World.alloc_heap_new (((w.alloc o1).alloc o2).alloc o3) o4
  simp only [World.size_alloc] at h2 h3 h4
  exact Lies.cons ((Below.heap_alloc _ _ _ (by simp only [World.size_alloc]; omega)).trans ((Below.heap_alloc _ _ _ (by simp only [World.size_alloc]; omega)).trans ((Below.heap_alloc _ _ _ (by simp)).trans h1))) (Lies.cons ((Below.heap_alloc _ _ _ (by simp only [World.size_alloc]; omega)).trans ((Below.heap_alloc _ _ _ (by simp)).trans h2)) (Lies.cons ((Below.heap_alloc _ _ _ (by simp)).trans h3) (Lies.cons h4 ((((h.alloc _).alloc _).alloc _).alloc _))))
theorem below_four (w w1 : World) (o1 o2 o3 o4 : Obj) (h : Below w.heap.size w w1) : Below w.heap.size w ((((w1.alloc o1).alloc o2).alloc o3).alloc o4) :=
  (((h.alloc h.size _).alloc (by have := h.size; simp only [World.size_alloc]; omega) _).alloc (by have := h.size; simp only [World.size_alloc]; omega) _).alloc (by have := h.size; simp only [World.size_alloc]; omega) _

theorem row_block {W : World} {base g cap k : Nat} {e : TypeId} {size : Nat} {xs : List Value} (h : W.ownsRow base e size (.slice (some ⟨g, 0, none⟩) k cap) k xs) :
    ∃ cur : Array Value, base ≤ g ∧ W.heap[g]? = some (.cells cur e (0, 0)) ∧ ∀ (W' : World) (b' : Nat), W'.heap[g]? = some (.cells cur e (0, 0)) → b' ≤ base → W'.ownsRow b' e size (.slice (some ⟨g, 0, none⟩) k cap) k xs := by
  obtain ⟨h1, h2⟩ := h
  rcases h2 with ⟨h2, _⟩ | ⟨g', cap', cur, hv, hg, hh, r⟩
  · cases h2
  · cases hv
    exact ⟨cur, hg, hh, fun W' b' hW' hb => ⟨h1, .inr ⟨g, cap, cur, rfl, by omega, hW', r⟩⟩⟩

theorem cell_str_new (w : World) (e : TypeId) (x : Value) : ∀ j u, [x][j]? = some u → (w.alloc (.cells #[x] e)).cell? ((⟨w.heap.size, 0, none⟩ : Addr).add j) = some u := by
  intro j u hj
  have h := fun j => World.cell?_alloc_mark w #[x] e (0, 0) j
  match j, hj with
  | 0, hj => simp at hj; subst hj; exact h 0
theorem str_one (x : ByteArray) : ∀ u ∈ [Value.string x], u.oneCell' = true := by
  intro u hu
  simp at hu
  subst hu; rfl
theorem strs_snoc (s : ByteArray) (pre : List (Nat × Nat)) (x : Nat × Nat) : strs s (pre ++ [x]) = strs s pre ++ [.string (s.extract x.1 x.2)] := by simp [strs]

def putT (a b c d e : Nat) : Except (Int × Nat) (List (Nat × Nat) × List (Nat × Nat)) → Except (Int × Nat) Cuts
  | .error x => .error x
  | .ok (pre, bld) => .ok ⟨a, b, c, d, e, pre, bld⟩
theorem parse_put {l : List UInt8} {a b c d e : Nat} (hl : ¬ 64 < l.length) (h : numsR l = .ok (a, b, c, d, e)) : parseR l = putT a b c d e (tailR l e) := by
  unfold parseR putT
  rw [if_neg hl, h]
  rfl
theorem tail_bad {l : List UInt8} {e : Nat} (h : l[e]? = some 45) {x : Int × Nat} (hx : idsR true l (e + 1) = .error x) : tailR l e = .error x := by
  unfold tailR; rw [if_pos h, hx]
theorem tail_ok {l : List UInt8} {e p : Nat} {pre : List (Nat × Nat)} (h : l[e]? = some 45) (hx : idsR true l (e + 1) = .ok (pre, p)) : tailR l e = buildR l p pre := by
  unfold tailR; rw [if_pos h, hx]
theorem tail_none {l : List UInt8} {e : Nat} (h : ¬ l[e]? = some 45) : tailR l e = buildR l e [] := by
  unfold tailR; rw [if_neg h]
theorem build_bad {l : List UInt8} {p : Nat} {pre : List (Nat × Nat)} (h : l[p]? = some 43) {x : Int × Nat} (hx : idsR false l (p + 1) = .error x) : buildR l p pre = .error x := by
  unfold buildR; rw [if_pos h, hx]
theorem build_ok {l : List UInt8} {p q : Nat} {pre b : List (Nat × Nat)} (h : l[p]? = some 43) (hx : idsR false l (p + 1) = .ok (b, q)) : buildR l p pre = if q < l.length then .error (10, q) else .ok (pre, b) := by
  unfold buildR; rw [if_pos h, hx]
theorem build_none {l : List UInt8} {p : Nat} {pre : List (Nat × Nat)} (h : ¬ l[p]? = some 43) : buildR l p pre = if p < l.length then .error (10, p) else .ok (pre, []) := by
  unfold buildR; rw [if_neg h]

theorem row_ge {W : World} {n₀ k : Nat} {e : TypeId} {size : Nat} {v : Value} {xs : List Value} (h : W.ownsRow n₀ e size v k xs) (j : Nat) (hj : some j = v.ownBlock) : n₀ ≤ j := by
  rcases h.2 with ⟨rfl, _⟩ | ⟨g, cap, cur, rfl, hb, _, _⟩
  · simp [Value.ownBlock] at hj
  · obtain rfl : j = g := by simpa [Value.ownBlock] using hj
    exact hb
theorem lies_grown {W1 w1 : World} {tmp : Obj} {n₀ k : Nat} {v : Value} {xs : List Value} {qs : List (Nat × Obj)} (hL : Lies W1 qs) (hq : ∀ q ∈ qs, q.1 < n₀) (hrow : W1.ownsRow n₀ 9 1 v k xs) (hg : (W1.alloc tmp).grownBy w1 v.ownBlock) : Lies w1 qs :=
  (hL.alloc tmp).kept hg (fun q hq' e => by have := row_ge hrow q.1 e; have := hq q hq'; omega)

theorem mid_world {s : ByteArray} {w Wi : World} {n₀ V : Nat} {ps : List (Nat × Obj)} {cs : Value → Array Value} {v : Value} {z0 e0 : Int} (z1 e1 : Int) {k : Nat} {xs : List Value} (Ba Bs : Nat)
    (hV : V + 3 ≤ n₀) (hw : w.heap.size ≤ V) (hps : ∀ q ∈ ps, q.1 ≠ V + 1 ∧ q.1 ≠ V + 1 + 1) (hBa : Ba ≠ V + 1 ∧ Ba ≠ V + 1 + 1) (hBs : Bs ≠ V + 1 ∧ Bs ≠ V + 1 + 1)
    (hL : Lies Wi ((V, .cells (cs v) 33 (0, 0)) :: (V + 1, .cells #[.int .i64 z0] 3 (0, 0)) :: (V + 1 + 1, .cells #[.int .i64 e0] 23 (0, 0)) :: ps))
    (hrow : Wi.ownsRow n₀ 9 1 v k xs) (hB : Below w.heap.size w Wi) :
    ∃ W1, W1 = (Wi.setCell ⟨V + 1, 0, none⟩ (.int .i64 z1)).setCell ⟨V + 1 + 1, 0, none⟩ (.int .i64 e1) ∧
      Lies W1 ((V, .cells (cs v) 33 (0, 0)) :: (V + 1, .cells #[.int .i64 z1] 3 (0, 0)) :: (V + 1 + 1, .cells #[.int .i64 e1] 23 (0, 0)) :: ps) ∧ W1.ownsRow n₀ 9 1 v k xs ∧ Below w.heap.size w W1 ∧ KeepsOthers Wi W1 ∧ Two Ba Bs Wi W1 ∧ W1.heap.size = Wi.heap.size := by
  have k1 : ∀ (X : World) (o : Nat) (u : Value) (j : Nat), j ≠ V + 1 → (X.setCell ⟨V + 1, o, none⟩ u).heap[j]? = X.heap[j]? := fun X o u j hj => Below.heap_setCell _ _ _ j hj
  have k2 : ∀ (X : World) (o : Nat) (u : Value) (j : Nat), j ≠ V + 1 + 1 → (X.setCell ⟨V + 1 + 1, o, none⟩ u).heap[j]? = X.heap[j]? := fun X o u j hj => Below.heap_setCell _ _ _ j hj
  refine ⟨_, rfl, ?_, ?_, ?_, ?_, ?_, ?_⟩
  · refine Lies.cons ?_ (Lies.cons ?_ (Lies.cons ?_ ?_))
    · rw [k2 _ _ _ _ (by omega), k1 _ _ _ _ (by omega)]; exact hL.head
    · rw [k2 _ _ _ _ (by omega)]; exact set_lies 0 _ hL.tail.head
    · exact set_lies (cs := #[.int .i64 e0]) 0 (.int .i64 e1) (by rw [k1 _ _ _ _ (by omega)]; exact hL.tail.tail.head)
    · intro q hq
      rw [k2 _ _ _ _ (hps q hq).2, k1 _ _ _ _ (hps q hq).1]
      exact hL.tail.tail.tail q hq
  · have h1 := hrow.kept (grownBy_set Wi (V + 1) 0 (.int .i64 z1)) (.inr fun e => by have := row_ge hrow (V + 1) e.symm; omega)
    exact h1.kept (grownBy_set _ (V + 1 + 1) 0 (.int .i64 e1)) (.inr fun e => by have := row_ge hrow (V + 1 + 1) e.symm; omega)
  · exact (hB.setCell (p := ⟨V + 1, 0, none⟩) (by show _ ≤ V + 1; omega) _).setCell (p := ⟨V + 1 + 1, 0, none⟩) (by show _ ≤ V + 1 + 1; omega) _
  · exact (KeepsOthers.setCell _ _ _).trans (KeepsOthers.setCell _ _ _)
  · exact ⟨by rw [k2 _ _ _ _ hBa.2, k1 _ _ _ _ hBa.1], by rw [k2 _ _ _ _ hBs.2, k1 _ _ _ _ hBs.1]⟩
  · show (Array.modify _ _ _).size = _
    rw [Array.size_modify]
    show (Array.modify _ _ _).size = _
    rw [Array.size_modify]

theorem fin_step {s : ByteArray} {w Wi W1 w1 : World} {n₀ V off z : Nat} {ps : List (Nat × Obj)} {cs : Value → Array Value} {p : Bool} {Ba Bs : Nat} {pre : List (Nat × Nat)} {x : Nat × Nat} {v : Value} {tmp : Obj} {g' cap' : Nat}
    (hV : V + 3 ≤ n₀) (hps : ∀ q ∈ ps, q.1 < n₀ ∧ q.1 ≠ V) (hw : w.heap.size ≤ V) (hBa : Ba < n₀ ∧ Ba ≠ V) (hBs : Bs < n₀ ∧ Bs ≠ V) (hcs : ∀ u, (cs v).setIfInBounds off u = cs u) (hn1 : n₀ ≤ W1.heap.size)
    (hL : Lies W1 ((V, .cells (cs v) 33 (0, 0)) :: (V + 1, .cells #[.int .i64 (x.2 : Int)] 3 (0, 0)) :: (V + 1 + 1, .cells #[.int .i64 0] 23 (0, 0)) :: ps))
    (hrow : W1.ownsRow n₀ 9 1 v pre.length (strs s pre)) (hB : Below w.heap.size w W1) (hk : KeepsOthers Wi W1) (h2 : Two Ba Bs Wi W1)
    (hbad : badOf p s.data.toList pre = none) (hx : wrongL p s.data.toList (seg s.data.toList x.1 x.2) x.2 = 0)
    (hown' : w1.ownsRow n₀ 9 1 (.slice (some ⟨g', 0, none⟩) (pre.length + 1) cap') (pre.length + 1) (strs s pre ++ [.string (s.extract x.1 x.2)]))
    (hgrow : (W1.alloc tmp).grownBy w1 v.ownBlock) (B : Nat) :
    KeepsFrom B Wi (w1.setCell ⟨V, off, none⟩ (.slice (some ⟨g', 0, none⟩) (pre.length + 1) cap')) ∧ Two Ba Bs Wi (w1.setCell ⟨V, off, none⟩ (.slice (some ⟨g', 0, none⟩) (pre.length + 1) cap')) ∧
      PI s w n₀ V ps cs p z (pre ++ [x]) (w1.setCell ⟨V, off, none⟩ (.slice (some ⟨g', 0, none⟩) (pre.length + 1) cap')) := by
  have hq : ∀ q ∈ ((V, Obj.cells (cs v) 33 (0, 0)) :: (V + 1, .cells #[.int .i64 (x.2 : Int)] 3 (0, 0)) :: (V + 1 + 1, .cells #[.int .i64 0] 23 (0, 0)) :: ps), q.1 < n₀ := by
    intro q hq
    simp only [List.mem_cons] at hq
    rcases hq with rfl | rfl | rfl | hq
    · show V < n₀; omega
    · show V + 1 < n₀; omega
    · show V + 1 + 1 < n₀; omega
    · exact (hps q hq).1
  have hL1 := lies_grown hL hq hrow hgrow
  have hg2 := grownBy_set w1 V off (.slice (some ⟨g', 0, none⟩) (pre.length + 1) cap')
  have hblk : ∀ j, j < n₀ → j ≠ V → (w1.setCell ⟨V, off, none⟩ (.slice (some ⟨g', 0, none⟩) (pre.length + 1) cap')).heap[j]? = W1.heap[j]? := fun j hj hjV => by
    rw [show (w1.setCell ⟨V, off, none⟩ (.slice (some ⟨g', 0, none⟩) (pre.length + 1) cap')).heap[j]? = w1.heap[j]? from Below.heap_setCell _ _ _ j hjV]
    rw [hgrow.block j (by simp; omega) (fun e => by have := row_ge hrow j e; omega)]
    exact Below.heap_alloc _ _ _ (by omega)
  have hkg : KeepsOthers (W1.alloc tmp) w1 := KeepsOthers.of_grownBy hgrow fun j o ej hj => by
    rcases (hrow.alloc tmp).2 with ⟨rfl, _⟩ | ⟨g, cap, cur, rfl, _, hgb, _⟩
    · simp [Value.ownBlock] at ej
    · obtain rfl : g = j := by simpa [Value.ownBlock] using ej
      rw [hgb] at hj; cases hj; rfl
  refine ⟨(hk.trans (((KeepsOthers.alloc W1 tmp).trans hkg).trans (KeepsOthers.setCell _ _ _))).from B, ⟨(hblk Ba hBa.1 hBa.2).trans h2.1, (hblk Bs hBs.1 hBs.2).trans h2.2⟩, ⟨.slice (some ⟨g', 0, none⟩) (pre.length + 1) cap', ?_, ?_, ?_⟩, ?_⟩
  · rw [lastE_snoc]
    refine Lies.cons ?_ (Lies.cons ?_ (Lies.cons ?_ ?_))
    · rw [← hcs]; exact set_lies off _ hL1.head
    · rw [hblk _ (by omega) (by omega)]; exact hL.tail.head
    · rw [hblk _ (by omega) (by omega)]; exact hL.tail.tail.head
    · intro q hq'
      rw [hblk _ (hps q hq').1 (hps q hq').2]; exact hL.tail.tail.tail q hq'
  · rw [strs_snoc, List.length_append]
    exact hown'.kept hg2 (.inr fun e => by have := row_ge hown' V e.symm; omega)
  · have h1 := hB.alloc hB.size tmp
    have h2 := h1.grown hgrow (by simp; have := hB.size; omega) (fun j ej => by have := row_ge hrow j ej.symm; omega)
    exact h2.setCell (p := ⟨V, off, none⟩) hw _
  · rw [badOf_app p _ pre _ hbad]
    simp [badOf, hx]

theorem row_slice {W : World} {base : Nat} {e : TypeId} {size : Nat} {v : Value} {k : Nat} {xs : List Value} (h : W.ownsRow base e size v k xs) : ∃ ao cap, v = .slice ao k cap := by
  rcases h.2 with ⟨rfl, rfl⟩ | ⟨g, cap, _, rfl, _⟩
  · exact ⟨none, 0, rfl⟩
  · exact ⟨_, cap, rfl⟩
def noDefer : Op → Bool
  | .defer _ => false
  | _ => true
theorem noDefer_of {ops : Array Oper} (h : ops.all (fun o => noDefer o.op) = true) : ∀ (i : Nat) (o : Oper), ops[i]? = some o → ∀ c, o.op ≠ .defer c := by
  intro i o ho c hc
  obtain ⟨hi, he⟩ := Array.getElem?_eq_some_iff.1 ho
  have := Array.all_eq_true.1 h i hi
  rw [he, hc] at this
  cases this

theorem form_world {w W : World} {V : Nat} {o1 o2 oV : Obj} {z : Int} {ps : List (Nat × Obj)} (hw : w.heap.size ≤ V) (hV : V + 3 ≤ W.heap.size) (hps : ∀ q ∈ ps, q.1 ≠ V + 1 + 1)
    (hL : Lies W ((V, oV) :: (V + 1, .cells #[.int .i64 z] 3 (0, 0)) :: (V + 1 + 1, .cells #[.int .i64 0] 23 (0, 0)) :: ps)) (hB : Below w.heap.size w W) :
    ∃ W', W' = ((W.setCell ⟨V + 1 + 1, 0, none⟩ (.int .i64 10)).alloc o1).alloc o2 ∧
      Lies W' ((V, oV) :: (V + 1, .cells #[.int .i64 z] 3 (0, 0)) :: (V + 1 + 1, .cells #[.int .i64 10] 23 (0, 0)) :: ps) ∧ Below w.heap.size w W' := by
  have k2 : ∀ (X : World) (o : Nat) (u : Value) (j : Nat), j ≠ V + 1 + 1 → (X.setCell ⟨V + 1 + 1, o, none⟩ u).heap[j]? = X.heap[j]? := fun X o u j hj => Below.heap_setCell _ _ _ j hj
  refine ⟨_, rfl, ?_, ?_⟩
  · refine Lies.alloc (Lies.alloc ?_ _) _
    refine Lies.cons ?_ (Lies.cons ?_ (Lies.cons ?_ ?_))
    · rw [k2 _ _ _ _ (by omega)]; exact hL.head
    · rw [k2 _ _ _ _ (by omega)]; exact hL.tail.head
    · exact set_lies (cs := #[.int .i64 0]) 0 (.int .i64 10) hL.tail.tail.head
    · intro q hq
      rw [k2 _ _ _ _ (hps q hq)]; exact hL.tail.tail.tail q hq
  · have h1 := hB.setCell (p := ⟨V + 1 + 1, 0, none⟩) (by show _ ≤ V + 1 + 1; omega) (.int .i64 10)
    have h2 := h1.alloc h1.size o1
    exact h2.alloc h2.size o2
theorem row_some {W : World} {base : Nat} {v : Value} {k : Nat} {xs : List Value} (h : W.ownsRow base 9 1 v k xs) (hk : 0 < k) : ∃ g cap, v = .slice (some ⟨g, 0, none⟩) k cap := by
  rcases h.2 with ⟨_, h0⟩ | ⟨g, cap, _, rfl, _⟩
  · omega
  · exact ⟨g, cap, rfl⟩
theorem not_dash (s : ByteArray) (p : Nat) (h : p < s.size) (h0 : idL (s.data.toList.drop p) = 0) : s[p] ≠ 45 := by
  intro e
  have := idL_hit s p h (isId_dash _ e)
  omega

end Go.Proofs.YtpdlgiioahjhiaaGreat

namespace Go.Proofs.YtpdlgiioahjhiaaGreat
open Go.RowKit Go.Shelf
set_option linter.unusedVariables false

def semN : SemL := ⟨[], [], [], [], []⟩
def rais (x : SemL) (p : Int) : SemL :=
  if p = 0 then ⟨nextL x.maj, [48], [48], [], []⟩ else if p = 1 then ⟨x.maj, nextL x.min, [48], [], []⟩ else ⟨x.maj, x.min, nextL x.pat, [], []⟩
def nextW (x : SemL) (p : Int) : SemL :=
  if fitW x then (if p = 0 ∨ p = 1 ∨ p = 2 then (if fitW (rais x p) then rais x p else semN) else semN) else semN

theorem txt_nil (W : World) : Txt W (.slice none 0 0) [] := ⟨none, 0, rfl, .inl rfl⟩
theorem next_ofL (a : List UInt8) (w : World) (ha : a.length ≤ 9223372036854775805) :
    Calls Tryz.prog 159 #[.string (ofL a)] w fun e w' => e = .returned (.string (ofL (nextL a))) ∧ Below w.heap.size w w' := by
  have := Next_any (ofL a) w (by rw [ofL_size]; exact ha)
  rw [ofL_data] at this
  exact this

theorem five_world {W : World} {B : Nat} {x0 x1 x2 x3 x4 : Value} (a b c d e : Value) (h : W.heap[B]? = some (.cells #[x0, x1, x2, x3, x4] 33 (0, 0))) :
    ∃ W', W' = ((((W.setCell ⟨B, 0, none⟩ a).setCell ⟨B, 1, none⟩ b).setCell ⟨B, 2, none⟩ c).setCell ⟨B, 3, none⟩ d).setCell ⟨B, 4, none⟩ e ∧ W'.heap[B]? = some (.cells #[a, b, c, d, e] 33 (0, 0)) ∧ (∀ n₀, n₀ ≤ B → Below n₀ W W') :=
  ⟨_, rfl, five_set a b c d e h, fun n₀ h1 => (((((Below.refl n₀ W).setCell (p := ⟨B, 0, none⟩) h1 a).setCell (p := ⟨B, 1, none⟩) h1 b).setCell (p := ⟨B, 2, none⟩) h1 c).setCell (p := ⟨B, 3, none⟩) h1 d).setCell (p := ⟨B, 4, none⟩) h1 e⟩
theorem one_set {W : World} {B : Nat} {cs : Array Value} {t : TypeId} (o : Nat) (v : Value) (h : W.heap[B]? = some (.cells cs t (0, 0))) :
    ∃ W', W' = W.setCell ⟨B, o, none⟩ v ∧ W'.heap[B]? = some (.cells (cs.setIfInBounds o v) t (0, 0)) ∧ (∀ j, j ≠ B → W'.heap[j]? = W.heap[j]?) ∧ (∀ n₀, n₀ ≤ B → Below n₀ W W') ∧ W'.heap.size = W.heap.size :=
  ⟨_, rfl, set_lies o v h, fun j hj => Below.heap_setCell _ _ _ j hj, fun n₀ h1 => (Below.refl n₀ W).setCell (p := ⟨B, o, none⟩) h1 v, Array.size_modify⟩
theorem rais_short (x : SemL) (p : Int) (s1 : x.maj.length ≤ 140737488355328) (s2 : x.min.length ≤ 140737488355328) (s3 : x.pat.length ≤ 140737488355328) : ShortS (rais x p) := by
  have n1 := nextL_len x.maj
  have n2 := nextL_len x.min
  have n3 := nextL_len x.pat
  unfold rais
  split
  · exact ⟨by simp only; omega, by simp, by simp, ⟨by simp, by simp⟩, ⟨by simp, by simp⟩⟩
  · split
    · exact ⟨by simp only; omega, by simp only; omega, by simp, ⟨by simp, by simp⟩, ⟨by simp, by simp⟩⟩
    · exact ⟨by simp only; omega, by simp only; omega, by simp only; omega, ⟨by simp, by simp⟩, ⟨by simp, by simp⟩⟩

theorem fin19 {R : Ending → World → Prop} (tmps : Array Value) (W : World) (B : Nat) (x : SemL)
    (h2 : tmps.getD 4 undef = .pointer (some ⟨B, 0, none⟩)) (hp : x.pre = []) (hb : x.bld = []) (e1 : W.heap[B]? = some (.cells #[.string (ofL x.maj), .string (ofL x.min), .string (ofL x.pat), .slice none 0 0, .slice none 0 0] 33 (0, 0)))
    (hR : ∀ v, SemAt W v x → R (.returned v) W) :
    bodyPost Tryz.prog Tryz.f149 R .ret { tmps := tmps, defers := [] } W := by
  obtain ⟨r0, r1, r2, r3, r4⟩ := seen5 e1
  rw [Array.getD_eq_getD_getElem?] at h2
  refine ⟨rfl, _, ?_, hR _ ⟨.slice none 0 0, .slice none 0 0, rfl, by rw [hp]; exact txt_nil W, by rw [hb]; exact txt_nil W⟩⟩
  simp [results, Tryz.results149, go_sem, h2, r0, r1, r2, r3, r4]
  try rfl

set_option maxRecDepth 100000 in
set_option maxHeartbeats 1000000 in
theorem NextV_any (v : Value) (x : SemL) (p : Int) (w : World) (hv : SemAt w v x) (sx : ShortS x) (s1 : x.maj.length ≤ 140737488355328) (s2 : x.min.length ≤ 140737488355328) (s3 : x.pat.length ≤ 140737488355328) :
    Calls Tryz.prog 149 #[v, .int .i64 p] w fun e w' => Below w.heap.size w w' ∧ ∃ u, e = .returned u ∧ SemAt w' u (nextW x p) := by
  have F1 := hide (fun W (hW : Below w.heap.size w W) => Fit_any v x W (hv.below hW) sx)
  obtain ⟨p1, q1, rfl, t1, u1⟩ := hv
  obtain ⟨a1, c1, rfl, y1⟩ := t1
  obtain ⟨a2, c2, rfl, y2⟩ := u1
  clear y1 y2 sx
  have HX : Hid (nextW x p = if fitW x then (if p = 0 ∨ p = 1 ∨ p = 2 then (if fitW (rais x p) then rais x p else semN) else semN) else semN) := rfl
  generalize nextW x p = X at *
  have b0 : Below w.heap.size w ((w.alloc (.cells #[.string (ofL x.maj), .string (ofL x.min), .string (ofL x.pat), .slice a1 x.pre.length c1, .slice a2 x.bld.length c2] 33)).alloc (.cells #[.string ⟨#[]⟩, .string ⟨#[]⟩, .string ⟨#[]⟩, .slice none 0 0, .slice none 0 0] 33)) := ((Below.refl _ w).alloc (Nat.le_refl _) _).alloc (by simp) _
  have k1 := World.alloc_heap_new w (.cells #[.string (ofL x.maj), .string (ofL x.min), .string (ofL x.pat), .slice a1 x.pre.length c1, .slice a2 x.bld.length c2] 33)
  have k2 := World.alloc_heap_new (w.alloc (.cells #[.string (ofL x.maj), .string (ofL x.min), .string (ofL x.pat), .slice a1 x.pre.length c1, .slice a2 x.bld.length c2] 33)) (.cells #[.string ⟨#[]⟩, .string ⟨#[]⟩, .string ⟨#[]⟩, .slice none 0 0, .slice none 0 0] 33)
  simp only [World.size_alloc] at k2
  have k1' := (Below.heap_alloc (w.alloc (.cells #[.string (ofL x.maj), .string (ofL x.min), .string (ofL x.pat), .slice a1 x.pre.length c1, .slice a2 x.bld.length c2] 33)) (.cells #[.string ⟨#[]⟩, .string ⟨#[]⟩, .string ⟨#[]⟩, .slice none 0 0, .slice none 0 0] 33) w.heap.size (by simp)).trans k1
  clear k1
  have L0 := hide (Lies.cons k1' (Lies.cons k2 (Lies.nil _)))
  clear k1' k2
  cases hf : fitW x
  · rw [hf] at F1
    have HR : Hid (X = semN) := by show _ = _; rw [HX.out, hf, if_neg (by simp)]
    clear hf
    go_enter Tryz.func149, Tryz.ntmps149
    go_wp2_with fail
    refine (F1.out _ b0).mono ?_
    rintro e w1 ⟨rfl, b1⟩
    simp only [World.size_alloc] at b1
    have L1 := L0.out.below b1 (by intro q hq; simp only [List.mem_cons, List.not_mem_nil, or_false] at hq; rcases hq with rfl | rfl <;> simp only <;> omega)
    obtain ⟨r0, r1, r2, r3, r4⟩ := seen5 L1.tail.head
    have z0 := one_free 0 L1.tail.head
    have z1 := one_free 1 L1.tail.head
    have z2 := one_free 2 L1.tail.head
    have z3 := one_free 3 L1.tail.head
    have z4 := one_free 4 L1.tail.head
    have HE := hide L1.tail.head
    clear L1
    have B1 := b0.trans (b1.mono (by omega))
    go_wp2_with fail
    obtain ⟨W9, hW9, g9, hb9⟩ := five_world (W := w1) (.string ⟨#[]⟩) (.string ⟨#[]⟩) (.string ⟨#[]⟩) (.slice none 0 0) (.slice none 0 0) HE.out
    rw [← hW9]
    refine fin19 _ W9 (w.heap.size + 1) semN rfl rfl rfl g9 ?_
    exact fun v hv => ⟨B1.trans (hb9 _ (by omega)), v, rfl, by rw [HR.out]; exact hv⟩
  · rw [hf] at F1
    have hX : X = if p = 0 ∨ p = 1 ∨ p = 2 then (if fitW (rais x p) then rais x p else semN) else semN := by rw [HX.out, hf, if_pos rfl]
    have FR := hide (fun W v (h : SemAt W v (rais x p)) => Fit_any v (rais x p) W h (rais_short x p s1 s2 s3))
    clear hf HX
    go_enter Tryz.func149, Tryz.ntmps149
    go_wp2_with fail
    refine (F1.out _ b0).mono ?_
    rintro e w1 ⟨rfl, b1⟩
    simp only [World.size_alloc] at b1
    have B1 := b0.trans (b1.mono (by omega))
    have L1 := L0.out.below b1 (by intro q hq; simp only [List.mem_cons, List.not_mem_nil, or_false] at hq; rcases hq with rfl | rfl <;> simp only <;> omega)
    obtain ⟨m0, m1, m2, m3, m4⟩ := seen5 L1.head
    have hl0 := (Array.getElem?_eq_some_iff.1 L1.tail.head).1
    have hl1 : w.heap.size < w1.heap.size := by omega
    by_cases h0 : p = 0
    · subst h0
      have hra : rais x 0 = ⟨nextL x.maj, [48], [48], [], []⟩ := by unfold rais; simp
      rw [if_pos (by simp)] at hX
      have FR2 := hide (fun W => FR.out W (.agg #[.string (ofL (nextL x.maj)), .string ⟨#[48]⟩, .string ⟨#[48]⟩, .slice none 0 0, .slice none 0 0]) (by rw [hra]; exact ⟨_, _, rfl, txt_nil W, txt_nil W⟩))
      have HRA := hide hra
      clear FR hra
      go_wp2_with fail
      refine (next_ofL x.maj _ (by omega)).mono ?_
      rintro e w2 ⟨rfl, b2⟩
      simp only [World.size_alloc] at b2
      have hN := (b2.block w1.heap.size (by omega)).trans (World.alloc_heap_new w1 (.cells #[.string (ofL x.maj), .string ⟨#[48]⟩, .string ⟨#[48]⟩, .slice none 0 0, .slice none 0 0] 33))
      have hR1 := (b2.block (w.heap.size + 1) (by omega)).trans ((Below.heap_alloc _ _ _ (by omega)).trans L1.tail.head)
      obtain ⟨n0, n1, n2, n3, n4⟩ := seen5 hN
      have y0 := one_free 0 hN
      have y1 := one_free 1 hN
      have y2 := one_free 2 hN
      have y3 := one_free 3 hN
      have y4 := one_free 4 hN
      have B2 : Below w.heap.size w w2 := (B1.alloc (by omega) _).trans (b2.mono (by omega))
      have hl2 := (Array.getElem?_eq_some_iff.1 hN).1
      clear m0 m1 m2 m3 m4
      go_wp2_with fail
      obtain ⟨W5, hW5, hN5, hO5, hB5, hS5⟩ := one_set 0 (.string (ofL (nextL x.maj))) hN
      rw [← hW5]
      refine (FR2.out _).mono ?_
      rintro e w3 ⟨rfl, b3⟩
      have B3 := (B2.trans (hB5 _ (by omega))).trans (b3.mono (by rw [hS5]; omega))
      have hN3 := (b3.block w1.heap.size (by rw [hS5]; omega)).trans hN5
      have hR3 := (b3.block (w.heap.size + 1) (by rw [hS5]; omega)).trans ((hO5 _ (by omega)).trans hR1)
      have HE := hide hR3
      clear n0 n1 n2 n3 n4 y0 y1 y2 y3 y4
      obtain ⟨r0, r1, r2, r3, r4⟩ := seen5 hR3
      obtain ⟨n0, n1, n2, n3, n4⟩ := seen5 hN3
      have z0 := one_free 0 hR3
      have z1 := one_free 1 hR3
      have z2 := one_free 2 hR3
      have z3 := one_free 3 hR3
      have z4 := one_free 4 hR3
      generalize hF : fitW (rais x 0) = F at *
      cases F
      · have HR : Hid (X = semN) := hX.trans (if_neg (by simp))
        go_wp2_with fail
        obtain ⟨W9, hW9, g9, hb9⟩ := five_world (W := w3) (.string ⟨#[]⟩) (.string ⟨#[]⟩) (.string ⟨#[]⟩) (.slice none 0 0) (.slice none 0 0) HE.out
        rw [← hW9]
        refine fin19 _ W9 (w.heap.size + 1) semN rfl rfl rfl g9 ?_
        exact fun v hv => ⟨B3.trans (hb9 _ (by omega)), v, rfl, by rw [HR.out]; exact hv⟩
      · have HR : Hid (X = ⟨nextL x.maj, [48], [48], [], []⟩) := by show _ = _; rw [hX, if_pos rfl, HRA.out]
        go_wp2_with fail
        obtain ⟨W9, hW9, g9, hb9⟩ := five_world (W := w3) (.string (ofL (nextL x.maj))) (.string ⟨#[48]⟩) (.string ⟨#[48]⟩) (.slice none 0 0) (.slice none 0 0) HE.out
        rw [← hW9]
        refine fin19 _ W9 (w.heap.size + 1) ⟨nextL x.maj, [48], [48], [], []⟩ rfl rfl rfl g9 ?_
        exact fun v hv => ⟨B3.trans (hb9 _ (by omega)), v, rfl, by rw [HR.out]; exact hv⟩
    · by_cases h1 : p = 1
      · subst h1
        have hra : rais x 1 = ⟨x.maj, nextL x.min, [48], [], []⟩ := by unfold rais; simp
        rw [if_pos (by simp)] at hX
        have FR2 := hide (fun W => FR.out W (.agg #[.string (ofL x.maj), .string (ofL (nextL x.min)), .string ⟨#[48]⟩, .slice none 0 0, .slice none 0 0]) (by rw [hra]; exact ⟨_, _, rfl, txt_nil W, txt_nil W⟩))
        have HRA := hide hra
        clear FR hra
        go_wp2_with fail
        refine (next_ofL x.min _ (by omega)).mono ?_
        rintro e w2 ⟨rfl, b2⟩
        simp only [World.size_alloc] at b2
        have hN := (b2.block w1.heap.size (by omega)).trans (World.alloc_heap_new w1 (.cells #[.string (ofL x.maj), .string ⟨#[48]⟩, .string ⟨#[48]⟩, .slice none 0 0, .slice none 0 0] 33))
        have hR1 := (b2.block (w.heap.size + 1) (by omega)).trans ((Below.heap_alloc _ _ _ (by omega)).trans L1.tail.head)
        obtain ⟨n0, n1, n2, n3, n4⟩ := seen5 hN
        have y0 := one_free 0 hN
        have y1 := one_free 1 hN
        have y2 := one_free 2 hN
        have y3 := one_free 3 hN
        have y4 := one_free 4 hN
        have B2 : Below w.heap.size w w2 := (B1.alloc (by omega) _).trans (b2.mono (by omega))
        have hl2 := (Array.getElem?_eq_some_iff.1 hN).1
        clear m0 m1 m2 m3 m4
        go_wp2_with fail
        obtain ⟨W5, hW5, hN5, hO5, hB5, hS5⟩ := one_set 1 (.string (ofL (nextL x.min))) hN
        rw [← hW5]
        refine (FR2.out _).mono ?_
        rintro e w3 ⟨rfl, b3⟩
        have B3 := (B2.trans (hB5 _ (by omega))).trans (b3.mono (by rw [hS5]; omega))
        have hN3 := (b3.block w1.heap.size (by rw [hS5]; omega)).trans hN5
        have hR3 := (b3.block (w.heap.size + 1) (by rw [hS5]; omega)).trans ((hO5 _ (by omega)).trans hR1)
        have HE := hide hR3
        clear n0 n1 n2 n3 n4 y0 y1 y2 y3 y4
        obtain ⟨r0, r1, r2, r3, r4⟩ := seen5 hR3
        obtain ⟨n0, n1, n2, n3, n4⟩ := seen5 hN3
        have z0 := one_free 0 hR3
        have z1 := one_free 1 hR3
        have z2 := one_free 2 hR3
        have z3 := one_free 3 hR3
        have z4 := one_free 4 hR3
        generalize hF : fitW (rais x 1) = F at *
        cases F
        · have HR : Hid (X = semN) := hX.trans (if_neg (by simp))
          go_wp2_with fail
          obtain ⟨W9, hW9, g9, hb9⟩ := five_world (W := w3) (.string ⟨#[]⟩) (.string ⟨#[]⟩) (.string ⟨#[]⟩) (.slice none 0 0) (.slice none 0 0) HE.out
          rw [← hW9]
          refine fin19 _ W9 (w.heap.size + 1) semN rfl rfl rfl g9 ?_
          exact fun v hv => ⟨B3.trans (hb9 _ (by omega)), v, rfl, by rw [HR.out]; exact hv⟩
        · have HR : Hid (X = ⟨x.maj, nextL x.min, [48], [], []⟩) := by show _ = _; rw [hX, if_pos rfl, HRA.out]
          go_wp2_with fail
          obtain ⟨W9, hW9, g9, hb9⟩ := five_world (W := w3) (.string (ofL x.maj)) (.string (ofL (nextL x.min))) (.string ⟨#[48]⟩) (.slice none 0 0) (.slice none 0 0) HE.out
          rw [← hW9]
          refine fin19 _ W9 (w.heap.size + 1) ⟨x.maj, nextL x.min, [48], [], []⟩ rfl rfl rfl g9 ?_
          exact fun v hv => ⟨B3.trans (hb9 _ (by omega)), v, rfl, by rw [HR.out]; exact hv⟩
      · by_cases h2 : p = 2
        · subst h2
          have hra : rais x 2 = ⟨x.maj, x.min, nextL x.pat, [], []⟩ := by unfold rais; simp
          rw [if_pos (by simp)] at hX
          have FR2 := hide (fun W => FR.out W (.agg #[.string (ofL x.maj), .string (ofL x.min), .string (ofL (nextL x.pat)), .slice none 0 0, .slice none 0 0]) (by rw [hra]; exact ⟨_, _, rfl, txt_nil W, txt_nil W⟩))
          have HRA := hide hra
          clear FR hra
          go_wp2_with fail
          go_region_with (go_at_call 159; refine (next_ofL x.pat _ (by omega)).mono ?_; rintro e w2 ⟨rfl, b2⟩; have b2' : Below (w1.heap.size + 1) (w1.alloc (.cells #[.string (ofL x.maj), .string ⟨#[48]⟩, .string ⟨#[48]⟩, .slice none 0 0, .slice none 0 0] 33)) w2 := ((Below.refl (w1.heap.size + 1) (w1.alloc (.cells #[.string (ofL x.maj), .string ⟨#[48]⟩, .string ⟨#[48]⟩, .slice none 0 0, .slice none 0 0] 33))).drew).trans (b2.mono (Nat.le_of_eq (World.size_alloc w1 _).symm)); have hN := (b2'.block w1.heap.size (by omega)).trans (World.alloc_heap_new w1 (.cells #[.string (ofL x.maj), .string ⟨#[48]⟩, .string ⟨#[48]⟩, .slice none 0 0, .slice none 0 0] 33)); obtain ⟨n0, n1, n2, n3, n4⟩ := seen5 hN; have y1 := one_free 1 hN; have y2 := one_free 2 hN; obtain ⟨m0, m1, m2, m3, m4⟩ := seen5 ((b2'.block w.heap.size (by omega)).trans ((Below.heap_alloc _ _ _ (by omega)).trans L1.head)))
          all_goals
            have hR1 := (b2'.block (w.heap.size + 1) (by omega)).trans ((Below.heap_alloc _ _ _ (by omega)).trans L1.tail.head)
            have B2 : Below w.heap.size w w2 := (B1.alloc (by omega) _).trans (b2'.mono (by omega))
            have hl2 := (Array.getElem?_eq_some_iff.1 hN).1
            go_wp2_with fail
            obtain ⟨W4, hW4, hN4, hO4, hB4, hS4⟩ := one_set 1 (.string (ofL x.min)) hN
            rw [← hW4]
            obtain ⟨W5, hW5, hN5, hO5, hB5, hS5⟩ := one_set 2 (.string (ofL (nextL x.pat))) hN4
            rw [← hW5]
            refine (FR2.out _).mono ?_
            rintro e w3 ⟨rfl, b3⟩
            have B3 := ((B2.trans (hB4 _ (by omega))).trans (hB5 _ (by omega))).trans (b3.mono (by rw [hS5, hS4]; omega))
            have hN3 := (b3.block w1.heap.size (by rw [hS5, hS4]; omega)).trans hN5
            have hR3 := (b3.block (w.heap.size + 1) (by rw [hS5, hS4]; omega)).trans ((hO5 _ (by omega)).trans ((hO4 _ (by omega)).trans hR1))
            have HE := hide hR3
            clear n0 n1 n2 n3 n4 y1 y2 m0 m1 m2 m3 m4
            obtain ⟨r0, r1, r2, r3, r4⟩ := seen5 hR3
            obtain ⟨n0, n1, n2, n3, n4⟩ := seen5 hN3
            have z0 := one_free 0 hR3
            have z1 := one_free 1 hR3
            have z2 := one_free 2 hR3
            have z3 := one_free 3 hR3
            have z4 := one_free 4 hR3
            generalize hF : fitW (rais x 2) = F at *
            cases F
            · have HR : Hid (X = semN) := hX.trans (if_neg (by simp))
              go_wp2_with fail
              obtain ⟨W9, hW9, g9, hb9⟩ := five_world (W := w3) (.string ⟨#[]⟩) (.string ⟨#[]⟩) (.string ⟨#[]⟩) (.slice none 0 0) (.slice none 0 0) HE.out
              rw [← hW9]
              refine fin19 _ W9 (w.heap.size + 1) semN rfl rfl rfl g9 ?_
              exact fun v hv => ⟨B3.trans (hb9 _ (by omega)), v, rfl, by rw [HR.out]; exact hv⟩
            · have HR : Hid (X = ⟨x.maj, x.min, nextL x.pat, [], []⟩) := by show _ = _; rw [hX, if_pos rfl, HRA.out]
              go_wp2_with fail
              obtain ⟨W9, hW9, g9, hb9⟩ := five_world (W := w3) (.string (ofL x.maj)) (.string (ofL x.min)) (.string (ofL (nextL x.pat))) (.slice none 0 0) (.slice none 0 0) HE.out
              rw [← hW9]
              refine fin19 _ W9 (w.heap.size + 1) ⟨x.maj, x.min, nextL x.pat, [], []⟩ rfl rfl rfl g9 ?_
              exact fun v hv => ⟨B3.trans (hb9 _ (by omega)), v, rfl, by rw [HR.out]; exact hv⟩
        · have HR : Hid (X = semN) := by show _ = _; rw [hX, if_neg (by omega)]
          have c0 : (p == 0) = false := by simpa using h0
          have c1 : (p == 1) = false := by simpa using h1
          have c2 : (p == 2) = false := by simpa using h2
          obtain ⟨r0, r1, r2, r3, r4⟩ := seen5 L1.tail.head
          have z0 := one_free 0 L1.tail.head
          have z1 := one_free 1 L1.tail.head
          have z2 := one_free 2 L1.tail.head
          have z3 := one_free 3 L1.tail.head
          have z4 := one_free 4 L1.tail.head
          have HE := hide L1.tail.head
          clear h0 h1 h2
          go_wp2_with fail
          obtain ⟨W9, hW9, g9, hb9⟩ := five_world (W := w1) (.string ⟨#[]⟩) (.string ⟨#[]⟩) (.string ⟨#[]⟩) (.slice none 0 0) (.slice none 0 0) HE.out
          rw [← hW9]
          have B9 := B1.trans (hb9 _ (by omega))
          refine fin19 _ _ (w.heap.size + 1) semN rfl rfl rfl ((Below.heap_alloc _ _ _ (Array.getElem?_eq_some_iff.1 g9).1).trans g9) ?_
          exact fun v hv => ⟨B9.alloc B9.size _, v, rfl, by rw [HR.out]; exact hv⟩

end Go.Proofs.YtpdlgiioahjhiaaGreat

namespace Go.Proofs.YtpdlgiioahjhiaaGreat
open Go.RowKit Go.Shelf
set_option linter.unusedVariables false

structure Turn (B : Nat) (w w' : World) : Prop where
  os : w'.os = w.os
  tape : w'.tape = w.tape
  output : w'.output = w.output
  size : w.heap.size ≤ w'.heap.size
  block : ∀ k, k < w.heap.size → k ≠ B → w'.heap[k]? = w.heap[k]?
theorem Turn.refl (B : Nat) (w : World) : Turn B w w := ⟨rfl, rfl, rfl, Nat.le_refl _, fun _ _ _ => rfl⟩
theorem Turn.trans {B : Nat} {a b c : World} (h : Turn B a b) (k : Turn B b c) : Turn B a c :=
  ⟨k.os.trans h.os, k.tape.trans h.tape, k.output.trans h.output, Nat.le_trans h.size k.size, fun i hi hn => (k.block i (Nat.lt_of_lt_of_le hi h.size) hn).trans (h.block i hi hn)⟩
theorem Turn.ofBelow {B : Nat} {w w' : World} (h : Below w.heap.size w w') : Turn B w w' := ⟨h.os, h.tape, h.output, h.size, fun k hk _ => h.block k hk⟩
theorem Turn.below {B n : Nat} {w w' : World} (h : Turn B w w') (hn : n ≤ B) (hs : n ≤ w.heap.size) : Below n w w' := ⟨h.os, h.tape, h.output, h.size, fun k hk => h.block k (Nat.lt_of_lt_of_le hk hs) (by omega)⟩
theorem Turn.set (B o : Nat) (w : World) (v : Value) : Turn B w (w.setCell ⟨B, o, none⟩ v) :=
  ⟨rfl, rfl, rfl, by rw [show (w.setCell ⟨B, o, none⟩ v).heap.size = w.heap.size from Array.size_modify]; exact Nat.le_refl _, fun k _ hn => Below.heap_setCell _ _ _ k hn⟩
theorem Turn.drewN (B : Nat) (w : World) : ∀ n, Turn B w (w.drewN n)
  | 0 => Turn.refl B w
  | n + 1 => by
    have h := Turn.drewN B w.drew n
    exact ⟨h.os, h.tape, h.output, h.size, h.block⟩
theorem heap_drewN (w : World) : ∀ n, (w.drewN n).heap = w.heap
  | 0 => rfl
  | n + 1 => heap_drewN w.drew n
theorem below_drewN (k : Nat) (w : World) (n : Nat) : Below k w (w.drewN n) := by
  have h := Turn.drewN 0 w n
  exact ⟨h.os, h.tape, h.output, h.size, fun j _ => by rw [heap_drewN]⟩

def rerr (e x : Int) : Int := if e = 0 then x else e
theorem rerr_0 (x : Int) : rerr 0 x = x := if_pos rfl
theorem rerr_n {e : Int} (x : Int) (h : e ≠ 0) : rerr e x = e := if_neg h

end Go.Proofs.YtpdlgiioahjhiaaGreat

namespace Go.Proofs.YtpdlgiioahjhiaaGreat
open Go.RowKit Go.Shelf
set_option linter.unusedVariables false

def atB (l : List UInt8) (a : Nat) (c : UInt8) : Bool := l[a]? == some c
theorem atB_in (s : ByteArray) (a : Nat) (c : UInt8) (h : a < s.size) : atB s.data.toList a c = decide ((s[a].toNat : Int) = (c.toNat : Int)) := by
  have hg : s.data.toList[a]? = some s[a] := by rw [List.getElem?_eq_getElem (by rw [len_data]; exact h)]; rfl
  unfold atB
  rw [hg, Bool.eq_iff_iff]
  simp only [beq_iff_eq, Option.some.injEq, decide_eq_true_eq]
  exact ⟨fun h => by rw [h], fun h => UInt8.toNat_inj.1 (by omega)⟩
theorem atB_out (s : ByteArray) (a : Nat) (c : UInt8) (h : ¬ a < s.size) : atB s.data.toList a c = false := by
  unfold atB
  rw [List.getElem?_eq_none (by rw [len_data]; omega)]
  rfl

end Go.Proofs.YtpdlgiioahjhiaaGreat

namespace Go.Proofs.YtpdlgiioahjhiaaGreat
open Go.RowKit
set_option linter.unusedVariables false

def hasP (s x : List UInt8) : Bool := s.take x.length == x

theorem hasP_short (s x : List UInt8) (h : s.length < x.length) : hasP s x = false := by
  unfold hasP
  rw [beq_eq_false_iff_ne]
  intro e
  have := congrArg List.length e
  simp at this
  omega

set_option maxHeartbeats 400000 in
theorem HasPrefixL_any (s x : ByteArray) (w : World) :
    Calls Tryz.prog 151 #[.string s, .string x] w fun e w' => e = .returned (.bool (hasP s.data.toList x.data.toList)) ∧ w' = w := by
  by_cases h : x.size ≤ s.size
  · have hge : decide ((x.size : Int) ≤ (s.size : Int)) = true := by simp; omega
    have HE : Hid (((s.extract 0 x.size).toList == x.toList) = hasP s.data.toList x.data.toList) := by
      show _ = _
      rw [toL, toL, extract_ofL, ofL_data, hasP, len_data]; simp
    go_enter Tryz.func151, Tryz.ntmps151
    go_wp2
    go_ret
    exact ⟨ret_b HE.out, rfl⟩
  · have HE : Hid (hasP s.data.toList x.data.toList = false) := hasP_short _ _ (by rw [len_data, len_data]; omega)
    go_enter Tryz.func151, Tryz.ntmps151
    go_wp2
    go_ret
    exact ⟨ret_b HE.out.symm, rfl⟩

set_option maxHeartbeats 400000 in
theorem HasPrefix_any (s x : ByteArray) (w : World) :
    Calls Tryz.prog 124 #[.string s, .string x] w fun e w' => e = .returned (.bool (hasP s.data.toList x.data.toList)) ∧ w' = w := by
  go_enter Tryz.func124, Tryz.ntmps124
  go_wp2_with (go_at_call 151; refine (HasPrefixL_any _ _ _).mono ?_; rintro e w' ⟨rfl, rfl⟩)
  go_ret
  exact ⟨rfl, rfl⟩

def Words (W : World) (a : Option Addr) (ws : List ByteArray) : Prop :=
  ws = [] ∨ ∃ b off, a = some ⟨b, off, none⟩ ∧ ∀ i, i < ws.length → W.cell? ⟨b, off + i, none⟩ = some (.string (ws.getD i ByteArray.empty))

def wstep (s : List UInt8) (acc : ByteArray × Bool) (x : ByteArray) : ByteArray × Bool :=
  if hasP s x.data.toList = true ∧ (acc.2 = false ∨ acc.1.size < x.size) then (x, true) else acc

def wordL (s : List UInt8) (ws : List ByteArray) : ByteArray × Bool := ws.foldl (wstep s) (ByteArray.empty, false)

theorem wordL_succ (s : List UInt8) (ws : List ByteArray) (k : Nat) (h : k < ws.length) : wordL s (ws.take (k + 1)) = wstep s (wordL s (ws.take k)) (ws.getD k ByteArray.empty) := by
  unfold wordL
  rw [List.take_succ_eq_append_getElem h, List.foldl_append]
  simp [List.getD, h]

theorem ret_w {a c : ByteArray} {b d : Bool} (h1 : a = c) (h2 : b = d) : Ending.returned (.tuple #[.string a, .bool b]) = .returned (.tuple #[.string c, .bool d]) := by rw [h1, h2]

set_option maxHeartbeats 1000000 in
theorem Word_in (s : ByteArray) (m : Nat) (hm : m ≤ s.size) (a0 : Option Addr) (ws : List ByteArray) (cap : Nat) (w : World) (hs : s.size ≤ maxLen) (hw : ws.length ≤ maxLen) (hv : Words w a0 ws) :
    Calls Tryz.prog 92 #[.string s, .int .i64 (m : Int), .slice a0 ws.length cap] w fun e w' => e = .returned (.tuple #[.string (wordL (s.data.toList.drop m) ws).1, .bool (wordL (s.data.toList.drop m) ws).2]) ∧ w' = w := by
  unfold maxLen at hs hw
  have hb : (decide (0 ≤ (m : Int)) && decide ((m : Int) ≤ (s.size : Int))) = true := by simp; omega
  have hD : (s.extract m s.size).data.toList = s.data.toList.drop m := by rw [extract_end, ofL_data]
  have HP : Hid (∀ x w, Calls Tryz.prog 124 #[.string (s.extract m s.size), .string x] w fun e w' => e = .returned (.bool (hasP (s.data.toList.drop m) x.data.toList)) ∧ w' = w) := fun x w => by
    have h := HasPrefix_any (s.extract m s.size) x w
    rw [hD] at h
    exact h
  clear hD
  generalize s.data.toList.drop m = t at *
  rcases hv with rfl | ⟨b, off, rfl, hc⟩
  · go_enter Tryz.func92, Tryz.ntmps92
    go_wp2_with (go_at_call 54; refine (inside_any _ _ _).mono ?_; rintro e w' ⟨rfl, rfl⟩)
    refine wp_loop_rounds 1 ?_
    rw [rounds_succ]
    go_wp2
    go_ret2
    exact ⟨rfl, rfl⟩
  · have HC := hide hc
    clear hc
    go_enter Tryz.func92, Tryz.ntmps92
    go_wp2_with (go_at_call 54; refine (inside_any _ _ _).mono ?_; rintro e w' ⟨rfl, rfl⟩)
    go_loop [8, 9, 18] (fun x y i => ∃ k : Nat, k ≤ ws.length ∧ i = .int .i64 k ∧ ∃ p q, x = .string p ∧ y = .bool q ∧ Hid (wordL t (ws.take k) = (p, q))) (fun _ _ i => ws.length - (intOf i).toNat)
    case atStart => exact ⟨0, by omega, rfl, _, _, rfl, rfl, rfl⟩
    case round =>
      obtain ⟨k, hk, rfl, p, q, rfl, rfl, HR⟩ := hrel
      by_cases hlt : k < ws.length
      · have hcell := HC.out k hlt
        have HX : Hid _ := wordL_succ t ws k hlt
        generalize ws.getD k ByteArray.empty = x at *
        by_cases hp : hasP t x.data.toList = true
        · cases q with
          | false =>
            go_wp2_with (go_at_call 124; refine (HP.out _ _).mono ?_; rintro e w' ⟨rfl, rfl⟩)
            go_round
            case rel => exact ⟨k + 1, by omega, by go_num, x, true, rfl, rfl, by rw [HX.out, HR.out]; simp [Hid, wstep, hp]⟩
            case measure => simp [intOf]; omega
          | true =>
            by_cases hsz : p.size < x.size
            · go_wp2_with (go_at_call 124; refine (HP.out _ _).mono ?_; rintro e w' ⟨rfl, rfl⟩)
              go_round
              case rel => exact ⟨k + 1, by omega, by go_num, x, true, rfl, rfl, by rw [HX.out, HR.out]; simp [Hid, wstep, hp, hsz]⟩
              case measure => simp [intOf]; omega
            · go_wp2_with (go_at_call 124; refine (HP.out _ _).mono ?_; rintro e w' ⟨rfl, rfl⟩)
              go_round
              case rel => exact ⟨k + 1, by omega, by go_num, p, true, rfl, rfl, by rw [HX.out, HR.out]; simp [Hid, wstep, hp]; omega⟩
              case measure => simp [intOf]; omega
        · have hp' : hasP t x.data.toList = false := by simpa using hp
          go_wp2_with (go_at_call 124; refine (HP.out _ _).mono ?_; rintro e w' ⟨rfl, rfl⟩)
          go_round
          case rel => exact ⟨k + 1, by omega, by go_num, p, q, rfl, rfl, by rw [HX.out, HR.out]; simp [Hid, wstep, hp']⟩
          case measure => simp [intOf]; omega
      · have HA : Hid (ws.take k = ws) := List.take_of_length_le (by omega)
        go_wp2_with fail
        go_ret2
        exact ⟨ret_w (by rw [← HA.out, HR.out]) (by rw [← HA.out, HR.out]), rfl⟩

end Go.Proofs.YtpdlgiioahjhiaaGreat

namespace Go.Proofs.YtpdlgiioahjhiaaGreat
open Go.RowKit
set_option linter.unusedVariables false

def wordI (l : List UInt8) (n : Int) (ws : List ByteArray) : ByteArray × Bool :=
  if 0 ≤ n ∧ n ≤ (l.length : Int) then wordL (l.drop n.toNat) ws else (ByteArray.empty, false)

set_option maxHeartbeats 400000 in
theorem Word_any (s : ByteArray) (n : Int) (a0 : Option Addr) (ws : List ByteArray) (cap : Nat) (w : World) (hs : s.size ≤ maxLen) (hw : ws.length ≤ maxLen) (hv : Words w a0 ws) :
    Calls Tryz.prog 92 #[.string s, .int .i64 n, .slice a0 ws.length cap] w fun e w' => e = .returned (.tuple #[.string (wordI s.data.toList n ws).1, .bool (wordI s.data.toList n ws).2]) ∧ w' = w := by
  by_cases hin : 0 ≤ n ∧ n ≤ (s.size : Int)
  · obtain ⟨m, rfl⟩ := Int.eq_ofNat_of_zero_le hin.1
    have e : wordI s.data.toList m ws = wordL (s.data.toList.drop m) ws := by
      unfold wordI; rw [if_pos (by rw [len_data]; exact hin)]; simp
    rw [e]
    exact Word_in s m (by omega) a0 ws cap w hs hw hv
  · have e : wordI s.data.toList n ws = (ByteArray.empty, false) := by
      unfold wordI; rw [if_neg (by rw [len_data]; exact hin)]
    rw [e]
    clear e hv
    have hb : (decide (0 ≤ n) && decide (n ≤ (s.size : Int))) = false := by simp; omega
    clear hin
    go_enter Tryz.func92, Tryz.ntmps92
    go_wp2_with (go_at_call 54; refine (inside_any _ _ _).mono ?_; rintro e w' ⟨rfl, rfl⟩)
    go_ret2
    exact ⟨rfl, rfl⟩

end Go.Proofs.YtpdlgiioahjhiaaGreat
