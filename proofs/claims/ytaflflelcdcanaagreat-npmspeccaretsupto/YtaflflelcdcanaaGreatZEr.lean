/-
  Walks: an operator and a partial. · Walks: the partial with which a from-to begins. · Comparators in memory; one of them, and a version's first one. · Walks: a version's first one; the next one behind a number. · Walks: the next one behind a partial's number. · Walks: two comparators, from a partial's beginning up to behind one of its numbers. · Walks: what the operators mean.
-/
import Derived.Test.YtaflflelcdcanaaGreatZEk
import Derived.Deep.RegionHeld3
import Derived.Test.YtaflflelcdcanaaGreatZFd
namespace Go.Proofs.YtaflflelcdcanaaGreat
open Go.RowKit
set_option linter.unusedVariables false

theorem put8 {W : World} {B : Nat} {t : TypeId} {u0 u1 u2 u3 u4 u5 u6 u7 : Value} (v0 v1 v2 v3 v4 v5 v6 v7 : Value) (h : W.heap[B]? = some (.cells #[u0, u1, u2, u3, u4, u5, u6, u7] t (0, 0))) :
    ((((((((W.setCell ⟨B, 0, none⟩ v0).setCell ⟨B, 1, none⟩ v1).setCell ⟨B, 2, none⟩ v2).setCell ⟨B, 3, none⟩ v3).setCell ⟨B, 4, none⟩ v4).setCell ⟨B, 5, none⟩ v5).setCell ⟨B, 6, none⟩ v6).setCell ⟨B, 7, none⟩ v7).heap[B]? = some (.cells #[v0, v1, v2, v3, v4, v5, v6, v7] t (0, 0)) :=
  by
  have h0 : (W.setCell ⟨B, 0, none⟩ v0).heap[B]? = some (.cells #[v0, u1, u2, u3, u4, u5, u6, u7] t (0, 0)) := set_lies 0 v0 h
  have h1 : (((W.setCell ⟨B, 0, none⟩ v0)).setCell ⟨B, 1, none⟩ v1).heap[B]? = some (.cells #[v0, v1, u2, u3, u4, u5, u6, u7] t (0, 0)) := set_lies 1 v1 h0
  have h2 : (((((W.setCell ⟨B, 0, none⟩ v0)).setCell ⟨B, 1, none⟩ v1)).setCell ⟨B, 2, none⟩ v2).heap[B]? = some (.cells #[v0, v1, v2, u3, u4, u5, u6, u7] t (0, 0)) := set_lies 2 v2 h1
  have h3 : (((((((W.setCell ⟨B, 0, none⟩ v0)).setCell ⟨B, 1, none⟩ v1)).setCell ⟨B, 2, none⟩ v2)).setCell ⟨B, 3, none⟩ v3).heap[B]? = some (.cells #[v0, v1, v2, v3, u4, u5, u6, u7] t (0, 0)) := set_lies 3 v3 h2
  have h4 : (((((((((W.setCell ⟨B, 0, none⟩ v0)).setCell ⟨B, 1, none⟩ v1)).setCell ⟨B, 2, none⟩ v2)).setCell ⟨B, 3, none⟩ v3)).setCell ⟨B, 4, none⟩ v4).heap[B]? = some (.cells #[v0, v1, v2, v3, v4, u5, u6, u7] t (0, 0)) := set_lies 4 v4 h3
  have h5 : (((((((((((W.setCell ⟨B, 0, none⟩ v0)).setCell ⟨B, 1, none⟩ v1)).setCell ⟨B, 2, none⟩ v2)).setCell ⟨B, 3, none⟩ v3)).setCell ⟨B, 4, none⟩ v4)).setCell ⟨B, 5, none⟩ v5).heap[B]? = some (.cells #[v0, v1, v2, v3, v4, v5, u6, u7] t (0, 0)) := set_lies 5 v5 h4
  have h6 : (((((((((((((W.setCell ⟨B, 0, none⟩ v0)).setCell ⟨B, 1, none⟩ v1)).setCell ⟨B, 2, none⟩ v2)).setCell ⟨B, 3, none⟩ v3)).setCell ⟨B, 4, none⟩ v4)).setCell ⟨B, 5, none⟩ v5)).setCell ⟨B, 6, none⟩ v6).heap[B]? = some (.cells #[v0, v1, v2, v3, v4, v5, v6, u7] t (0, 0)) := set_lies 6 v6 h5
  have h7 : (((((((((((((((W.setCell ⟨B, 0, none⟩ v0)).setCell ⟨B, 1, none⟩ v1)).setCell ⟨B, 2, none⟩ v2)).setCell ⟨B, 3, none⟩ v3)).setCell ⟨B, 4, none⟩ v4)).setCell ⟨B, 5, none⟩ v5)).setCell ⟨B, 6, none⟩ v6)).setCell ⟨B, 7, none⟩ v7).heap[B]? = some (.cells #[v0, v1, v2, v3, v4, v5, v6, v7] t (0, 0)) := set_lies 7 v7 h6
  exact h7
theorem below8 {w W : World} {B : Nat} (h : Below w.heap.size w W) (hB : w.heap.size ≤ B) (v0 v1 v2 v3 v4 v5 v6 v7 : Value) : Below w.heap.size w ((((((((W.setCell ⟨B, 0, none⟩ v0).setCell ⟨B, 1, none⟩ v1).setCell ⟨B, 2, none⟩ v2).setCell ⟨B, 3, none⟩ v3).setCell ⟨B, 4, none⟩ v4).setCell ⟨B, 5, none⟩ v5).setCell ⟨B, 6, none⟩ v6).setCell ⟨B, 7, none⟩ v7) :=
  (((((((h.setCell hB _).setCell hB _).setCell hB _).setCell hB _).setCell hB _).setCell hB _).setCell hB _).setCell hB _
theorem txt8 {W : World} {v : Value} {ts : List (List UInt8)} {n B : Nat} (h : Txt W v ts) (hf : Fresh n v) (hB : B < n) (v0 v1 v2 v3 v4 v5 v6 v7 : Value) : Txt ((((((((W.setCell ⟨B, 0, none⟩ v0).setCell ⟨B, 1, none⟩ v1).setCell ⟨B, 2, none⟩ v2).setCell ⟨B, 3, none⟩ v3).setCell ⟨B, 4, none⟩ v4).setCell ⟨B, 5, none⟩ v5).setCell ⟨B, 6, none⟩ v6).setCell ⟨B, 7, none⟩ v7) v ts :=
  txt_set (txt_set (txt_set (txt_set (txt_set (txt_set (txt_set (txt_set h hf hB _ _) hf hB _ _) hf hB _ _) hf hB _ _) hf hB _ _) hf hB _ _) hf hB _ _) hf hB _ _

/-- The worlds of readPart: the result, the operator, the partial. -/
structure QB (w W : World) (B1 B2 : Nat) (sg : ByteArray) (f : Nat) (x y z : ByteArray) (p : Value) (t : Int) : Prop where
  res : W.heap[w.heap.size]? = some (.cells #[.string ⟨#[]⟩, .string ⟨#[]⟩, .string ⟨#[]⟩, .slice none 0 0, .slice none 0 0, .int .i64 0, .nilFunc, .int .i64 0] 58 (0, 0))
  op : W.heap[B1]? = some (.cells #[.string sg, .func (.func f) #[] #[]] 148 (0, 0))
  par : W.heap[B2]? = some (.cells #[.string x, .string y, .string z, p, .slice none 0 0, .int .i64 t] 54 (0, 0))
  bel : Below w.heap.size w W
theorem QB.seenR {w W : World} {B1 B2 : Nat} {sg : ByteArray} {f : Nat} {x y z : ByteArray} {p : Value} {t : Int} (h : QB w W B1 B2 sg f x y z p t) : W.frozen? ⟨w.heap.size, 0, none⟩ = false ∧ W.frozen? ⟨w.heap.size, 1, none⟩ = false ∧ W.frozen? ⟨w.heap.size, 2, none⟩ = false ∧ W.frozen? ⟨w.heap.size, 3, none⟩ = false ∧ W.frozen? ⟨w.heap.size, 4, none⟩ = false ∧ W.frozen? ⟨w.heap.size, 5, none⟩ = false ∧ W.frozen? ⟨w.heap.size, 6, none⟩ = false ∧ W.frozen? ⟨w.heap.size, 7, none⟩ = false ∧ W.cell? ⟨w.heap.size, 0, none⟩ = some (.string ⟨#[]⟩) ∧ W.cell? ⟨w.heap.size, 1, none⟩ = some (.string ⟨#[]⟩) ∧ W.cell? ⟨w.heap.size, 2, none⟩ = some (.string ⟨#[]⟩) ∧ W.cell? ⟨w.heap.size, 3, none⟩ = some (.slice none 0 0) ∧ W.cell? ⟨w.heap.size, 4, none⟩ = some (.slice none 0 0) ∧ W.cell? ⟨w.heap.size, 5, none⟩ = some (.int .i64 0) ∧ W.cell? ⟨w.heap.size, 6, none⟩ = some (.nilFunc) ∧ W.cell? ⟨w.heap.size, 7, none⟩ = some (.int .i64 0) :=
  ⟨one_free 0 h.res, one_free 1 h.res, one_free 2 h.res, one_free 3 h.res, one_free 4 h.res, one_free 5 h.res, one_free 6 h.res, one_free 7 h.res, cell_at 0 h.res rfl, cell_at 1 h.res rfl, cell_at 2 h.res rfl, cell_at 3 h.res rfl, cell_at 4 h.res rfl, cell_at 5 h.res rfl, cell_at 6 h.res rfl, cell_at 7 h.res rfl⟩
theorem QB.seen {w W : World} {B1 B2 : Nat} {sg : ByteArray} {f : Nat} {x y z : ByteArray} {p : Value} {t : Int} (h : QB w W B1 B2 sg f x y z p t) :
    W.cell? ⟨B1, 0, none⟩ = some (.string sg) ∧ W.cell? ⟨B1, 1, none⟩ = some (.func (.func f) #[] #[]) ∧ W.cell? ⟨B2, 0, none⟩ = some (.string x) ∧ W.cell? ⟨B2, 1, none⟩ = some (.string y) ∧ W.cell? ⟨B2, 2, none⟩ = some (.string z) ∧ W.cell? ⟨B2, 3, none⟩ = some p ∧ W.cell? ⟨B2, 4, none⟩ = some (.slice none 0 0) ∧ W.cell? ⟨B2, 5, none⟩ = some (.int .i64 t) :=
  ⟨cell_at 0 h.op rfl, cell_at 1 h.op rfl, cell_at 0 h.par rfl, cell_at 1 h.par rfl, cell_at 2 h.par rfl, cell_at 3 h.par rfl, cell_at 4 h.par rfl, cell_at 5 h.par rfl⟩

/-- A part in a frame: a partial, what is asked of it, what is wrong. -/
def partF (p : PartL) (v : Value) (g : Value) (r : Int) : Value := .agg #[.string (ofL p.maj), .string (ofL p.min), .string (ofL p.pat), v, .slice none 0 0, .int .i64 (p.told : Int), g, .int .i64 r]
/-- What readPart leaves. -/
def PartQ (w : World) (f : Nat) (x : PartL × Int × Int) (e : Ending) (w' : World) : Prop :=
  Below w.heap.size w w' ∧ ∃ v, e = .returned (.tuple #[partF x.1 v (.func (.func f) #[] #[]) x.2.2, .int .i64 x.2.1]) ∧ Txt w' v x.1.pre ∧ Fresh w.heap.size v ∧ Cap v ∧ ∃ a n c, v = .slice a n c

theorem fin88 {R : Ending → World → Prop} (tmps : Array Value) (W : World) (B : Nat) (x y z : ByteArray) (p : Value) (t e r : Int) (f : Nat) (hp : ∃ a n c, p = .slice a n c)
    (h4 : tmps.getD 4 undef = .pointer (some ⟨B, 0, none⟩)) (h5 : tmps.getD 5 undef = .int .i64 e)
    (e1 : W.heap[B]? = some (.cells #[.string x, .string y, .string z, p, .slice none 0 0, .int .i64 t, .func (.func f) #[] #[], .int .i64 r] 58 (0, 0)))
    (hR : R (.returned (.tuple #[.agg #[.string x, .string y, .string z, p, .slice none 0 0, .int .i64 t, .func (.func f) #[] #[], .int .i64 r], .int .i64 e])) W) :
    bodyPost Tryz.prog Tryz.f90 R .ret { tmps := tmps, defers := [] } W := by
  obtain ⟨pa, pn, pc, rfl⟩ := hp
  have r0 := cell_at 0 e1 rfl
  have r1 := cell_at 1 e1 rfl
  have r2 := cell_at 2 e1 rfl
  have r3 := cell_at 3 e1 rfl
  have r4 := cell_at 4 e1 rfl
  have r5 := cell_at 5 e1 rfl
  have r6 := cell_at 6 e1 rfl
  have r7 := cell_at 7 e1 rfl
  rw [Array.getD_eq_getD_getElem?] at h4 h5
  refine ⟨rfl, _, ?_, hR⟩
  simp [results, Tryz.results90, go_sem, h4, h5, r0, r1, r2, r3, r4, r5, r6, r7]
  try rfl

theorem has_len {l p : List UInt8} (h : hasP l p = true) : p.length ≤ l.length := by
  unfold hasP at h
  have := congrArg List.length (LawfulBEq.eq_of_beq h)
  rw [List.length_take] at this
  omega
theorem op_has (l : List UInt8) : ∀ k, k ≤ 9 → (opGo l k).1.length ≤ l.length
  | 0, _ => Nat.zero_le _
  | k + 1, h => by
    rw [opGo_succ l k h]
    unfold opStep
    split
    · rename_i hh; exact has_len hh.1
    · exact op_has l k (by omega)
/-- Where the partial behind an operator begins. -/
def opE (l : List UInt8) (a : Nat) : Nat := blk l (a + (opL l a).1.length)
theorem op_in {l : List UInt8} {a : Nat} (h : a ≤ l.length) : a + (opL l a).1.length ≤ l.length := by
  have := op_has (l.drop a) 9 (by omega)
  rw [List.length_drop] at this
  show a + (opGo (l.drop a) 9).1.length ≤ _
  omega

set_option maxRecDepth 100000 in
set_option maxHeartbeats 4000000 in
theorem readPart_any (s : ByteArray) (a : Nat) (w : World) (hs : s.size ≤ 256) (ha : a ≤ s.size) :
    Calls Tryz.prog 90 #[.string s, .int .i64 (a : Int)] w (PartQ w (opL s.data.toList a).2 (rpL s.data.toList (opE s.data.toList a))) := by
  have CO := hide (fun W => operatorAt_any s a W hs ha)
  have ho := op_in (l := s.data.toList) (a := a) (by rw [len_data]; exact ha)
  rw [len_data] at ho
  have R6 := hide (Run6 s (a + (opL s.data.toList a).1.length) hs ho)
  have hE : opE s.data.toList a ≤ s.size := by
    have := blk_le (l := s.data.toList) (a := a + (opL s.data.toList a).1.length) (by rw [len_data]; exact ho)
    rw [len_data] at this
    exact this
  have RP := hide (fun W => readPartial_any s (opE s.data.toList a) W hs hE)
  change Hid (∀ (z : Int), _ → ∀ W, Calls Tryz.prog 28 #[.string s, .int .i64 z, .int .i64 6] W fun r w' => r = .returned (.int .i64 (opE s.data.toList a : Int)) ∧ w' = W) at R6
  generalize opE s.data.toList a = E at *
  generalize opL s.data.toList a = o at *
  obtain ⟨sg, f⟩ := o
  dsimp only at CO ho R6 ⊢
  have hsz : (ofL sg).size = sg.length := ofL_size sg
  have hr0 := hide (World.alloc_heap_new w (.cells #[.string ⟨#[]⟩, .string ⟨#[]⟩, .string ⟨#[]⟩, .slice none 0 0, .slice none 0 0, .int .i64 0, .nilFunc, .int .i64 0] 58))
  have br0 := hide ((Below.refl _ w).alloc (Nat.le_refl _) (.cells #[.string ⟨#[]⟩, .string ⟨#[]⟩, .string ⟨#[]⟩, .slice none 0 0, .slice none 0 0, .int .i64 0, .nilFunc, .int .i64 0] 58))
  go_enter Tryz.func90, Tryz.ntmps90
  go_wp2_with fail
  generalize w.alloc (.cells #[.string ⟨#[]⟩, .string ⟨#[]⟩, .string ⟨#[]⟩, .slice none 0 0, .slice none 0 0, .int .i64 0, .nilFunc, .int .i64 0] 58) = W0 at *
  refine (CO.out _).mono ?_
  rintro e w1 ⟨rfl, hb1⟩
  have h1 := hide ((hb1.block _ (Array.getElem?_eq_some_iff.1 hr0.out).1).trans hr0.out)
  have b1 := hide (br0.out.trans (hb1.mono br0.out.size))
  clear hb1 hr0 br0 CO
  have hq1 := hide ((Lies.cons h1.out (Lies.nil w1)).alloc (.cells #[.string (ofL sg), .func (.func f) #[] #[]] 148))
  have hq2 := hide (World.alloc_heap_new w1 (.cells #[.string (ofL sg), .func (.func f) #[] #[]] 148))
  have hq3 := hide (b1.out.alloc b1.out.size (.cells #[.string (ofL sg), .func (.func f) #[] #[]] 148))
  go_wp2_with fail
  generalize w1.alloc (.cells #[.string (ofL sg), .func (.func f) #[] #[]] 148) = V1 at *
  refine (R6.out _ (by simp) _).mono ?_
  rintro e w2 ⟨rfl, rfl⟩
  go_wp2_with fail
  refine (RP.out _).mono ?_
  rintro e w3 ⟨hb3, v, rfl, t1, fr, cp, av, nv, cv, rfl⟩
  have hl1 := hide (Array.getElem?_eq_some_iff.1 hq1.out.head).1
  have hl2 := hide (Array.getElem?_eq_some_iff.1 hq2.out).1
  have hz1 := hide ((hb3.block _ hl1.out).trans hq1.out.head)
  have hz2 := hide ((hb3.block _ hl2.out).trans hq2.out)
  have b3 := hide (hq3.out.trans (hb3.mono hq3.out.size))
  have T1 := hide t1
  have FR := hide fr
  have CP := hide cp
  clear t1 fr cp RP R6 hb3
  generalize rpL s.data.toList E = X at *
  have hl := (Lies.cons hz1.out (Lies.cons hz2.out (Lies.nil w3))).alloc (.cells #[.string (ofL X.1.maj), .string (ofL X.1.min), .string (ofL X.1.pat), .slice av nv cv, .slice none 0 0, .int .i64 (X.1.told : Int)] 54)
  have Q := hide (QB.mk (w := w) (W := w3.alloc (.cells #[.string (ofL X.1.maj), .string (ofL X.1.min), .string (ofL X.1.pat), .slice av nv cv, .slice none 0 0, .int .i64 (X.1.told : Int)] 54)) (B1 := w1.heap.size) (B2 := w3.heap.size) (sg := ofL sg) (f := f) hl.head hl.tail.head (World.alloc_heap_new w3 _) (b3.out.alloc b3.out.size _))
  have T2 := hide (T1.out.below ((Below.refl _ w3).alloc (Nat.le_refl _) (.cells #[.string (ofL X.1.maj), .string (ofL X.1.min), .string (ofL X.1.pat), .slice av nv cv, .slice none 0 0, .int .i64 (X.1.told : Int)] 54)))
  clear hl
  obtain ⟨f0, f1, f2, f3, f4, f5, f6, f7, c0, c1, c2, c3, c4, c5, c6, c7⟩ := Q.out.seenR
  obtain ⟨g0, g1, g2, g3, g4, g5, g6, g7⟩ := Q.out.seen
  unfold partW
  try dsimp only
  go_wp2_with fail
  exact fin88 _ _ w.heap.size _ _ _ _ _ _ _ _ ⟨_, _, _, rfl⟩ rfl rfl (put8 _ _ _ _ _ _ _ _ Q.out.res) ⟨below8 Q.out.bel (Nat.le_refl _) _ _ _ _ _ _ _ _, _, rfl, txt8 T2.out FR.out hl1.out _ _ _ _ _ _ _ _, fresh_mono FR.out (by have := hl1.out; omega), CP.out, _, _, _, rfl⟩

end Go.Proofs.YtaflflelcdcanaaGreat

namespace Go.Proofs.YtaflflelcdcanaaGreat
open Go.RowKit
set_option linter.unusedVariables false

theorem endP_zero {l : List UInt8} {a : Nat} {p : PartL} {z r : Int} (h : (endP l a p z r).2.2 = 0) : r = 0 ∧ (endP l a p z r).2.1 = z := by
  unfold endP at *
  split at h
  · cases h
  · rename_i h1
    rw [if_neg h1]
    split at h
    · cases h
    · rename_i h2
      rw [if_neg h2]
      exact ⟨h, rfl⟩
theorem vL_le {l : List UInt8} {a : Nat} (ha : a ≤ l.length) : vL l a ≤ l.length ∧ a ≤ vL l a := by
  unfold vL
  split
  · rename_i h
    have := (List.getElem?_eq_some_iff.1 h).1
    omega
  · omega
theorem np_ge {l : List UInt8} {a : Nat} : a ≤ (npL l a).1 := by
  unfold npL
  split
  · simp only; omega
  · split
    · exact Nat.le_refl _
    · split <;> (simp only; omega)
theorem rn_ge {l : List UInt8} : ∀ (k i a : Nat) (sg : List (Nat × Nat)) (x : List (Nat × Nat) × Nat), rnGo l k i a sg = .ok x → a ≤ x.2
  | 0, i, a, sg, x, h => by
    unfold rnGo at h
    split at h
    · cases h
    · cases h; exact np_ge
  | k + 1, i, a, sg, x, h => by
    unfold rnGo at h
    have := np_ge (l := l) (a := a)
    split at h
    · cases h
    · split at h
      · have := rn_ge (l := l) k _ _ _ x h; omega
      · cases h; exact np_ge
/-- A partial that is read ends within the text. -/
theorem rp_ok {l : List UInt8} {a : Nat} (ha : a ≤ l.length) (h : (rpL l a).2.2 = 0) : ∃ e : Nat, (rpL l a).2.1 = (e : Int) ∧ a ≤ e ∧ e ≤ l.length := by
  have hv := vL_le ha
  unfold rpL at *
  cases hg : rnGo l 2 0 (vL l a) [] with
  | error x =>
    rw [hg] at h
    dsimp only at h ⊢
    exact absurd (endP_zero h).1 (rn_ne 2 0 _ [] x hg)
  | ok x =>
    rw [hg] at h
    have hx := ((rn_le 2 0 _ [] hv.1 (Nat.zero_le _)).2 x hg).1
    have hy := rn_ge 2 0 _ [] x hg
    dsimp only at h ⊢
    by_cases h3 : x.1.length = 3
    · rw [if_pos h3] at h ⊢
      obtain ⟨h1, h2⟩ := endP_zero h
      rw [h2]
      obtain ⟨e, he, h4, h5⟩ := pre_ok hx h1
      exact ⟨e, he, by omega, h5⟩
    · rw [if_neg h3] at h ⊢
      obtain ⟨h1, h2⟩ := endP_zero h
      rw [h2]
      exact ⟨x.2, rfl, by omega, hx⟩
/-- A from-to begins with this partial. -/
def isFrom (l : List UInt8) (x : PartL × Int × Int) : Bool := decide (x.2.2 = 0) && decide (l[blk l x.2.1.toNat]? = some 45)
/-- What readFrom leaves. -/
def FromP (w : World) (x : PartL × Int × Int) (b : Bool) (e : Ending) (w' : World) : Prop :=
  Below w.heap.size w w' ∧ ∃ v, e = .returned (.tuple #[partW x.1 v, .int .i64 x.2.1, .bool b]) ∧ Txt w' v x.1.pre ∧ Fresh w.heap.size v ∧ Cap v ∧ ∃ a n c, v = .slice a n c

theorem drew_below (k : Nat) (W : World) : Below k W W.drew := below_drewN k W 1
theorem drew_heap {W : World} {B : Nat} {o : Option Obj} (h : W.heap[B]? = o) : W.drew.heap[B]? = o := h
theorem fin49 {R : Ending → World → Prop} (tmps : Array Value) (W : World) (B : Nat) (x y z : ByteArray) (p : Value) (t e : Int) (r : Bool) (hp : ∃ a n c, p = .slice a n c)
    (h4 : tmps.getD 4 undef = .pointer (some ⟨B, 0, none⟩)) (h5 : tmps.getD 5 undef = .int .i64 e) (h6 : tmps.getD 6 undef = .bool r)
    (e1 : W.heap[B]? = some (.cells #[.string x, .string y, .string z, p, .slice none 0 0, .int .i64 t] 54 (0, 0)))
    (hR : R (.returned (.tuple #[.agg #[.string x, .string y, .string z, p, .slice none 0 0, .int .i64 t], .int .i64 e, .bool r])) W) :
    bodyPost Tryz.prog Tryz.f51 R .ret { tmps := tmps, defers := [] } W := by
  obtain ⟨pa, pn, pc, rfl⟩ := hp
  have r0 := cell_at 0 e1 rfl
  have r1 := cell_at 1 e1 rfl
  have r2 := cell_at 2 e1 rfl
  have r3 := cell_at 3 e1 rfl
  have r4 := cell_at 4 e1 rfl
  have r5 := cell_at 5 e1 rfl
  rw [Array.getD_eq_getD_getElem?] at h4 h5 h6
  refine ⟨rfl, _, ?_, hR⟩
  simp [results, Tryz.results51, go_sem, h4, h5, h6, r0, r1, r2, r3, r4, r5]
  try rfl

set_option maxRecDepth 100000 in
set_option maxHeartbeats 4000000 in
theorem readFrom_any (s : ByteArray) (a : Nat) (w : World) (hs : s.size ≤ 256) (ha : a ≤ s.size) :
    Calls Tryz.prog 51 #[.string s, .int .i64 (a : Int)] w (FromP w (rpL s.data.toList a) (isFrom s.data.toList (rpL s.data.toList a))) := by
  have RP := hide (fun W => readPartial_any s a W hs ha)
  have RR := hide (fun (z : Int) W => Run_any s z 6 W (by unfold maxLen; omega))
  have hok := hide (fun h => rp_ok (l := s.data.toList) (a := a) (by rw [len_data]; exact ha) h)
  generalize rpL s.data.toList a = X at *
  have hr0 := hide (World.alloc_heap_new w (.cells #[.string ⟨#[]⟩, .string ⟨#[]⟩, .string ⟨#[]⟩, .slice none 0 0, .slice none 0 0, .int .i64 0] 54))
  have br0 := hide ((Below.refl _ w).alloc (Nat.le_refl _) (.cells #[.string ⟨#[]⟩, .string ⟨#[]⟩, .string ⟨#[]⟩, .slice none 0 0, .slice none 0 0, .int .i64 0] 54))
  go_enter Tryz.func51, Tryz.ntmps51
  go_wp2_with fail
  generalize w.alloc (.cells #[.string ⟨#[]⟩, .string ⟨#[]⟩, .string ⟨#[]⟩, .slice none 0 0, .slice none 0 0, .int .i64 0] 54) = W0 at *
  refine (RP.out _).mono ?_
  rintro e w2 ⟨hb2, v, rfl, t1, fr, cp, av, nv, cv, rfl⟩
  have HL := hide (Array.getElem?_eq_some_iff.1 hr0.out).1
  have FR := hide fr
  have CP := hide cp
  have P := hide (PB.start hr0.out br0.out hb2 (ofL X.1.maj) (ofL X.1.min) (ofL X.1.pat) (.slice av nv cv) (X.1.told : Int))
  have T2 := hide (t1.below ((Below.refl _ w2).alloc (Nat.le_refl _) (.cells #[.string (ofL X.1.maj), .string (ofL X.1.min), .string (ofL X.1.pat), .slice av nv cv, .slice none 0 0, .int .i64 (X.1.told : Int)] 54)))
  clear t1 fr cp hb2 RP hr0 br0
  unfold partW
  try dsimp only
  go_wp2_with fail
  generalize w2.alloc (.cells #[.string (ofL X.1.maj), .string (ofL X.1.min), .string (ofL X.1.pat), .slice av nv cv, .slice none 0 0, .int .i64 (X.1.told : Int)] 54) = V at *
  refine (RR.out _ _).mono ?_
  rintro e w3 ⟨rfl, rfl⟩
  obtain ⟨p, z, r⟩ := X
  dsimp only at hok P T2 ⊢
  obtain ⟨q0, q1, q2, q3, q4, q5, q6⟩ := P.out.seen
  obtain ⟨r1, f1, f2, f3, f4, f5, f6, r2, r3, r4, r5, r6⟩ := P.out.seenR
  have hne := P.out.big
  have hne2 : ¬ w.heap.size = w2.heap.size := by omega
  generalize hg : isFrom s.data.toList (p, z, r) = g at *
  have HG := hide hg
  clear hg
  by_cases hr : r = 0
  · obtain ⟨e, he, h1, h2⟩ := hok.out hr
    subst hr he
    rw [len_data] at h2
    rw [runI_in s e 6 h2]
    have hbk : ((e : Int) + (runL 6 (s.data.toList.drop e) : Int)) = ((blk s.data.toList e : Nat) : Int) := by unfold blk; simp
    rw [hbk]
    have hle := blk_le (l := s.data.toList) (a := e) (by rw [len_data]; exact h2)
    rw [len_data] at hle
    have hif : ∀ b, decide (s.data.toList[blk s.data.toList e]? = some 45) = b → g = b := by
      intro b h
      rw [← HG.out]
      unfold isFrom
      dsimp only
      rw [Int.toNat_natCast, h]
      rfl
    generalize blk s.data.toList e = d at *
    have HIF := hide hif
    have HBK := hide hbk
    clear hif hbk hok HG
    by_cases hlt : d < s.size
    · rw [at_some s d hlt] at HIF
      by_cases hc : s[d] = 45
      · have c1 : ((s[d].toNat : Int) == 45) = true := by rw [hc]; rfl
        have HB := HIF.out true (by rw [hc]; rfl)
        subst HB
        clear hc HIF
        go_wp2_with fail
        go_region_held3 (fun W' => W'.cell? ⟨w2.heap.size, 0, none⟩ = some (.string (ofL p.maj)) ∧ W'.cell? ⟨w2.heap.size, 1, none⟩ = some (.string (ofL p.min)) ∧ W'.cell? ⟨w2.heap.size, 2, none⟩ = some (.string (ofL p.pat)) ∧ W'.cell? ⟨w2.heap.size, 3, none⟩ = some (.slice av nv cv) ∧ W'.cell? ⟨w2.heap.size, 4, none⟩ = some (.slice none 0 0) ∧ W'.cell? ⟨w2.heap.size, 5, none⟩ = some (.int .i64 (p.told : Int))) (go_keep) (fail)
        all_goals (go_wp2_with fail; exact fin49 _ _ w.heap.size _ _ _ _ _ _ _ ⟨_, _, _, rfl⟩ rfl rfl rfl (drew_heap (put6 _ _ _ _ _ _ P.out.res)) ⟨(below6 P.out.bel _ _ _ _ _ _).trans (drew_below _ _), _, rfl, (txt6 T2.out FR.out HL.out _ _ _ _ _ _).below (drew_below _ _), fresh_mono FR.out (by have := HL.out; omega), CP.out, _, _, _, rfl⟩)
      · have c1 : ((s[d].toNat : Int) == 45) = false := ne_byte (k := 45) (by omega) hc
        have HB := HIF.out false (by simp [hc])
        subst HB
        clear hc HIF
        go_wp2_with fail
        go_region_held3 (fun W' => W'.cell? ⟨w2.heap.size, 0, none⟩ = some (.string (ofL p.maj)) ∧ W'.cell? ⟨w2.heap.size, 1, none⟩ = some (.string (ofL p.min)) ∧ W'.cell? ⟨w2.heap.size, 2, none⟩ = some (.string (ofL p.pat)) ∧ W'.cell? ⟨w2.heap.size, 3, none⟩ = some (.slice av nv cv) ∧ W'.cell? ⟨w2.heap.size, 4, none⟩ = some (.slice none 0 0) ∧ W'.cell? ⟨w2.heap.size, 5, none⟩ = some (.int .i64 (p.told : Int))) (go_keep) (fail)
        all_goals (go_wp2_with fail; exact fin49 _ _ w.heap.size _ _ _ _ _ _ _ ⟨_, _, _, rfl⟩ rfl rfl rfl (drew_heap (put6 _ _ _ _ _ _ P.out.res)) ⟨(below6 P.out.bel _ _ _ _ _ _).trans (drew_below _ _), _, rfl, (txt6 T2.out FR.out HL.out _ _ _ _ _ _).below (drew_below _ _), fresh_mono FR.out (by have := HL.out; omega), CP.out, _, _, _, rfl⟩)
    · have l1 : decide ((d : Int) < (s.size : Int)) = false := by simp; omega
      have HB := HIF.out false (by rw [at_none s d hlt]; simp)
      subst HB
      clear HIF
      go_wp2_with fail
      go_region
      all_goals (go_wp2_with fail; exact fin49 _ _ w.heap.size _ _ _ _ _ _ _ ⟨_, _, _, rfl⟩ rfl rfl rfl (drew_heap (put6 _ _ _ _ _ _ P.out.res)) ⟨(below6 P.out.bel _ _ _ _ _ _).trans (drew_below _ _), _, rfl, (txt6 T2.out FR.out HL.out _ _ _ _ _ _).below (drew_below _ _), fresh_mono FR.out (by have := HL.out; omega), CP.out, _, _, _, rfl⟩)
  · have hnb : (r == 0) = false := by simpa using hr
    have hf : g = false := by rw [← HG.out]; unfold isFrom; simp [hr]
    subst hf
    clear HG
    go_wp2_with fail
    go_region
    all_goals (go_wp2_with fail; exact fin49 _ _ w.heap.size _ _ _ _ _ _ _ ⟨_, _, _, rfl⟩ rfl rfl rfl (drew_heap (put6 _ _ _ _ _ _ P.out.res)) ⟨(below6 P.out.bel _ _ _ _ _ _).trans (drew_below _ _), _, rfl, (txt6 T2.out FR.out HL.out _ _ _ _ _ _).below (drew_below _ _), fresh_mono FR.out (by have := HL.out; omega), CP.out, _, _, _, rfl⟩)

end Go.Proofs.YtaflflelcdcanaaGreat

namespace Go.Proofs.YtaflflelcdcanaaGreat
open Go.RowKit
set_option linter.unusedVariables false
variable {A : Nat → Prop}

/-- A comparator: its Op and its version. -/
abbrev Comp := Int × SemL
/-- A list that has room, and lies where it may. -/
def CapA (A : Nat → Prop) (v : Value) : Prop := Cap v ∧ ∀ p n c, v = .slice (some p) n c → n = 0 ∨ A p.block
theorem capN {W : World} {v : Value} (h : Txt W v []) : Cap v := by
  obtain ⟨a, c, rfl, _⟩ := h
  rintro a n c h
  cases h
  exact Nat.zero_le _
theorem capZ {W : World} {v : Value} (h : Txt W v []) : CapA A v := by
  refine ⟨capN h, ?_⟩
  obtain ⟨a, c, rfl, _⟩ := h
  rintro p n c h
  cases h
  exact .inl rfl
theorem capA_one {b : Nat} (h : A b) : CapA A (.slice (some ⟨b, 0, none⟩) 1 1) :=
  ⟨by rintro a n c h; cases h; exact Nat.le_refl _, by rintro p n c e; cases e; exact .inr h⟩
/-- A version in a frame whose lists have room. -/
def SemV (A : Nat → Prop) (W : World) (v : Value) (x : SemL) : Prop := ∃ vp vb, v = .agg #[.string (ofL x.maj), .string (ofL x.min), .string (ofL x.pat), vp, vb] ∧ Txt W vp x.pre ∧ Txt W vb x.bld ∧ CapA A vp ∧ CapA A vb
theorem SemV.below {W W' : World} {v : Value} {x : SemL} (h : SemV A W v x) (hb : Below W.heap.size W W') : SemV A W' v x := by
  obtain ⟨vp, vb, h1, h2, h3, h4, h5⟩ := h
  exact ⟨vp, vb, h1, h2.below hb, h3.below hb, h4, h5⟩
theorem SemV.toAt {W : World} {v : Value} {x : SemL} (h : SemV A W v x) : SemAt W v x := by
  obtain ⟨vp, vb, h1, h2, h3, _⟩ := h
  exact ⟨vp, vb, h1, h2, h3⟩
/-- A comparator's cells. -/
def CompC (A : Nat → Prop) (W : World) (c : Comp) (xs : List Value) : Prop :=
  ∃ vp vb, xs = [.int .i64 c.1, .string (ofL c.2.maj), .string (ofL c.2.min), .string (ofL c.2.pat), vp, vb] ∧ Txt W vp c.2.pre ∧ Txt W vb c.2.bld ∧ CapA A vp ∧ CapA A vb
theorem CompC.below {W W' : World} {c : Comp} {xs : List Value} (h : CompC A W c xs) (hb : Below W.heap.size W W') : CompC A W' c xs := by
  obtain ⟨vp, vb, h1, h2, h3, h4, h5⟩ := h
  exact ⟨vp, vb, h1, h2.below hb, h3.below hb, h4, h5⟩
/-- The cells of a row of comparators. -/
def CompsC (A : Nat → Prop) (W : World) : List Comp → List Value → Prop
  | [], xs => xs = []
  | c :: cs, xs => ∃ ys zs, xs = ys ++ zs ∧ CompC A W c ys ∧ CompsC A W cs zs
theorem CompsC.below {W W' : World} : ∀ {cs : List Comp} {xs : List Value}, CompsC A W cs xs → Below W.heap.size W W' → CompsC A W' cs xs
  | [], _, h, _ => h
  | c :: cs, xs, h, hb => by
    obtain ⟨ys, zs, h1, h2, h3⟩ := h
    exact ⟨ys, zs, h1, h2.below hb, CompsC.below h3 hb⟩
theorem CompsC.app {W : World} : ∀ {cs ds : List Comp} {xs ys : List Value}, CompsC A W cs xs → CompsC A W ds ys → CompsC A W (cs ++ ds) (xs ++ ys)
  | [], ds, xs, ys, h, h' => by cases h; exact h'
  | c :: cs, ds, xs, ys, h, h' => by
    obtain ⟨us, vs, rfl, h2, h3⟩ := h
    exact ⟨us, vs ++ ys, by rw [List.append_assoc], h2, CompsC.app h3 h'⟩
theorem CompsC.len {W : World} : ∀ {cs : List Comp} {xs : List Value}, CompsC A W cs xs → xs.length = cs.length * 6
  | [], xs, h => by cases h; rfl
  | c :: cs, xs, h => by
    obtain ⟨us, vs, rfl, ⟨vp, vb, rfl, _⟩, h3⟩ := h
    have := CompsC.len h3
    simp
    omega
/-- What a call that makes comparators leaves. -/
def CompsP (A : Nat → Prop) (w : World) (cs : List Comp) (e : Ending) (w' : World) : Prop :=
  Below w.heap.size w w' ∧ ((cs = [] ∧ e = .returned (.slice none 0 0)) ∨ ∃ b xs, e = .returned (.slice (some ⟨b, 0, none⟩) cs.length cs.length) ∧ w.heap.size ≤ b ∧ w'.heap[b]? = some (.cells (List.toArray xs) 35 (0, 0)) ∧ CompsC A w' cs xs)

set_option maxRecDepth 100000 in
theorem one_any (op : Int) (v : Value) (x : SemL) (w : World) (hv : SemV A w v x) :
    Calls Tryz.prog 121 #[.int .i64 op, v] w (CompsP A w [(op, x)]) := by
  obtain ⟨vp, vb, rfl, t1, t2, c1, c2⟩ := hv
  obtain ⟨a1, k1, rfl, x1⟩ := id t1
  obtain ⟨a2, k2, rfl, x2⟩ := id t2
  have T1 := hide t1
  have T2 := hide t2
  clear t1 t2 x1 x2
  go_enter Tryz.func121, Tryz.ntmps121
  go_wp2_with fail
  go_ret
  have b1 : Below w.heap.size w (w.alloc (.cells #[.string (ofL x.maj), .string (ofL x.min), .string (ofL x.pat), .slice a1 x.pre.length k1, .slice a2 x.bld.length k2] 33)) := (Below.refl _ w).alloc (Nat.le_refl _) _
  refine ⟨b1.alloc b1.size _, .inr ⟨w.heap.size + 1, [.int .i64 op, .string (ofL x.maj), .string (ofL x.min), .string (ofL x.pat), .slice a1 x.pre.length k1, .slice a2 x.bld.length k2], rfl, by omega, ?_, ?_⟩⟩
  · have := World.alloc_heap_new (w.alloc (.cells #[.string (ofL x.maj), .string (ofL x.min), .string (ofL x.pat), .slice a1 x.pre.length k1, .slice a2 x.bld.length k2] 33)) (.cells #[.int .i64 op, .string (ofL x.maj), .string (ofL x.min), .string (ofL x.pat), .slice a1 x.pre.length k1, .slice a2 x.bld.length k2] 35)
    rw [show (w.alloc (.cells #[.string (ofL x.maj), .string (ofL x.min), .string (ofL x.pat), .slice a1 x.pre.length k1, .slice a2 x.bld.length k2] 33)).heap.size = w.heap.size + 1 by simp] at this
    exact this
  · exact ⟨_, [], by rw [List.append_nil], ⟨_, _, rfl, (T1.out.below b1).below ((Below.refl _ _).alloc (Nat.le_refl _) _), (T2.out.below b1).below ((Below.refl _ _).alloc (Nat.le_refl _) _), c1, c2⟩, rfl⟩

end Go.Proofs.YtaflflelcdcanaaGreat

namespace Go.Proofs.YtaflflelcdcanaaGreat
open Go.RowKit
set_option linter.unusedVariables false
variable {A : Nat → Prop}

theorem fin146 {R : Ending → World → Prop} (tmps : Array Value) (W : World) (B : Nat) (x y z : ByteArray) (p q : Value) (hp : ∃ a n c, p = .slice a n c) (hq : ∃ a n c, q = .slice a n c)
    (h2 : tmps.getD 2 undef = .pointer (some ⟨B, 0, none⟩)) (e1 : W.heap[B]? = some (.cells #[.string x, .string y, .string z, p, q] 33 (0, 0)))
    (hR : R (.returned (.agg #[.string x, .string y, .string z, p, q])) W) : bodyPost Tryz.prog Tryz.f148 R .ret { tmps := tmps, defers := [] } W := by
  obtain ⟨pa, pn, pc, rfl⟩ := hp
  obtain ⟨qa, qn, qc, rfl⟩ := hq
  have r0 := cell_at 0 e1 rfl
  have r1 := cell_at 1 e1 rfl
  have r2 := cell_at 2 e1 rfl
  have r3 := cell_at 3 e1 rfl
  have r4 := cell_at 4 e1 rfl
  rw [Array.getD_eq_getD_getElem?] at h2
  refine ⟨rfl, _, ?_, hR⟩
  simp [results, Tryz.results148, go_sem, h2, r0, r1, r2, r3, r4]
  try rfl
theorem fin120 {R : Ending → World → Prop} (tmps : Array Value) (W : World) (B : Nat) (x y z : ByteArray) (p q : Value) (hp : ∃ a n c, p = .slice a n c) (hq : ∃ a n c, q = .slice a n c)
    (h2 : tmps.getD 4 undef = .pointer (some ⟨B, 0, none⟩)) (e1 : W.heap[B]? = some (.cells #[.string x, .string y, .string z, p, q] 33 (0, 0)))
    (hR : R (.returned (.agg #[.string x, .string y, .string z, p, q])) W) : bodyPost Tryz.prog Tryz.f122 R .ret { tmps := tmps, defers := [] } W := by
  obtain ⟨pa, pn, pc, rfl⟩ := hp
  obtain ⟨qa, qn, qc, rfl⟩ := hq
  have r0 := cell_at 0 e1 rfl
  have r1 := cell_at 1 e1 rfl
  have r2 := cell_at 2 e1 rfl
  have r3 := cell_at 3 e1 rfl
  have r4 := cell_at 4 e1 rfl
  rw [Array.getD_eq_getD_getElem?] at h2
  refine ⟨rfl, _, ?_, hR⟩
  simp [results, Tryz.results122, go_sem, h2, r0, r1, r2, r3, r4]
  try rfl

theorem heap_a1 (w : World) (o1 o2 o3 : Obj) : (((w.alloc o1).alloc o2).alloc o3).heap[w.heap.size + 1]? = some o2 := by
  have h := World.alloc_heap_new (w.alloc o1) o2
  rw [show (w.alloc o1).heap.size = w.heap.size + 1 by simp] at h
  exact ((Lies.cons h (Lies.nil _)).alloc o3).head
theorem heap_a2 (w : World) (o1 o2 o3 : Obj) : (((w.alloc o1).alloc o2).alloc o3).heap[w.heap.size + 1 + 1]? = some o3 := by
  have h := World.alloc_heap_new ((w.alloc o1).alloc o2) o3
  rw [show ((w.alloc o1).alloc o2).heap.size = w.heap.size + 1 + 1 by simp] at h
  exact h
theorem below_a3' (w : World) (o1 o2 o3 : Obj) : Below w.heap.size w (((w.alloc o1).alloc o2).alloc o3) :=
  (((Below.refl _ w).alloc (Nat.le_refl _) o1).alloc (by simp) o2).alloc (by simp; omega) o3
theorem below_a3 (w : World) (o1 o2 o3 : Obj) : Below w.heap.size w (((w.alloc o1).alloc o2).alloc o3) := below_a3' w o1 o2 o3
theorem heap_b1 (w : World) (o1 o2 : Obj) : ((w.alloc o1).alloc o2).heap[w.heap.size + 1]? = some o2 := by
  have h := World.alloc_heap_new (w.alloc o1) o2
  rw [show (w.alloc o1).heap.size = w.heap.size + 1 by simp] at h
  exact h
theorem below_a2 (w : World) (o1 o2 : Obj) : Below w.heap.size w ((w.alloc o1).alloc o2) :=
  ((Below.refl _ w).alloc (Nat.le_refl _) o1).alloc (by simp) o2
/-- The version that is ahead of all others with its numbers. -/
def firstL (x : SemL) : SemL := ⟨x.maj, x.min, x.pat, [[48]], x.bld⟩

set_option maxRecDepth 100000 in
set_option maxHeartbeats 1000000 in
theorem first_any (v : Value) (x : SemL) (w : World) (hA : ∀ b, w.heap.size ≤ b → A b) (hv : SemV A w v x) :
    Calls Tryz.prog 148 #[v] w fun e w' => Below w.heap.size w w' ∧ ∃ u, e = .returned u ∧ SemV A w' u (firstL x) := by
  obtain ⟨vp, vb, rfl, t1, t2, c1, c2⟩ := hv
  obtain ⟨a1, k1, rfl, x1⟩ := id t1
  obtain ⟨a2, k2, rfl, x2⟩ := id t2
  have T2 := hide t2
  have HX2 := hide x2
  clear t1 t2 x1 x2
  go_enter Tryz.func148, Tryz.ntmps148
  go_wp2_with fail
  refine fin146 _ _ (w.heap.size + 1) _ _ _ _ _ ⟨_, _, _, rfl⟩ ⟨_, _, _, rfl⟩ rfl (heap_a1 w _ _ _) ⟨below_a3 w _ _ _, _, rfl, _, _, rfl, ?_, (T2.out.below (below_a3' w _ _ _)), capA_one (hA _ (by omega)), c2⟩
  exact ⟨_, 1, rfl, .inr ⟨w.heap.size + 1 + 1, 0, rfl, by simp, fun i hi => by
    have : i = 0 := by simpa [firstL] using hi
    subst this
    exact cell_at 0 (heap_a2 w _ _ _) rfl⟩⟩

end Go.Proofs.YtaflflelcdcanaaGreat

namespace Go.Proofs.YtaflflelcdcanaaGreat
open Go.RowKit
set_option linter.unusedVariables false
variable {A : Nat → Prop}

set_option maxRecDepth 100000 in
set_option maxHeartbeats 1000000 in
theorem first_new (x : SemL) (a1 a2 : Option Addr) (n1 k1 n2 k2 : Nat) (w : World) :
    Calls Tryz.prog 148 #[.agg #[.string (ofL x.maj), .string (ofL x.min), .string (ofL x.pat), .slice a1 n1 k1, .slice a2 n2 k2]] w fun e w' => Below w.heap.size w w' ∧
      ∃ b, e = .returned (.agg #[.string (ofL x.maj), .string (ofL x.min), .string (ofL x.pat), .slice (some ⟨b, 0, none⟩) 1 1, .slice a2 n2 k2]) ∧ w.heap.size ≤ b ∧ Txt w' (.slice (some ⟨b, 0, none⟩) 1 1) [[48]] := by
  go_enter Tryz.func148, Tryz.ntmps148
  go_wp2_with fail
  refine fin146 _ _ (w.heap.size + 1) _ _ _ _ _ ⟨_, _, _, rfl⟩ ⟨_, _, _, rfl⟩ rfl (heap_a1 w _ _ _) ⟨below_a3 w _ _ _, w.heap.size + 1 + 1, rfl, by omega, ?_⟩
  exact ⟨_, 1, rfl, .inr ⟨w.heap.size + 1 + 1, 0, rfl, by simp, fun i hi => by
    have : i = 0 := by simpa using hi
    subst this
    exact cell_at 0 (heap_a2 w _ _ _) rfl⟩⟩

theorem txt_nil' {W W' : World} {v : Value} (h : Txt W v []) : Txt W' v [] := by
  obtain ⟨a, c, hv, _⟩ := h
  exact ⟨a, c, hv, .inl rfl⟩
theorem next_nil (x : SemL) (p : Int) : (nextW x p).pre = [] ∧ (nextW x p).bld = [] := by
  unfold nextW
  split
  · split
    · split
      · unfold rais; repeat' split
        all_goals exact ⟨rfl, rfl⟩
      · exact ⟨rfl, rfl⟩
    · exact ⟨rfl, rfl⟩
  · exact ⟨rfl, rfl⟩
/-- A partial's beginning. -/
def begL (p : PartL) : SemL := ⟨p.maj, p.min, p.pat, p.pre, []⟩
/-- The next one behind a partial's number, ahead of all with its numbers. -/
def behL (p : PartL) (k : Int) : SemL := firstL (nextW (begL p) k)
/-- A partial that is short. -/
structure PShort (p : PartL) : Prop where
  a : p.maj.length ≤ 1024
  b : p.min.length ≤ 1024
  c : p.pat.length ≤ 1024
  d : p.pre.length ≤ 1024 ∧ ∀ t ∈ p.pre, t.length ≤ 1024
  t : p.told ≤ 3
theorem PShort.sem {p : PartL} (h : PShort p) : ShortS (begL p) :=
  ⟨by have := h.a; simp only [begL]; omega, by have := h.b; simp only [begL]; omega, by have := h.c; simp only [begL]; omega, ⟨by have := h.d.1; simp only [begL]; omega, fun t ht => by have := h.d.2 t ht; omega⟩, ⟨by simp [begL], by simp [begL]⟩⟩
/-- A partial in a frame. -/
def PartV (A : Nat → Prop) (W : World) (v : Value) (p : PartL) : Prop := ∃ vp, v = partW p vp ∧ Txt W vp p.pre ∧ CapA A vp ∧ ∃ a n c, vp = .slice a n c
theorem PartV.below {W W' : World} {v : Value} {p : PartL} (h : PartV A W v p) (hb : Below W.heap.size W W') : PartV A W' v p := by
  obtain ⟨vp, h1, h2, h3, h4⟩ := h
  exact ⟨vp, h1, h2.below hb, h3, h4⟩
theorem semv_first {W : World} {y : SemL} {vp vb : Value} (h1 : Txt W vp [[48]]) (h2 : Txt W vb y.bld) (c1 : CapA A vp) (c2 : CapA A vb) : SemV A W (.agg #[.string (ofL y.maj), .string (ofL y.min), .string (ofL y.pat), vp, vb]) (firstL y) := ⟨vp, vb, rfl, h1, h2, c1, c2⟩
theorem put5 {W : World} {B : Nat} {t : TypeId} {u0 u1 u2 u3 u4 : Value} (v0 v1 v2 v3 v4 : Value) (h : W.heap[B]? = some (.cells #[u0, u1, u2, u3, u4] t (0, 0))) :
    (((((W.setCell ⟨B, 0, none⟩ v0).setCell ⟨B, 1, none⟩ v1).setCell ⟨B, 2, none⟩ v2).setCell ⟨B, 3, none⟩ v3).setCell ⟨B, 4, none⟩ v4).heap[B]? = some (.cells #[v0, v1, v2, v3, v4] t (0, 0)) :=
  set_lies 4 v4 (set_lies 3 v3 (set_lies 2 v2 (set_lies 1 v1 (set_lies 0 v0 h))))
theorem below5 {w W : World} {B : Nat} (h : Below w.heap.size w W) (hB : w.heap.size ≤ B) (v0 v1 v2 v3 v4 : Value) :
    Below w.heap.size w (((((W.setCell ⟨B, 0, none⟩ v0).setCell ⟨B, 1, none⟩ v1).setCell ⟨B, 2, none⟩ v2).setCell ⟨B, 3, none⟩ v3).setCell ⟨B, 4, none⟩ v4) :=
  ((((h.setCell hB _).setCell hB _).setCell hB _).setCell hB _).setCell hB _
theorem txt5 {W : World} {v : Value} {ts : List (List UInt8)} {n B : Nat} (h : Txt W v ts) (hf : Fresh n v) (hB : B < n) (v0 v1 v2 v3 v4 : Value) :
    Txt (((((W.setCell ⟨B, 0, none⟩ v0).setCell ⟨B, 1, none⟩ v1).setCell ⟨B, 2, none⟩ v2).setCell ⟨B, 3, none⟩ v3).setCell ⟨B, 4, none⟩ v4) v ts :=
  txt_set (txt_set (txt_set (txt_set (txt_set h hf hB _ _) hf hB _ _) hf hB _ _) hf hB _ _) hf hB _ _

set_option maxRecDepth 100000 in
set_option maxHeartbeats 2000000 in
theorem behind_any (v : Value) (p : PartL) (k : Int) (w : World) (hA : ∀ b, w.heap.size ≤ b → A b) (hv : PartV A w v p) (hp : PShort p) :
    Calls Tryz.prog 122 #[v, .int .i64 k] w fun e w' => Below w.heap.size w w' ∧ ∃ u, e = .returned u ∧ SemV A w' u (behL p k) := by
  obtain ⟨vp, rfl, t1, c1, a1, n1, k1, rfl⟩ := hv
  have HN := hide (fun W (hW : Below w.heap.size w W) => NextV_any (.agg #[.string (ofL p.maj), .string (ofL p.min), .string (ofL p.pat), .slice a1 n1 k1, .slice none 0 0]) (begL p) k W ⟨_, _, rfl, t1.below hW, txt_nil W⟩ hp.sem (by have := hp.a; simp only [begL]; omega) (by have := hp.b; simp only [begL]; omega) (by have := hp.c; simp only [begL]; omega))
  have hnil := next_nil (begL p) k
  have HA := hide hA
  clear t1 c1 hp hA
  unfold partW behL
  generalize nextW (begL p) k = y at *
  obtain ⟨z1, z2⟩ := hnil
  have hz := hide (heap_b1 w (.cells #[.string (ofL p.maj), .string (ofL p.min), .string (ofL p.pat), .slice a1 n1 k1, .slice none 0 0, .int .i64 (p.told : Int)] 54) (.cells #[.string ⟨#[]⟩, .string ⟨#[]⟩, .string ⟨#[]⟩, .slice none 0 0, .slice none 0 0] 33))
  have hb0 := hide (below_a2 w (.cells #[.string (ofL p.maj), .string (ofL p.min), .string (ofL p.pat), .slice a1 n1 k1, .slice none 0 0, .int .i64 (p.told : Int)] 54) (.cells #[.string ⟨#[]⟩, .string ⟨#[]⟩, .string ⟨#[]⟩, .slice none 0 0, .slice none 0 0] 33))
  go_enter Tryz.func122, Tryz.ntmps122
  go_wp2_with fail
  generalize (w.alloc _).alloc _ = W0 at *
  refine (HN.out _ hb0.out).mono ?_
  rintro e w2 ⟨hb2, u, rfl, hu⟩
  obtain ⟨q1, q2, rfl, s1, s2⟩ := hu
  rw [z1] at s1
  rw [z2] at s2
  obtain ⟨aa, ca, rfl, _⟩ := id s1
  obtain ⟨ab, cb, rfl, _⟩ := id s2
  have S2 := hide s2
  have hl0 := (Array.getElem?_eq_some_iff.1 hz.out).1
  have hz2 := hide ((hb2.block _ hl0).trans hz.out)
  have hl2 := hide (Nat.lt_of_lt_of_le hl0 hb2.size)
  have hb3 := hide (hb0.out.trans (hb2.mono hb0.out.size))
  clear hb2 s1 s2 hz hb0 hl0 HN
  go_wp2_with fail
  refine (first_new y _ _ _ _ _ _ _).mono ?_
  rintro e w3 ⟨hb4, b, rfl, hbb, tb⟩
  have hz3 := hide ((hb4.block _ hl2.out).trans hz2.out)
  have hb5 := hide (hb3.out.trans (hb4.mono hb3.out.size))
  have TB := hide tb
  obtain ⟨f0, f1, f2, f3, f4, g0, g1, g2, g3, g4⟩ : w3.frozen? ⟨w.heap.size + 1, 0, none⟩ = false ∧ w3.frozen? ⟨w.heap.size + 1, 1, none⟩ = false ∧ w3.frozen? ⟨w.heap.size + 1, 2, none⟩ = false ∧ w3.frozen? ⟨w.heap.size + 1, 3, none⟩ = false ∧ w3.frozen? ⟨w.heap.size + 1, 4, none⟩ = false ∧ w3.cell? ⟨w.heap.size + 1, 0, none⟩ = some (.string ⟨#[]⟩) ∧ w3.cell? ⟨w.heap.size + 1, 1, none⟩ = some (.string ⟨#[]⟩) ∧ w3.cell? ⟨w.heap.size + 1, 2, none⟩ = some (.string ⟨#[]⟩) ∧ w3.cell? ⟨w.heap.size + 1, 3, none⟩ = some (.slice none 0 0) ∧ w3.cell? ⟨w.heap.size + 1, 4, none⟩ = some (.slice none 0 0) :=
    ⟨one_free 0 hz3.out, one_free 1 hz3.out, one_free 2 hz3.out, one_free 3 hz3.out, one_free 4 hz3.out, cell_at 0 hz3.out rfl, cell_at 1 hz3.out rfl, cell_at 2 hz3.out rfl, cell_at 3 hz3.out rfl, cell_at 4 hz3.out rfl⟩
  have HBB := hide hbb
  clear hb4 tb hbb
  try dsimp only
  go_wp2_with fail
  have hput := put5 (.string (ofL y.maj)) (.string (ofL y.min)) (.string (ofL y.pat)) (.slice (some ⟨b, 0, none⟩) 1 1) (.slice ab 0 cb) hz3.out
  have hbel := below5 hb5.out (Nat.le_succ _) (.string (ofL y.maj)) (.string (ofL y.min)) (.string (ofL y.pat)) (.slice (some ⟨b, 0, none⟩) 1 1) (.slice ab 0 cb)
  have htx := txt5 TB.out (n := w2.heap.size) (by rintro a i c h; cases h; exact HBB.out) hl2.out (.string (ofL y.maj)) (.string (ofL y.min)) (.string (ofL y.pat)) (.slice (some ⟨b, 0, none⟩) 1 1) (.slice ab 0 cb)
  have htn : Txt w2 (.slice ab 0 cb) [] := S2.out
  generalize ((((w3.setCell ⟨w.heap.size + 1, 0, none⟩ (.string (ofL y.maj))).setCell ⟨w.heap.size + 1, 1, none⟩ (.string (ofL y.min))).setCell ⟨w.heap.size + 1, 2, none⟩ (.string (ofL y.pat))).setCell ⟨w.heap.size + 1, 3, none⟩ (.slice (some ⟨b, 0, none⟩) 1 1)).setCell ⟨w.heap.size + 1, 4, none⟩ (.slice ab 0 cb) = WF at *
  have hc1 : CapA A (.slice (some ⟨b, 0, none⟩) 1 1) := capA_one (HA.out b (Nat.le_trans hb3.out.size HBB.out))
  have hsv : SemV A WF (.agg #[.string (ofL y.maj), .string (ofL y.min), .string (ofL y.pat), .slice (some ⟨b, 0, none⟩) 1 1, .slice ab 0 cb]) (firstL y) := semv_first htx (by rw [z2]; exact txt_nil' htn) hc1 (capZ htn)
  exact fin120 _ _ (w.heap.size + 1) _ _ _ _ _ ⟨_, _, _, rfl⟩ ⟨_, _, _, rfl⟩ rfl hput ⟨hbel, _, rfl, hsv⟩

end Go.Proofs.YtaflflelcdcanaaGreat

namespace Go.Proofs.YtaflflelcdcanaaGreat
open Go.RowKit
set_option linter.unusedVariables false
variable {A : Nat → Prop}

/-- From a partial's beginning on, below the next one behind one of its numbers. -/
def withL (p : PartL) (k : Int) : List Comp := [(4, begL p), (1, behL p k)]
theorem two_comps {w W : World} {x y : SemL} {b : Nat} {vp vb vq vc : Value} {o1 o2 : Int} (hb : Below w.heap.size w W) (hw : w.heap.size ≤ b)
    (h : W.heap[b]? = some (.cells #[.int .i64 o1, .string (ofL x.maj), .string (ofL x.min), .string (ofL x.pat), vp, vb, .int .i64 o2, .string (ofL y.maj), .string (ofL y.min), .string (ofL y.pat), vq, vc] 35 (0, 0)))
    (t1 : Txt W vp x.pre) (t2 : Txt W vb x.bld) (t3 : Txt W vq y.pre) (t4 : Txt W vc y.bld) (c1 : CapA A vp) (c2 : CapA A vb) (c3 : CapA A vq) (c4 : CapA A vc) :
    CompsP A w [(o1, x), (o2, y)] (.returned (.slice (some ⟨b, 0, none⟩) 2 2)) W :=
  ⟨hb, .inr ⟨b, [.int .i64 o1, .string (ofL x.maj), .string (ofL x.min), .string (ofL x.pat), vp, vb, .int .i64 o2, .string (ofL y.maj), .string (ofL y.min), .string (ofL y.pat), vq, vc], rfl, hw, h,
    [.int .i64 o1, .string (ofL x.maj), .string (ofL x.min), .string (ofL x.pat), vp, vb], [.int .i64 o2, .string (ofL y.maj), .string (ofL y.min), .string (ofL y.pat), vq, vc], rfl, ⟨vp, vb, rfl, t1, t2, c1, c2⟩,
    [.int .i64 o2, .string (ofL y.maj), .string (ofL y.min), .string (ofL y.pat), vq, vc], [], rfl, ⟨vq, vc, rfl, t3, t4, c3, c4⟩, rfl⟩⟩

set_option maxRecDepth 100000 in
set_option maxHeartbeats 2000000 in
theorem withinP_any (v : Value) (p : PartL) (k : Int) (w : World) (hA : ∀ b, w.heap.size ≤ b → A b) (hv : PartV A w v p) (hp : PShort p) :
    Calls Tryz.prog 167 #[v, .int .i64 k] w (CompsP A w (withL p k)) := by
  have BH := hide (fun W (hW : Below w.heap.size w W) => behind_any v p k W (fun b hb => hA b (Nat.le_trans hW.size hb)) (hv.below hW) hp)
  obtain ⟨vp, rfl, t1, c1, a1, n1, k1, rfl⟩ := hv
  have T1 := hide t1
  have C1 := hide c1
  clear t1 c1 hp hA
  unfold withL
  generalize behL p k = y at *
  unfold partW at BH ⊢
  have b0 := hide ((Below.refl _ w).alloc (Nat.le_refl _) (.cells #[.string (ofL p.maj), .string (ofL p.min), .string (ofL p.pat), .slice a1 n1 k1, .slice none 0 0, .int .i64 (p.told : Int)] 54))
  have n0 := World.alloc_heap_new w (.cells #[.string (ofL p.maj), .string (ofL p.min), .string (ofL p.pat), .slice a1 n1 k1, .slice none 0 0, .int .i64 (p.told : Int)] 54)
  go_enter Tryz.func167, Tryz.ntmps167
  go_wp2_with fail
  generalize w.alloc _ = W0 at *
  have q0 := cell_at 0 n0 rfl
  have q1 := cell_at 1 n0 rfl
  have q2 := cell_at 2 n0 rfl
  have q3 := cell_at 3 n0 rfl
  have q4 := cell_at 4 n0 rfl
  have q5 := cell_at 5 n0 rfl
  have hl0 := hide (Array.getElem?_eq_some_iff.1 n0).1
  have bD := hide (b0.out.trans (drew_below w.heap.size W0))
  have N0 := hide n0
  clear n0
  go_region_held3 (fun W' => W'.cell? ⟨w.heap.size, 0, none⟩ = some (.string (ofL p.maj)) ∧ W'.cell? ⟨w.heap.size, 1, none⟩ = some (.string (ofL p.min)) ∧ W'.cell? ⟨w.heap.size, 2, none⟩ = some (.string (ofL p.pat)) ∧ W'.cell? ⟨w.heap.size, 3, none⟩ = some (.slice a1 n1 k1) ∧ W'.cell? ⟨w.heap.size, 4, none⟩ = some (.slice none 0 0) ∧ W'.cell? ⟨w.heap.size, 5, none⟩ = some (.int .i64 (p.told : Int))) (go_keep) ((first
    | (go_at_call 122; refine (BH.out _ bD.out).mono ?_; rintro e w2 ⟨hb2, u, rfl, hu⟩; obtain ⟨wp, wb, rfl, t3, t4, c3, c4⟩ := hu; obtain ⟨a3, k3, rfl, _⟩ := id t3; obtain ⟨a4, k4, rfl, _⟩ := id t4; have T3 := hide t3; have T4 := hide t4; have C3 := hide c3; have C4 := hide c4; have B2 := hide (bD.out.trans (hb2.mono bD.out.size)); have n2 := (hb2.block w.heap.size hl0.out).trans N0.out; have e0 := cell_at 0 n2 rfl; have e1 := cell_at 1 n2 rfl; have e2 := cell_at 2 n2 rfl; have e3 := cell_at 3 n2 rfl; have e4 := cell_at 4 n2 rfl; have e5 := cell_at 5 n2 rfl; clear t3 t4 c3 c4 hb2 n2)
    | fail))
  try dsimp only
  go_wp2_with fail
  go_ret
  have al : Below w2.heap.size w2 (w2.alloc (.cells #[.int .i64 4, .string (ofL p.maj), .string (ofL p.min), .string (ofL p.pat), .slice a1 n1 k1, .slice none 0 0, .int .i64 1, .string (ofL y.maj), .string (ofL y.min), .string (ofL y.pat), .slice a3 y.pre.length k3, .slice a4 y.bld.length k4] 35)) := (Below.refl _ w2).alloc (Nat.le_refl _) _
  exact two_comps (x := begL p) (y := y) (B2.out.alloc B2.out.size _) B2.out.size (World.alloc_heap_new w2 _) ((T1.out.below B2.out).below al) (txt_nil _) (T3.out.below al) (T4.out.below al) C1.out (capZ (txt_nil w)) C3.out C4.out

/-- What no version is. -/
def noneL : List Comp := [(1, ⟨[48], [48], [48], [[48]], []⟩)]
theorem CompsP.back {w W W' : World} {cs : List Comp} {e : Ending} (h : CompsP A W cs e W') (hb : Below w.heap.size w W) : CompsP A w cs e W' := by
  obtain ⟨h1, h2⟩ := h
  refine ⟨hb.trans (h1.mono hb.size), ?_⟩
  rcases h2 with h2 | ⟨b, xs, h3, h4, h5⟩
  · exact .inl h2
  · exact .inr ⟨b, xs, h3, Nat.le_trans hb.size h4, h5⟩

set_option maxRecDepth 100000 in
theorem none_any (w : World) (hA : ∀ b, w.heap.size ≤ b → A b) : Calls Tryz.prog 168 #[] w (CompsP A w noneL) := by
  have HA := hide hA
  clear hA
  have F := hide (fun W => first_new ⟨[48], [48], [48], [], []⟩ none none 0 0 0 0 W)
  have O := hide (fun u W h => one_any (A := A) 1 u ⟨[48], [48], [48], [[48]], []⟩ W h)
  go_enter Tryz.func168, Tryz.ntmps168
  go_wp2_with fail
  refine (F.out _).mono ?_
  rintro e w1 ⟨hb1, b, rfl, hbb, tb⟩
  have TB := hide tb
  clear tb
  go_wp2_with fail
  refine (O.out _ _ ⟨_, _, rfl, TB.out, txt_nil _, capA_one (HA.out b hbb), capZ (txt_nil w)⟩).mono ?_
  rintro e w2 h
  have hc := h.back hb1
  obtain ⟨_, h1 | ⟨b2, xs, rfl, h4, h5⟩⟩ := id h
  · cases h1.1
  have HC := hide hc
  clear hc h h4 h5
  try dsimp only
  go_wp2_with fail
  go_ret
  exact HC.out

end Go.Proofs.YtaflflelcdcanaaGreat

namespace Go.Proofs.YtaflflelcdcanaaGreat
open Go.RowKit
set_option linter.unusedVariables false
variable {A : Nat → Prop}

def equalL (p : PartL) : List Comp := if p.told = 0 then [] else if p.told = 3 then [(5, begL p)] else withL p ((p.told : Int) - 1)
def lessL (p : PartL) : List Comp := if p.told = 0 then noneL else if p.told = 3 then [(1, begL p)] else [(1, firstL (begL p))]
def upToL (p : PartL) : List Comp := if p.told = 0 then [] else if p.told = 3 then [(2, begL p)] else [(1, behL p ((p.told : Int) - 1))]
def moreL (p : PartL) : List Comp := if p.told = 0 then noneL else if p.told = 3 then [(3, begL p)] else [(4, nextW (begL p) ((p.told : Int) - 1))]
def fromL (p : PartL) : List Comp := if p.told = 0 then [] else [(4, begL p)]
def tildeL (p : PartL) : List Comp := if p.told = 0 then [] else withL p (min ((p.told : Int) - 1) 1)
def caretL (p : PartL) : List Comp := if p.told = 0 then [] else if p.told = 1 ∨ p.maj ≠ [48] then withL p 0 else if p.told = 2 ∨ p.min ≠ [48] then withL p 1 else withL p 2
theorem next_semv (v : Value) (p : PartL) (k : Int) (w : World) (hv : SemV A w v (begL p)) (hp : PShort p) :
    Calls Tryz.prog 149 #[v, .int .i64 k] w fun e w' => Below w.heap.size w w' ∧ ∃ u, e = .returned u ∧ SemV A w' u (nextW (begL p) k) := by
  refine (NextV_any v (begL p) k w hv.toAt hp.sem (by have := hp.a; simp only [begL]; omega) (by have := hp.b; simp only [begL]; omega) (by have := hp.c; simp only [begL]; omega)).mono ?_
  rintro e w' ⟨hb, u, rfl, q1, q2, rfl, s1, s2⟩
  obtain ⟨z1, z2⟩ := next_nil (begL p) k
  exact ⟨hb, _, rfl, q1, q2, rfl, s1, s2, capZ (by rw [z1] at s1; exact s1), capZ (by rw [z2] at s2; exact s2)⟩
theorem str_ne {x : List UInt8} (h : x ≠ [48]) : ((ofL x).toList == [48]) = false := by
  rw [Bool.eq_false_iff]
  intro e
  have := LawfulBEq.eq_of_beq e
  exact h (by simpa [toL, ofL_data] using this)
theorem str_eq {x : List UInt8} (h : x = [48]) : ((ofL x).toList == [48]) = true := by subst h; rw [toL, ofL_data]; rfl

set_option maxRecDepth 100000 in
set_option maxHeartbeats 2000000 in
theorem equal_any (v : Value) (p : PartL) (w : World) (hA : ∀ b, w.heap.size ≤ b → A b) (hv : PartV A w v p) (hp : PShort p) :
    Calls Tryz.prog 160 #[v] w (CompsP A w (equalL p)) := by
  have hv0 := hide hv
  have WI := hide (fun (k : Int) W (hW : Below w.heap.size w W) => withinP_any v p k W (fun b hb => hA b (Nat.le_trans hW.size hb)) (hv.below hW) hp)
  have BE := hide (fun (k : Int) W (hW : Below w.heap.size w W) => behind_any v p k W (fun b hb => hA b (Nat.le_trans hW.size hb)) (hv.below hW) hp)
  obtain ⟨vp, rfl, t1, c1, a1, n1, k1, rfl⟩ := hv
  have SB := hide (fun W (hW : Below w.heap.size w W) => (⟨_, _, rfl, t1.below hW, txt_nil W, c1, capZ (txt_nil W)⟩ : SemV A W (.agg #[.string (ofL p.maj), .string (ofL p.min), .string (ofL p.pat), .slice a1 n1 k1, .slice none 0 0]) (begL p)))
  have O := hide (fun (op : Int) x u W (h : SemV A W u x) => one_any op u x W h)
  have NO := hide (fun W (hW : Below w.heap.size w W) => none_any W (fun b hb => hA b (Nat.le_trans hW.size hb)))
  have HA := hide hA
  clear hA
  have hle := hp.t
  have PS := hide hp
  clear t1 c1 hv0 hp
  unfold partW at WI BE ⊢
  have b0 := hide ((Below.refl _ w).alloc (Nat.le_refl _) (.cells #[.string (ofL p.maj), .string (ofL p.min), .string (ofL p.pat), .slice a1 n1 k1, .slice none 0 0, .int .i64 (p.told : Int)] 54))
  by_cases h0 : p.told = 0
  · have e0 : ((p.told : Int) == 0) = true := by simp; omega
    have HP : equalL p = _ := if_pos h0
    rw [HP]
    clear HP h0
    go_enter Tryz.func160, Tryz.ntmps160
    go_wp2_with fail
    go_ret
    exact ⟨b0.out, .inl ⟨rfl, rfl⟩⟩
  have e0 : ((p.told : Int) == 0) = false := by simp; omega
  by_cases h3 : p.told = 3
  · have e3 : ((p.told : Int) == 3) = true := by simp; omega
    have HP : equalL p = _ := (if_neg h0).trans (if_pos h3)
    rw [HP]
    clear HP h0 h3
    go_enter Tryz.func160, Tryz.ntmps160
    go_wp2_with fail
    generalize w.alloc _ = W0 at *
    refine (O.out 5 (begL p) _ _ (SB.out _ b0.out)).mono ?_
    rintro e w2 h
    have HC := hide (h.back b0.out)
    obtain ⟨_, h1 | ⟨b2, xs, rfl, h4, h5⟩⟩ := id h
    · cases h1.1
    clear h h4 h5
    try dsimp only
    go_wp2_with fail
    go_ret
    exact HC.out
  have e3 : ((p.told : Int) == 3) = false := by simp; omega
  have HP : equalL p = _ := (if_neg h0).trans (if_neg h3)
  rw [HP]
  clear HP h0 h3
  go_enter Tryz.func160, Tryz.ntmps160
  go_wp2_with fail
  generalize w.alloc _ = W0 at *
  refine (WI.out ((p.told : Int) - 1) _ b0.out).mono ?_
  rintro e w2 h
  have HC := hide (h.back b0.out)
  obtain ⟨_, h1 | ⟨b2, xs, rfl, h4, h5⟩⟩ := id h
  · cases h1.1
  clear h h4 h5
  try dsimp only
  go_wp2_with fail
  go_ret
  exact HC.out

set_option maxRecDepth 100000 in
set_option maxHeartbeats 2000000 in
theorem less_any (v : Value) (p : PartL) (w : World) (hA : ∀ b, w.heap.size ≤ b → A b) (hv : PartV A w v p) (hp : PShort p) :
    Calls Tryz.prog 161 #[v] w (CompsP A w (lessL p)) := by
  have hv0 := hide hv
  have WI := hide (fun (k : Int) W (hW : Below w.heap.size w W) => withinP_any v p k W (fun b hb => hA b (Nat.le_trans hW.size hb)) (hv.below hW) hp)
  have BE := hide (fun (k : Int) W (hW : Below w.heap.size w W) => behind_any v p k W (fun b hb => hA b (Nat.le_trans hW.size hb)) (hv.below hW) hp)
  obtain ⟨vp, rfl, t1, c1, a1, n1, k1, rfl⟩ := hv
  have SB := hide (fun W (hW : Below w.heap.size w W) => (⟨_, _, rfl, t1.below hW, txt_nil W, c1, capZ (txt_nil W)⟩ : SemV A W (.agg #[.string (ofL p.maj), .string (ofL p.min), .string (ofL p.pat), .slice a1 n1 k1, .slice none 0 0]) (begL p)))
  have O := hide (fun (op : Int) x u W (h : SemV A W u x) => one_any op u x W h)
  have NO := hide (fun W (hW : Below w.heap.size w W) => none_any W (fun b hb => hA b (Nat.le_trans hW.size hb)))
  have HA := hide hA
  clear hA
  have hle := hp.t
  have PS := hide hp
  clear t1 c1 hv0 hp
  unfold partW at WI BE ⊢
  have b0 := hide ((Below.refl _ w).alloc (Nat.le_refl _) (.cells #[.string (ofL p.maj), .string (ofL p.min), .string (ofL p.pat), .slice a1 n1 k1, .slice none 0 0, .int .i64 (p.told : Int)] 54))
  by_cases h0 : p.told = 0
  · have e0 : ((p.told : Int) == 0) = true := by simp; omega
    have HP : lessL p = _ := if_pos h0
    rw [HP]
    clear HP h0
    go_enter Tryz.func161, Tryz.ntmps161
    go_wp2_with fail
    generalize w.alloc _ = W0 at *
    refine (NO.out _ b0.out).mono ?_
    rintro e w2 h
    have HC := hide (h.back b0.out)
    obtain ⟨_, h1 | ⟨b2, xs, rfl, h4, h5⟩⟩ := id h
    · cases h1.1
    clear h h4 h5
    try dsimp only
    go_wp2_with fail
    go_ret
    exact HC.out
  have e0 : ((p.told : Int) == 0) = false := by simp; omega
  by_cases h3 : p.told = 3
  · have e3 : ((p.told : Int) == 3) = true := by simp; omega
    have HP : lessL p = _ := (if_neg h0).trans (if_pos h3)
    rw [HP]
    clear HP h0 h3
    go_enter Tryz.func161, Tryz.ntmps161
    go_wp2_with fail
    generalize w.alloc _ = W0 at *
    refine (O.out 1 (begL p) _ _ (SB.out _ b0.out)).mono ?_
    rintro e w2 h
    have HC := hide (h.back b0.out)
    obtain ⟨_, h1 | ⟨b2, xs, rfl, h4, h5⟩⟩ := id h
    · cases h1.1
    clear h h4 h5
    try dsimp only
    go_wp2_with fail
    go_ret
    exact HC.out
  have e3 : ((p.told : Int) == 3) = false := by simp; omega
  have HP : lessL p = _ := (if_neg h0).trans (if_neg h3)
  rw [HP]
  clear HP h0 h3
  go_enter Tryz.func161, Tryz.ntmps161
  go_wp2_with fail
  generalize w.alloc _ = W0 at *
  refine (first_any _ (begL p) _ (fun b hb => HA.out b (Nat.le_trans b0.out.size hb)) (SB.out _ b0.out)).mono ?_
  rintro e w1 ⟨hb1, u, rfl, hu⟩
  obtain ⟨q1, q2, rfl, s1, s2, s3, s4⟩ := hu
  obtain ⟨z1, y1, rfl, _⟩ := id s1
  obtain ⟨z2, y2, rfl, _⟩ := id s2
  have SU := hide (⟨_, _, rfl, s1, s2, s3, s4⟩ : SemV A w1 _ _)
  have b1 := hide (b0.out.trans (hb1.mono b0.out.size))
  clear s1 s2 s3 s4 hb1
  try dsimp only
  go_wp2_with fail
  refine (O.out 1 (firstL (begL p)) _ _ SU.out).mono ?_
  rintro e w2 h
  have HC := hide (h.back b1.out)
  obtain ⟨_, h1 | ⟨b2, xs, rfl, h4, h5⟩⟩ := id h
  · cases h1.1
  clear h h4 h5
  try dsimp only
  go_wp2_with fail
  go_ret
  exact HC.out

set_option maxRecDepth 100000 in
set_option maxHeartbeats 2000000 in
theorem upTo_any (v : Value) (p : PartL) (w : World) (hA : ∀ b, w.heap.size ≤ b → A b) (hv : PartV A w v p) (hp : PShort p) :
    Calls Tryz.prog 87 #[v] w (CompsP A w (upToL p)) := by
  have hv0 := hide hv
  have WI := hide (fun (k : Int) W (hW : Below w.heap.size w W) => withinP_any v p k W (fun b hb => hA b (Nat.le_trans hW.size hb)) (hv.below hW) hp)
  have BE := hide (fun (k : Int) W (hW : Below w.heap.size w W) => behind_any v p k W (fun b hb => hA b (Nat.le_trans hW.size hb)) (hv.below hW) hp)
  obtain ⟨vp, rfl, t1, c1, a1, n1, k1, rfl⟩ := hv
  have SB := hide (fun W (hW : Below w.heap.size w W) => (⟨_, _, rfl, t1.below hW, txt_nil W, c1, capZ (txt_nil W)⟩ : SemV A W (.agg #[.string (ofL p.maj), .string (ofL p.min), .string (ofL p.pat), .slice a1 n1 k1, .slice none 0 0]) (begL p)))
  have O := hide (fun (op : Int) x u W (h : SemV A W u x) => one_any op u x W h)
  have NO := hide (fun W (hW : Below w.heap.size w W) => none_any W (fun b hb => hA b (Nat.le_trans hW.size hb)))
  have HA := hide hA
  clear hA
  have hle := hp.t
  have PS := hide hp
  clear t1 c1 hv0 hp
  unfold partW at WI BE ⊢
  have b0 := hide ((Below.refl _ w).alloc (Nat.le_refl _) (.cells #[.string (ofL p.maj), .string (ofL p.min), .string (ofL p.pat), .slice a1 n1 k1, .slice none 0 0, .int .i64 (p.told : Int)] 54))
  by_cases h0 : p.told = 0
  · have e0 : ((p.told : Int) == 0) = true := by simp; omega
    have HP : upToL p = _ := if_pos h0
    rw [HP]
    clear HP h0
    go_enter Tryz.func87, Tryz.ntmps87
    go_wp2_with fail
    go_ret
    exact ⟨b0.out, .inl ⟨rfl, rfl⟩⟩
  have e0 : ((p.told : Int) == 0) = false := by simp; omega
  by_cases h3 : p.told = 3
  · have e3 : ((p.told : Int) == 3) = true := by simp; omega
    have HP : upToL p = _ := (if_neg h0).trans (if_pos h3)
    rw [HP]
    clear HP h0 h3
    go_enter Tryz.func87, Tryz.ntmps87
    go_wp2_with fail
    generalize w.alloc _ = W0 at *
    refine (O.out 2 (begL p) _ _ (SB.out _ b0.out)).mono ?_
    rintro e w2 h
    have HC := hide (h.back b0.out)
    obtain ⟨_, h1 | ⟨b2, xs, rfl, h4, h5⟩⟩ := id h
    · cases h1.1
    clear h h4 h5
    try dsimp only
    go_wp2_with fail
    go_ret
    exact HC.out
  have e3 : ((p.told : Int) == 3) = false := by simp; omega
  have HP : upToL p = _ := (if_neg h0).trans (if_neg h3)
  rw [HP]
  clear HP h0 h3
  go_enter Tryz.func87, Tryz.ntmps87
  go_wp2_with fail
  generalize w.alloc _ = W0 at *
  refine (BE.out ((p.told : Int) - 1) _ b0.out).mono ?_
  rintro e w1 ⟨hb1, u, rfl, hu⟩
  obtain ⟨q1, q2, rfl, s1, s2, s3, s4⟩ := hu
  obtain ⟨z1, y1, rfl, _⟩ := id s1
  obtain ⟨z2, y2, rfl, _⟩ := id s2
  have SU := hide (⟨_, _, rfl, s1, s2, s3, s4⟩ : SemV A w1 _ _)
  have b1 := hide (b0.out.trans (hb1.mono b0.out.size))
  clear s1 s2 s3 s4 hb1
  try dsimp only
  go_wp2_with fail
  refine (O.out 1 (behL p ((p.told : Int) - 1)) _ _ SU.out).mono ?_
  rintro e w2 h
  have HC := hide (h.back b1.out)
  obtain ⟨_, h1 | ⟨b2, xs, rfl, h4, h5⟩⟩ := id h
  · cases h1.1
  clear h h4 h5
  try dsimp only
  go_wp2_with fail
  go_ret
  exact HC.out

set_option maxRecDepth 100000 in
set_option maxHeartbeats 2000000 in
theorem more_any (v : Value) (p : PartL) (w : World) (hA : ∀ b, w.heap.size ≤ b → A b) (hv : PartV A w v p) (hp : PShort p) :
    Calls Tryz.prog 162 #[v] w (CompsP A w (moreL p)) := by
  have hv0 := hide hv
  have WI := hide (fun (k : Int) W (hW : Below w.heap.size w W) => withinP_any v p k W (fun b hb => hA b (Nat.le_trans hW.size hb)) (hv.below hW) hp)
  have BE := hide (fun (k : Int) W (hW : Below w.heap.size w W) => behind_any v p k W (fun b hb => hA b (Nat.le_trans hW.size hb)) (hv.below hW) hp)
  obtain ⟨vp, rfl, t1, c1, a1, n1, k1, rfl⟩ := hv
  have SB := hide (fun W (hW : Below w.heap.size w W) => (⟨_, _, rfl, t1.below hW, txt_nil W, c1, capZ (txt_nil W)⟩ : SemV A W (.agg #[.string (ofL p.maj), .string (ofL p.min), .string (ofL p.pat), .slice a1 n1 k1, .slice none 0 0]) (begL p)))
  have O := hide (fun (op : Int) x u W (h : SemV A W u x) => one_any op u x W h)
  have NO := hide (fun W (hW : Below w.heap.size w W) => none_any W (fun b hb => hA b (Nat.le_trans hW.size hb)))
  have HA := hide hA
  clear hA
  have hle := hp.t
  have PS := hide hp
  clear t1 c1 hv0 hp
  unfold partW at WI BE ⊢
  have b0 := hide ((Below.refl _ w).alloc (Nat.le_refl _) (.cells #[.string (ofL p.maj), .string (ofL p.min), .string (ofL p.pat), .slice a1 n1 k1, .slice none 0 0, .int .i64 (p.told : Int)] 54))
  by_cases h0 : p.told = 0
  · have e0 : ((p.told : Int) == 0) = true := by simp; omega
    have HP : moreL p = _ := if_pos h0
    rw [HP]
    clear HP h0
    go_enter Tryz.func162, Tryz.ntmps162
    go_wp2_with fail
    generalize w.alloc _ = W0 at *
    refine (NO.out _ b0.out).mono ?_
    rintro e w2 h
    have HC := hide (h.back b0.out)
    obtain ⟨_, h1 | ⟨b2, xs, rfl, h4, h5⟩⟩ := id h
    · cases h1.1
    clear h h4 h5
    try dsimp only
    go_wp2_with fail
    go_ret
    exact HC.out
  have e0 : ((p.told : Int) == 0) = false := by simp; omega
  by_cases h3 : p.told = 3
  · have e3 : ((p.told : Int) == 3) = true := by simp; omega
    have HP : moreL p = _ := (if_neg h0).trans (if_pos h3)
    rw [HP]
    clear HP h0 h3
    go_enter Tryz.func162, Tryz.ntmps162
    go_wp2_with fail
    generalize w.alloc _ = W0 at *
    refine (O.out 3 (begL p) _ _ (SB.out _ b0.out)).mono ?_
    rintro e w2 h
    have HC := hide (h.back b0.out)
    obtain ⟨_, h1 | ⟨b2, xs, rfl, h4, h5⟩⟩ := id h
    · cases h1.1
    clear h h4 h5
    try dsimp only
    go_wp2_with fail
    go_ret
    exact HC.out
  have e3 : ((p.told : Int) == 3) = false := by simp; omega
  have HP : moreL p = _ := (if_neg h0).trans (if_neg h3)
  rw [HP]
  clear HP h0 h3
  go_enter Tryz.func162, Tryz.ntmps162
  go_wp2_with fail
  generalize w.alloc _ = W0 at *
  refine (next_semv _ p ((p.told : Int) - 1) _ (SB.out _ b0.out) PS.out).mono ?_
  rintro e w1 ⟨hb1, u, rfl, hu⟩
  obtain ⟨q1, q2, rfl, s1, s2, s3, s4⟩ := hu
  obtain ⟨z1, y1, rfl, _⟩ := id s1
  obtain ⟨z2, y2, rfl, _⟩ := id s2
  have SU := hide (⟨_, _, rfl, s1, s2, s3, s4⟩ : SemV A w1 _ _)
  have b1 := hide (b0.out.trans (hb1.mono b0.out.size))
  clear s1 s2 s3 s4 hb1
  try dsimp only
  go_wp2_with fail
  refine (O.out 4 (nextW (begL p) ((p.told : Int) - 1)) _ _ SU.out).mono ?_
  rintro e w2 h
  have HC := hide (h.back b1.out)
  obtain ⟨_, h1 | ⟨b2, xs, rfl, h4, h5⟩⟩ := id h
  · cases h1.1
  clear h h4 h5
  try dsimp only
  go_wp2_with fail
  go_ret
  exact HC.out

set_option maxRecDepth 100000 in
set_option maxHeartbeats 2000000 in
theorem from_any (v : Value) (p : PartL) (w : World) (hA : ∀ b, w.heap.size ≤ b → A b) (hv : PartV A w v p) (hp : PShort p) :
    Calls Tryz.prog 85 #[v] w (CompsP A w (fromL p)) := by
  have hv0 := hide hv
  have WI := hide (fun (k : Int) W (hW : Below w.heap.size w W) => withinP_any v p k W (fun b hb => hA b (Nat.le_trans hW.size hb)) (hv.below hW) hp)
  have BE := hide (fun (k : Int) W (hW : Below w.heap.size w W) => behind_any v p k W (fun b hb => hA b (Nat.le_trans hW.size hb)) (hv.below hW) hp)
  obtain ⟨vp, rfl, t1, c1, a1, n1, k1, rfl⟩ := hv
  have SB := hide (fun W (hW : Below w.heap.size w W) => (⟨_, _, rfl, t1.below hW, txt_nil W, c1, capZ (txt_nil W)⟩ : SemV A W (.agg #[.string (ofL p.maj), .string (ofL p.min), .string (ofL p.pat), .slice a1 n1 k1, .slice none 0 0]) (begL p)))
  have O := hide (fun (op : Int) x u W (h : SemV A W u x) => one_any op u x W h)
  have NO := hide (fun W (hW : Below w.heap.size w W) => none_any W (fun b hb => hA b (Nat.le_trans hW.size hb)))
  have HA := hide hA
  clear hA
  have hle := hp.t
  have PS := hide hp
  clear t1 c1 hv0 hp
  unfold partW at WI BE ⊢
  have b0 := hide ((Below.refl _ w).alloc (Nat.le_refl _) (.cells #[.string (ofL p.maj), .string (ofL p.min), .string (ofL p.pat), .slice a1 n1 k1, .slice none 0 0, .int .i64 (p.told : Int)] 54))
  by_cases h0 : p.told = 0
  · have e0 : ((p.told : Int) == 0) = true := by simp; omega
    have HP : fromL p = _ := if_pos h0
    rw [HP]
    clear HP h0
    go_enter Tryz.func85, Tryz.ntmps85
    go_wp2_with fail
    go_ret
    exact ⟨b0.out, .inl ⟨rfl, rfl⟩⟩
  have e0 : ((p.told : Int) == 0) = false := by simp; omega
  have HP : fromL p = _ := if_neg h0
  rw [HP]
  clear HP h0
  go_enter Tryz.func85, Tryz.ntmps85
  go_wp2_with fail
  generalize w.alloc _ = W0 at *
  refine (O.out 4 (begL p) _ _ (SB.out _ b0.out)).mono ?_
  rintro e w2 h
  have HC := hide (h.back b0.out)
  obtain ⟨_, h1 | ⟨b2, xs, rfl, h4, h5⟩⟩ := id h
  · cases h1.1
  clear h h4 h5
  try dsimp only
  go_wp2_with fail
  go_ret
  exact HC.out

set_option maxRecDepth 100000 in
set_option maxHeartbeats 2000000 in
theorem tilde_any (v : Value) (p : PartL) (w : World) (hA : ∀ b, w.heap.size ≤ b → A b) (hv : PartV A w v p) (hp : PShort p) :
    Calls Tryz.prog 163 #[v] w (CompsP A w (tildeL p)) := by
  have hv0 := hide hv
  have WI := hide (fun (k : Int) W (hW : Below w.heap.size w W) => withinP_any v p k W (fun b hb => hA b (Nat.le_trans hW.size hb)) (hv.below hW) hp)
  have BE := hide (fun (k : Int) W (hW : Below w.heap.size w W) => behind_any v p k W (fun b hb => hA b (Nat.le_trans hW.size hb)) (hv.below hW) hp)
  obtain ⟨vp, rfl, t1, c1, a1, n1, k1, rfl⟩ := hv
  have SB := hide (fun W (hW : Below w.heap.size w W) => (⟨_, _, rfl, t1.below hW, txt_nil W, c1, capZ (txt_nil W)⟩ : SemV A W (.agg #[.string (ofL p.maj), .string (ofL p.min), .string (ofL p.pat), .slice a1 n1 k1, .slice none 0 0]) (begL p)))
  have O := hide (fun (op : Int) x u W (h : SemV A W u x) => one_any op u x W h)
  have NO := hide (fun W (hW : Below w.heap.size w W) => none_any W (fun b hb => hA b (Nat.le_trans hW.size hb)))
  have HA := hide hA
  clear hA
  have hle := hp.t
  have PS := hide hp
  clear t1 c1 hv0 hp
  unfold partW at WI BE ⊢
  have b0 := hide ((Below.refl _ w).alloc (Nat.le_refl _) (.cells #[.string (ofL p.maj), .string (ofL p.min), .string (ofL p.pat), .slice a1 n1 k1, .slice none 0 0, .int .i64 (p.told : Int)] 54))
  by_cases h0 : p.told = 0
  · have e0 : ((p.told : Int) == 0) = true := by simp; omega
    have HP : tildeL p = _ := if_pos h0
    rw [HP]
    clear HP h0
    go_enter Tryz.func163, Tryz.ntmps163
    go_wp2_with fail
    go_ret
    exact ⟨b0.out, .inl ⟨rfl, rfl⟩⟩
  have e0 : ((p.told : Int) == 0) = false := by simp; omega
  have HP : tildeL p = _ := if_neg h0
  rw [HP]
  clear HP h0
  go_enter Tryz.func163, Tryz.ntmps163
  go_wp2_with fail
  generalize w.alloc _ = W0 at *
  refine (WI.out (min ((p.told : Int) - 1) 1) _ b0.out).mono ?_
  rintro e w2 h
  have HC := hide (h.back b0.out)
  obtain ⟨_, h1 | ⟨b2, xs, rfl, h4, h5⟩⟩ := id h
  · cases h1.1
  clear h h4 h5
  try dsimp only
  go_wp2_with fail
  go_ret
  exact HC.out

set_option maxRecDepth 100000 in
set_option maxHeartbeats 2000000 in
theorem caret_any (v : Value) (p : PartL) (w : World) (hA : ∀ b, w.heap.size ≤ b → A b) (hv : PartV A w v p) (hp : PShort p) :
    Calls Tryz.prog 164 #[v] w (CompsP A w (caretL p)) := by
  have hv0 := hide hv
  have WI := hide (fun (k : Int) W (hW : Below w.heap.size w W) => withinP_any v p k W (fun b hb => hA b (Nat.le_trans hW.size hb)) (hv.below hW) hp)
  have BE := hide (fun (k : Int) W (hW : Below w.heap.size w W) => behind_any v p k W (fun b hb => hA b (Nat.le_trans hW.size hb)) (hv.below hW) hp)
  obtain ⟨vp, rfl, t1, c1, a1, n1, k1, rfl⟩ := hv
  have SB := hide (fun W (hW : Below w.heap.size w W) => (⟨_, _, rfl, t1.below hW, txt_nil W, c1, capZ (txt_nil W)⟩ : SemV A W (.agg #[.string (ofL p.maj), .string (ofL p.min), .string (ofL p.pat), .slice a1 n1 k1, .slice none 0 0]) (begL p)))
  have O := hide (fun (op : Int) x u W (h : SemV A W u x) => one_any op u x W h)
  have NO := hide (fun W (hW : Below w.heap.size w W) => none_any W (fun b hb => hA b (Nat.le_trans hW.size hb)))
  have HA := hide hA
  clear hA
  have hle := hp.t
  have PS := hide hp
  clear t1 c1 hv0 hp
  unfold partW at WI BE ⊢
  have b0 := hide ((Below.refl _ w).alloc (Nat.le_refl _) (.cells #[.string (ofL p.maj), .string (ofL p.min), .string (ofL p.pat), .slice a1 n1 k1, .slice none 0 0, .int .i64 (p.told : Int)] 54))
  by_cases h0 : p.told = 0
  · have e0 : ((p.told : Int) == 0) = true := by simp; omega
    have HP : caretL p = _ := if_pos h0
    rw [HP]
    clear HP h0
    go_enter Tryz.func164, Tryz.ntmps164
    go_wp2_with fail
    go_ret
    exact ⟨b0.out, .inl ⟨rfl, rfl⟩⟩
  have e0 : ((p.told : Int) == 0) = false := by simp; omega
  by_cases h1 : p.told = 1
  · have e1 : ((p.told : Int) == 1) = true := by simp; omega
    have HP : caretL p = _ := (if_neg h0).trans (if_pos (.inl h1))
    rw [HP]
    clear HP h0 h1
    go_enter Tryz.func164, Tryz.ntmps164
    go_wp2_with fail
    generalize w.alloc _ = W0 at *
    refine (WI.out 0 _ b0.out).mono ?_
    rintro e w2 h
    have HC := hide (h.back b0.out)
    obtain ⟨_, h1 | ⟨b2, xs, rfl, h4, h5⟩⟩ := id h
    · cases h1.1
    clear h h4 h5
    try dsimp only
    go_wp2_with fail
    go_ret
    exact HC.out
  have e1 : ((p.told : Int) == 1) = false := by simp; omega
  by_cases hm : p.maj = [48]
  · have m0 := str_eq hm
    by_cases h2 : p.told = 2
    · have e2 : ((p.told : Int) == 2) = true := by simp; omega
      have HP : caretL p = _ := (if_neg h0).trans ((if_neg (fun h => h.elim h1 (fun x => x hm))).trans (if_pos (.inl h2)))
      rw [HP]
      clear HP h0 h1 h2 hm
      go_enter Tryz.func164, Tryz.ntmps164
      go_wp2_with fail
      generalize w.alloc _ = W0 at *
      refine (WI.out 1 _ b0.out).mono ?_
      rintro e w2 h
      have HC := hide (h.back b0.out)
      obtain ⟨_, h1 | ⟨b2, xs, rfl, h4, h5⟩⟩ := id h
      · cases h1.1
      clear h h4 h5
      try dsimp only
      go_wp2_with fail
      go_ret
      exact HC.out
    have e2 : ((p.told : Int) == 2) = false := by simp; omega
    by_cases hn : p.min = [48]
    · have n0 := str_eq hn
      have HP : caretL p = _ := (if_neg h0).trans ((if_neg (fun h => h.elim h1 (fun x => x hm))).trans (if_neg (fun h => h.elim h2 (fun x => x hn))))
      rw [HP]
      clear HP h0 h1 h2 hm hn
      go_enter Tryz.func164, Tryz.ntmps164
      go_wp2_with fail
      generalize w.alloc _ = W0 at *
      refine (WI.out 2 _ b0.out).mono ?_
      rintro e w2 h
      have HC := hide (h.back b0.out)
      obtain ⟨_, h1 | ⟨b2, xs, rfl, h4, h5⟩⟩ := id h
      · cases h1.1
      clear h h4 h5
      try dsimp only
      go_wp2_with fail
      go_ret
      exact HC.out
    have n0 := str_ne hn
    have HP : caretL p = _ := (if_neg h0).trans ((if_neg (fun h => h.elim h1 (fun x => x hm))).trans (if_pos (.inr hn)))
    rw [HP]
    clear HP h0 h1 h2 hm hn
    go_enter Tryz.func164, Tryz.ntmps164
    go_wp2_with fail
    generalize w.alloc _ = W0 at *
    refine (WI.out 1 _ b0.out).mono ?_
    rintro e w2 h
    have HC := hide (h.back b0.out)
    obtain ⟨_, h1 | ⟨b2, xs, rfl, h4, h5⟩⟩ := id h
    · cases h1.1
    clear h h4 h5
    try dsimp only
    go_wp2_with fail
    go_ret
    exact HC.out
  have m0 := str_ne hm
  have HP : caretL p = _ := (if_neg h0).trans (if_pos (.inr hm))
  rw [HP]
  clear HP h0 h1 hm
  go_enter Tryz.func164, Tryz.ntmps164
  go_wp2_with fail
  generalize w.alloc _ = W0 at *
  refine (WI.out 0 _ b0.out).mono ?_
  rintro e w2 h
  have HC := hide (h.back b0.out)
  obtain ⟨_, h1 | ⟨b2, xs, rfl, h4, h5⟩⟩ := id h
  · cases h1.1
  clear h h4 h5
  try dsimp only
  go_wp2_with fail
  go_ret
  exact HC.out

end Go.Proofs.YtaflflelcdcanaaGreat
