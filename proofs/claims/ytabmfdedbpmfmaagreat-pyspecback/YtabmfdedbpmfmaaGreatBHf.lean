/-
  Versions with their texts: results in two blocks. · Walks: which versions may stand behind an operator; a version with its text. · Plain: clauses that are good end behind where they begin; the row of clauses.
-/
import Derived.Test.YtabmfdedbpmfmaaGreatBPb
import Derived.Test.YtabmfdedbpmfmaaGreatBGc
namespace Go.Proofs.YtabmfdedbpmfmaaGreat
open Go.RowKit Go.Shelf
set_option linter.unusedVariables false

def putL (W : World) (B : Nat) : Nat → List Value → World
  | _, [] => W
  | o, v :: vs => putL (W.setCell ⟨B, o, none⟩ v) B (o + 1) vs
def fillA : Array Value → Nat → List Value → Array Value
  | cs, _, [] => cs
  | cs, o, v :: vs => fillA (cs.setIfInBounds o v) (o + 1) vs
theorem putL_turn : ∀ (vs : List Value) (W : World) (B o : Nat), Turn B W (putL W B o vs)
  | [], W, B, o => Turn.refl B W
  | v :: vs, W, B, o => (Turn.set B o W v).trans (putL_turn vs _ B (o + 1))
theorem putL_heap : ∀ (vs : List Value) (W : World) (B o : Nat) (cs : Array Value) (t : TypeId), W.heap[B]? = some (.cells cs t (0, 0)) → (putL W B o vs).heap[B]? = some (.cells (fillA cs o vs) t (0, 0))
  | [], W, B, o, cs, t, h => h
  | v :: vs, W, B, o, cs, t, h => putL_heap vs _ B (o + 1) _ t (set_lies o v h)
theorem putL_other (vs : List Value) (W : World) (B o j : Nat) (hj : j < W.heap.size) (hne : j ≠ B) : (putL W B o vs).heap[j]? = W.heap[j]? := (putL_turn vs W B o).block j hj hne
theorem seen11v {W : World} {B : Nat} {t : TypeId} {a0 a1 a2 a3 a4 a5 a6 a7 a8 a9 a10 : Value} (h : W.heap[B]? = some (.cells #[a0, a1, a2, a3, a4, a5, a6, a7, a8, a9, a10] t (0, 0))) :
    W.cell? ⟨B, 0, none⟩ = some a0 ∧ W.cell? ⟨B, 1, none⟩ = some a1 ∧ W.cell? ⟨B, 2, none⟩ = some a2 ∧ W.cell? ⟨B, 3, none⟩ = some a3 ∧ W.cell? ⟨B, 4, none⟩ = some a4 ∧ W.cell? ⟨B, 5, none⟩ = some a5 ∧ W.cell? ⟨B, 6, none⟩ = some a6 ∧ W.cell? ⟨B, 7, none⟩ = some a7 ∧ W.cell? ⟨B, 8, none⟩ = some a8 ∧ W.cell? ⟨B, 9, none⟩ = some a9 ∧ W.cell? ⟨B, 10, none⟩ = some a10 ∧ W.frozen? ⟨B, 0, none⟩ = false ∧ W.frozen? ⟨B, 1, none⟩ = false ∧ W.frozen? ⟨B, 2, none⟩ = false ∧ W.frozen? ⟨B, 3, none⟩ = false ∧ W.frozen? ⟨B, 4, none⟩ = false ∧ W.frozen? ⟨B, 5, none⟩ = false ∧ W.frozen? ⟨B, 6, none⟩ = false ∧ W.frozen? ⟨B, 7, none⟩ = false ∧ W.frozen? ⟨B, 8, none⟩ = false ∧ W.frozen? ⟨B, 9, none⟩ = false ∧ W.frozen? ⟨B, 10, none⟩ = false :=
  ⟨cell_at 0 h rfl, cell_at 1 h rfl, cell_at 2 h rfl, cell_at 3 h rfl, cell_at 4 h rfl, cell_at 5 h rfl, cell_at 6 h rfl, cell_at 7 h rfl, cell_at 8 h rfl, cell_at 9 h rfl, cell_at 10 h rfl, one_free 0 h, one_free 1 h, one_free 2 h, one_free 3 h, one_free 4 h, one_free 5 h, one_free 6 h, one_free 7 h, one_free 8 h, one_free 9 h, one_free 10 h⟩
theorem seen2v {W : World} {B : Nat} {t : TypeId} {a0 a1 : Value} (h : W.heap[B]? = some (.cells #[a0, a1] t (0, 0))) :
    W.cell? ⟨B, 0, none⟩ = some a0 ∧ W.cell? ⟨B, 1, none⟩ = some a1 ∧ W.frozen? ⟨B, 0, none⟩ = false ∧ W.frozen? ⟨B, 1, none⟩ = false :=
  ⟨cell_at 0 h rfl, cell_at 1 h rfl, one_free 0 h, one_free 1 h⟩

def FreshC (n : Nat) (v : Value) : Prop := ∀ a i c, v = .slice (some a) i c → n ≤ a.block ∧ i ≤ c
theorem FreshC.old {n : Nat} {v : Value} (h : FreshC n v) : Fresh n v := fun a i c e => (h a i c e).1
theorem FreshC.mono {n m : Nat} {v : Value} (h : FreshC n v) (hm : m ≤ n) : FreshC m v := fun a i c e => ⟨Nat.le_trans hm (h a i c e).1, (h a i c e).2⟩
theorem freshC_row {W : World} {base : Nat} {v : Value} {k : Nat} {xs : List Value} (h : W.ownsRow base 9 1 v k xs) : FreshC base v := fun a i c e => ⟨fresh_row h a i c e, cap_row h _ _ _ e⟩
theorem txt_youngC {n : Nat} {W W' : World} {v : Value} {ts : List (List UInt8)} (h : Txt W v ts) (hf : FreshC n v) (hk : ∀ j, n ≤ j → j < W.heap.size → W'.heap[j]? = W.heap[j]?) (hs : W.heap.size ≤ W'.heap.size) : Txt W' v ts := txt_young h hf.old hk hs
theorem Parse_newC (s : ByteArray) (w : World) (h : okP s.data.toList = true) :
    Calls Tryz.prog 67 #[.string s] w fun e w' => ∃ vr vl, e = .returned (.tuple #[pepV (ofL (pepOf (lowL s.data.toList)).ep) vr (pepOf (lowL s.data.toList)).c (ofL (pepOf (lowL s.data.toList)).n) (pepOf (lowL s.data.toList)).b (ofL (pepOf (lowL s.data.toList)).m) (pepOf (lowL s.data.toList)).d (ofL (pepOf (lowL s.data.toList)).k) vl, .agg #[.int .i64 0, .int .i64 0]]) ∧
      Txt w' vr (pepOf (lowL s.data.toList)).rel ∧ Txt w' vl (pepOf (lowL s.data.toList)).loc ∧ FreshC w.heap.size vr ∧ FreshC w.heap.size vl ∧ Below w.heap.size w w' := by
  unfold okP at h
  simp only [Bool.and_eq_true, decide_eq_true_eq] at h
  have hl := h.1
  rw [len_data] at hl
  refine (Parse_any s w (by unfold maxLen; omega)).mono ?_
  rintro e w' ⟨hb, hp⟩
  rw [if_neg (by omega), if_pos h.2] at hp
  obtain ⟨v, rfl, ⟨vr, vl, rfl, h1, h2⟩⟩ := hp
  exact ⟨vr, vl, rfl, txt_vals h1, txt_vals h2, freshC_row h1, freshC_row h2, hb⟩
structure RB (w W : World) (v f : Array Value) : Prop where
  ver : W.heap[w.heap.size]? = some (.cells v 59 (0, 0))
  flt : W.heap[w.heap.size + 1]? = some (.cells f 25 (0, 0))
  bel : Below w.heap.size w W
theorem RB.lt {w W : World} {v f : Array Value} (h : RB w W v f) : w.heap.size + 1 < W.heap.size := (Array.getElem?_eq_some_iff.1 h.flt).1
theorem RB.below {w W W' : World} {v f : Array Value} (h : RB w W v f) (hb : Below W.heap.size W W') : RB w W' v f :=
  ⟨(hb.block _ (by have := h.lt; omega)).trans h.ver, (hb.block _ h.lt).trans h.flt, h.bel.trans (hb.mono (by have := h.lt; omega))⟩
theorem two_new (W : World) (c1 c2 : Array Value) (t1 t2 : TypeId) : ∃ V, (W.alloc (.cells c1 t1)).alloc (.cells c2 t2) = V ∧ V.heap[W.heap.size]? = some (.cells c1 t1 (0, 0)) ∧ V.heap[W.heap.size + 1]? = some (.cells c2 t2 (0, 0)) ∧ Below W.heap.size W V ∧ V.heap.size = W.heap.size + 2 := by
  refine ⟨_, rfl, ?_, ?_, ((Below.refl _ W).alloc (Nat.le_refl _) _).alloc (by simp) _, by simp⟩
  · exact (Below.heap_alloc _ _ _ (by simp)).trans (World.alloc_heap_new W _)
  · have := World.alloc_heap_new (W.alloc (.cells c1 t1)) (.cells c2 t2)
    rwa [World.size_alloc] at this
theorem RB.start (w : World) : RB w ((w.alloc (.cells #[.string ⟨#[]⟩, .slice none 0 0, .int .u8 0, .string ⟨#[]⟩, .bool false, .string ⟨#[]⟩, .bool false, .string ⟨#[]⟩, .slice none 0 0, .string ⟨#[]⟩, .bool false] 59)).alloc (.cells #[.int .i64 0, .int .i64 0] 25)) #[.string ⟨#[]⟩, .slice none 0 0, .int .u8 0, .string ⟨#[]⟩, .bool false, .string ⟨#[]⟩, .bool false, .string ⟨#[]⟩, .slice none 0 0, .string ⟨#[]⟩, .bool false] #[.int .i64 0, .int .i64 0] := by
  obtain ⟨V, hV, h1, h2, h3, _⟩ := two_new w #[.string ⟨#[]⟩, .slice none 0 0, .int .u8 0, .string ⟨#[]⟩, .bool false, .string ⟨#[]⟩, .bool false, .string ⟨#[]⟩, .slice none 0 0, .string ⟨#[]⟩, .bool false] #[.int .i64 0, .int .i64 0] 59 25
  rw [hV]
  exact ⟨h1, h2, h3⟩
theorem RB.put {w W : World} {v f : Array Value} (h : RB w W v f) (vs fs : List Value) : RB w (putL (putL W w.heap.size 0 vs) (w.heap.size + 1) 0 fs) (fillA v 0 vs) (fillA f 0 fs) := by
  have h1 := putL_heap vs W w.heap.size 0 v 59 h.ver
  have t1 := putL_turn vs W w.heap.size 0
  have h2 := (t1.block _ h.lt (by omega)).trans h.flt
  have h3 := putL_heap fs (putL W w.heap.size 0 vs) (w.heap.size + 1) 0 f 25 h2
  have t2 := putL_turn fs (putL W w.heap.size 0 vs) (w.heap.size + 1) 0
  refine ⟨(t2.block _ (Array.getElem?_eq_some_iff.1 h1).1 (by omega)).trans h1, h3, ?_⟩
  exact h.bel.trans ((t1.below (Nat.le_refl _) h.bel.size).trans (t2.below (by omega) (Nat.le_trans h.bel.size t1.size)))
theorem RB.keep {w W : World} {v f : Array Value} (h : RB w W v f) (vs fs : List Value) (j : Nat) (hj : j < W.heap.size) (hn : w.heap.size + 2 ≤ j) : (putL (putL W w.heap.size 0 vs) (w.heap.size + 1) 0 fs).heap[j]? = W.heap[j]? := by
  rw [putL_other fs _ _ _ _ (Nat.lt_of_lt_of_le hj (putL_turn vs W w.heap.size 0).size) (by omega), putL_other vs _ _ _ _ hj (by omega)]
theorem putL_size (vs : List Value) (W : World) (B o : Nat) : W.heap.size ≤ (putL W B o vs).heap.size := (putL_turn vs W B o).size
theorem fill11 (z0 z1 z2 z3 z4 z5 z6 z7 z8 z9 z10 a0 a1 a2 a3 a4 a5 a6 a7 a8 a9 a10 : Value) : fillA #[z0, z1, z2, z3, z4, z5, z6, z7, z8, z9, z10] 0 [a0, a1, a2, a3, a4, a5, a6, a7, a8, a9, a10] = #[a0, a1, a2, a3, a4, a5, a6, a7, a8, a9, a10] := by simp [fillA]
theorem fill2 (g0 g1 f0 f1 : Value) : fillA #[g0, g1] 0 [f0, f1] = #[f0, f1] := by simp [fillA]
theorem RB.put11 {w W : World} {z0 z1 z2 z3 z4 z5 z6 z7 z8 z9 z10 g0 g1 : Value} (h : RB w W #[z0, z1, z2, z3, z4, z5, z6, z7, z8, z9, z10] #[g0, g1]) (a0 a1 a2 a3 a4 a5 a6 a7 a8 a9 a10 f0 f1 : Value) : RB w (putL (putL W w.heap.size 0 [a0, a1, a2, a3, a4, a5, a6, a7, a8, a9, a10]) (w.heap.size + 1) 0 [f0, f1]) #[a0, a1, a2, a3, a4, a5, a6, a7, a8, a9, a10] #[f0, f1] := by
  have k := h.put [a0, a1, a2, a3, a4, a5, a6, a7, a8, a9, a10] [f0, f1]
  rwa [fill11, fill2] at k
theorem RB.txt {w W : World} {v f : Array Value} (h : RB w W v f) (vs fs : List Value) {u : Value} {ts : List (List UInt8)} (ht : Txt W u ts) (hf : FreshC (w.heap.size + 2) u) : Txt (putL (putL W w.heap.size 0 vs) (w.heap.size + 1) 0 fs) u ts :=
  txt_youngC ht hf (fun j h1 h2 => h.keep vs fs j h2 h1) (Nat.le_trans (putL_size vs _ _ _) (putL_size fs _ _ _))
theorem RB.put13 {w W : World} {z0 z1 z2 z3 z4 z5 z6 z7 z8 z9 z10 g0 g1 : Value} (h : RB w W #[z0, z1, z2, z3, z4, z5, z6, z7, z8, z9, z10] #[g0, g1]) (a0 a1 a2 a3 a4 a5 a6 a7 a8 a9 a10 f0 f1 : Value) : ∃ W', W' = (((((((((((((W.setCell ⟨w.heap.size, 0, none⟩ a0).setCell ⟨w.heap.size, 1, none⟩ a1).setCell ⟨w.heap.size, 2, none⟩ a2).setCell ⟨w.heap.size, 3, none⟩ a3).setCell ⟨w.heap.size, 4, none⟩ a4).setCell ⟨w.heap.size, 5, none⟩ a5).setCell ⟨w.heap.size, 6, none⟩ a6).setCell ⟨w.heap.size, 7, none⟩ a7).setCell ⟨w.heap.size, 8, none⟩ a8).setCell ⟨w.heap.size, 9, none⟩ a9).setCell ⟨w.heap.size, 10, none⟩ a10).setCell ⟨w.heap.size + 1, 0, none⟩ f0).setCell ⟨w.heap.size + 1, 1, none⟩ f1) ∧ RB w W' #[a0, a1, a2, a3, a4, a5, a6, a7, a8, a9, a10] #[f0, f1] ∧ ∀ (u : Value) (ts : List (List UInt8)), Txt W u ts → FreshC (w.heap.size + 2) u → Txt W' u ts :=
  ⟨putL (putL W w.heap.size 0 [a0, a1, a2, a3, a4, a5, a6, a7, a8, a9, a10]) (w.heap.size + 1) 0 [f0, f1], rfl, h.put11 a0 a1 a2 a3 a4 a5 a6 a7 a8 a9 a10 f0 f1, fun u ts h1 h2 => h.txt _ _ h1 h2⟩
def verV (x : PepL) (vr vl : Value) (t : ByteArray) (st : Bool) : Array Value := #[.string (ofL x.ep), vr, .int .u8 x.c, .string (ofL x.n), .bool x.b, .string (ofL x.m), .bool x.d, .string (ofL x.k), vl, .string t, .bool st]
def zerV (st : Bool) : Array Value := #[.string ⟨#[]⟩, .slice none 0 0, .int .u8 0, .string ⟨#[]⟩, .bool false, .string ⟨#[]⟩, .bool false, .string ⟨#[]⟩, .slice none 0 0, .string ⟨#[]⟩, .bool st]
def WdPost (r : Wd) (w : World) (e : Ending) (w' : World) : Prop :=
  Below w.heap.size w w' ∧ match r with
  | .bad er p => er ≠ 0 ∧ ∃ st, e = .returned (.tuple #[.agg (zerV st), .agg #[.int .i64 er, .int .i64 (p : Int)]])
  | .ok x t st => ∃ vr vl, e = .returned (.tuple #[.agg (verV x vr vl (ofL t) st), .agg #[.int .i64 0, .int .i64 0]]) ∧ Txt w' vr x.rel ∧ Txt w' vl x.loc ∧ FreshC w.heap.size vr ∧ FreshC w.heap.size vl
theorem fin36 {R : Ending → World → Prop} (tmps : Array Value) (W : World) (B C : Nat) (e n m k t : ByteArray) (vr vl : Value) (c : Int) (b d z : Bool) (er p : Int) (op : ∃ a i c, vr = .slice a i c) (ob : ∃ a i c, vl = .slice a i c)
    (h2 : tmps.getD 2 undef = .pointer (some ⟨B, 0, none⟩)) (h3 : tmps.getD 3 undef = .pointer (some ⟨C, 0, none⟩)) (e1 : W.heap[B]? = some (.cells #[.string e, vr, .int .u8 c, .string n, .bool b, .string m, .bool d, .string k, vl, .string t, .bool z] 59 (0, 0))) (e2 : W.heap[C]? = some (.cells #[.int .i64 er, .int .i64 p] 25 (0, 0)))
    (hR : R (.returned (.tuple #[.agg #[.string e, vr, .int .u8 c, .string n, .bool b, .string m, .bool d, .string k, vl, .string t, .bool z], .agg #[.int .i64 er, .int .i64 p]])) W) :
    bodyPost Tryz.prog Tryz.f36 R .ret { tmps := tmps, defers := [] } W := by
  obtain ⟨a1, i1, c1, rfl⟩ := op
  obtain ⟨a2, i2, c2, rfl⟩ := ob
  obtain ⟨r0, r1, r2, r3, r4, r5, r6, r7, r8, r9, r10, _⟩ := seen11v e1
  obtain ⟨q0, q1, _⟩ := seen2v e2
  rw [Array.getD_eq_getD_getElem?] at h2 h3
  refine ⟨rfl, _, ?_, hR⟩
  simp [results, Tryz.results36, go_sem, h2, h3, r0, r1, r2, r3, r4, r5, r6, r7, r8, r9, r10, q0, q1]
  try rfl
theorem fin154 {R : Ending → World → Prop} (tmps : Array Value) (W : World) (B C : Nat) (e n m k t : ByteArray) (vr vl : Value) (c : Int) (b d z : Bool) (er p : Int) (op : ∃ a i c, vr = .slice a i c) (ob : ∃ a i c, vl = .slice a i c)
    (h2 : tmps.getD 2 undef = .pointer (some ⟨B, 0, none⟩)) (h3 : tmps.getD 3 undef = .pointer (some ⟨C, 0, none⟩)) (e1 : W.heap[B]? = some (.cells #[.string e, vr, .int .u8 c, .string n, .bool b, .string m, .bool d, .string k, vl, .string t, .bool z] 59 (0, 0))) (e2 : W.heap[C]? = some (.cells #[.int .i64 er, .int .i64 p] 25 (0, 0)))
    (hR : R (.returned (.tuple #[.agg #[.string e, vr, .int .u8 c, .string n, .bool b, .string m, .bool d, .string k, vl, .string t, .bool z], .agg #[.int .i64 er, .int .i64 p]])) W) :
    bodyPost Tryz.prog Tryz.f154 R .ret { tmps := tmps, defers := [] } W := by
  obtain ⟨a1, i1, c1, rfl⟩ := op
  obtain ⟨a2, i2, c2, rfl⟩ := ob
  obtain ⟨r0, r1, r2, r3, r4, r5, r6, r7, r8, r9, r10, _⟩ := seen11v e1
  obtain ⟨q0, q1, _⟩ := seen2v e2
  rw [Array.getD_eq_getD_getElem?] at h2 h3
  refine ⟨rfl, _, ?_, hR⟩
  simp [results, Tryz.results154, go_sem, h2, h3, r0, r1, r2, r3, r4, r5, r6, r7, r8, r9, r10, q0, q1]
  try rfl
theorem fin149 {R : Ending → World → Prop} (tmps : Array Value) (W : World) (B C : Nat) (e n m k t : ByteArray) (vr vl : Value) (c : Int) (b d z : Bool) (er p : Int) (op : ∃ a i c, vr = .slice a i c) (ob : ∃ a i c, vl = .slice a i c)
    (h2 : tmps.getD 2 undef = .pointer (some ⟨B, 0, none⟩)) (h3 : tmps.getD 3 undef = .pointer (some ⟨C, 0, none⟩)) (e1 : W.heap[B]? = some (.cells #[.string e, vr, .int .u8 c, .string n, .bool b, .string m, .bool d, .string k, vl, .string t, .bool z] 59 (0, 0))) (e2 : W.heap[C]? = some (.cells #[.int .i64 er, .int .i64 p] 25 (0, 0)))
    (hR : R (.returned (.tuple #[.agg #[.string e, vr, .int .u8 c, .string n, .bool b, .string m, .bool d, .string k, vl, .string t, .bool z], .agg #[.int .i64 er, .int .i64 p]])) W) :
    bodyPost Tryz.prog Tryz.f149 R .ret { tmps := tmps, defers := [] } W := by
  obtain ⟨a1, i1, c1, rfl⟩ := op
  obtain ⟨a2, i2, c2, rfl⟩ := ob
  obtain ⟨r0, r1, r2, r3, r4, r5, r6, r7, r8, r9, r10, _⟩ := seen11v e1
  obtain ⟨q0, q1, _⟩ := seen2v e2
  rw [Array.getD_eq_getD_getElem?] at h2 h3
  refine ⟨rfl, _, ?_, hR⟩
  simp [results, Tryz.results149, go_sem, h2, h3, r0, r1, r2, r3, r4, r5, r6, r7, r8, r9, r10, q0, q1]
  try rfl
theorem fin151 {R : Ending → World → Prop} (tmps : Array Value) (W : World) (B C : Nat) (e n m k t : ByteArray) (vr vl : Value) (c : Int) (b d z : Bool) (er p : Int) (op : ∃ a i c, vr = .slice a i c) (ob : ∃ a i c, vl = .slice a i c)
    (h2 : tmps.getD 2 undef = .pointer (some ⟨B, 0, none⟩)) (h3 : tmps.getD 3 undef = .pointer (some ⟨C, 0, none⟩)) (e1 : W.heap[B]? = some (.cells #[.string e, vr, .int .u8 c, .string n, .bool b, .string m, .bool d, .string k, vl, .string t, .bool z] 59 (0, 0))) (e2 : W.heap[C]? = some (.cells #[.int .i64 er, .int .i64 p] 25 (0, 0)))
    (hR : R (.returned (.tuple #[.agg #[.string e, vr, .int .u8 c, .string n, .bool b, .string m, .bool d, .string k, vl, .string t, .bool z], .agg #[.int .i64 er, .int .i64 p]])) W) :
    bodyPost Tryz.prog Tryz.f151 R .ret { tmps := tmps, defers := [] } W := by
  obtain ⟨a1, i1, c1, rfl⟩ := op
  obtain ⟨a2, i2, c2, rfl⟩ := ob
  obtain ⟨r0, r1, r2, r3, r4, r5, r6, r7, r8, r9, r10, _⟩ := seen11v e1
  obtain ⟨q0, q1, _⟩ := seen2v e2
  rw [Array.getD_eq_getD_getElem?] at h2 h3
  refine ⟨rfl, _, ?_, hR⟩
  simp [results, Tryz.results151, go_sem, h2, h3, r0, r1, r2, r3, r4, r5, r6, r7, r8, r9, r10, q0, q1]
  try rfl
theorem fin159 {R : Ending → World → Prop} (tmps : Array Value) (W : World) (B C : Nat) (e n m k t : ByteArray) (vr vl : Value) (c : Int) (b d z : Bool) (er p : Int) (op : ∃ a i c, vr = .slice a i c) (ob : ∃ a i c, vl = .slice a i c)
    (h2 : tmps.getD 2 undef = .pointer (some ⟨B, 0, none⟩)) (h3 : tmps.getD 3 undef = .pointer (some ⟨C, 0, none⟩)) (e1 : W.heap[B]? = some (.cells #[.string e, vr, .int .u8 c, .string n, .bool b, .string m, .bool d, .string k, vl, .string t, .bool z] 59 (0, 0))) (e2 : W.heap[C]? = some (.cells #[.int .i64 er, .int .i64 p] 25 (0, 0)))
    (hR : R (.returned (.tuple #[.agg #[.string e, vr, .int .u8 c, .string n, .bool b, .string m, .bool d, .string k, vl, .string t, .bool z], .agg #[.int .i64 er, .int .i64 p]])) W) :
    bodyPost Tryz.prog Tryz.f159 R .ret { tmps := tmps, defers := [] } W := by
  obtain ⟨a1, i1, c1, rfl⟩ := op
  obtain ⟨a2, i2, c2, rfl⟩ := ob
  obtain ⟨r0, r1, r2, r3, r4, r5, r6, r7, r8, r9, r10, _⟩ := seen11v e1
  obtain ⟨q0, q1, _⟩ := seen2v e2
  rw [Array.getD_eq_getD_getElem?] at h2 h3
  refine ⟨rfl, _, ?_, hR⟩
  simp [results, Tryz.results159, go_sem, h2, h3, r0, r1, r2, r3, r4, r5, r6, r7, r8, r9, r10, q0, q1]
  try rfl
theorem fin168 {R : Ending → World → Prop} (tmps : Array Value) (W : World) (B C : Nat) (e n m k t : ByteArray) (vr vl : Value) (c : Int) (b d z : Bool) (er p : Int) (op : ∃ a i c, vr = .slice a i c) (ob : ∃ a i c, vl = .slice a i c)
    (h2 : tmps.getD 4 undef = .pointer (some ⟨B, 0, none⟩)) (h3 : tmps.getD 5 undef = .pointer (some ⟨C, 0, none⟩)) (e1 : W.heap[B]? = some (.cells #[.string e, vr, .int .u8 c, .string n, .bool b, .string m, .bool d, .string k, vl, .string t, .bool z] 59 (0, 0))) (e2 : W.heap[C]? = some (.cells #[.int .i64 er, .int .i64 p] 25 (0, 0)))
    (hR : R (.returned (.tuple #[.agg #[.string e, vr, .int .u8 c, .string n, .bool b, .string m, .bool d, .string k, vl, .string t, .bool z], .agg #[.int .i64 er, .int .i64 p]])) W) :
    bodyPost Tryz.prog Tryz.f168 R .ret { tmps := tmps, defers := [] } W := by
  obtain ⟨a1, i1, c1, rfl⟩ := op
  obtain ⟨a2, i2, c2, rfl⟩ := ob
  obtain ⟨r0, r1, r2, r3, r4, r5, r6, r7, r8, r9, r10, _⟩ := seen11v e1
  obtain ⟨q0, q1, _⟩ := seen2v e2
  rw [Array.getD_eq_getD_getElem?] at h2 h3
  refine ⟨rfl, _, ?_, hR⟩
  simp [results, Tryz.results168, go_sem, h2, h3, r0, r1, r2, r3, r4, r5, r6, r7, r8, r9, r10, q0, q1]
  try rfl

end Go.Proofs.YtabmfdedbpmfmaaGreat

namespace Go.Proofs.YtabmfdedbpmfmaaGreat
open Go.RowKit Go.Shelf
set_option linter.unusedVariables false

theorem seen9v {W : World} {B : Nat} {t : TypeId} {a0 a1 a2 a3 a4 a5 a6 a7 a8 : Value} (h : W.heap[B]? = some (.cells #[a0, a1, a2, a3, a4, a5, a6, a7, a8] t (0, 0))) :
    W.cell? ⟨B, 0, none⟩ = some a0 ∧ W.cell? ⟨B, 1, none⟩ = some a1 ∧ W.cell? ⟨B, 2, none⟩ = some a2 ∧ W.cell? ⟨B, 3, none⟩ = some a3 ∧ W.cell? ⟨B, 4, none⟩ = some a4 ∧ W.cell? ⟨B, 5, none⟩ = some a5 ∧ W.cell? ⟨B, 6, none⟩ = some a6 ∧ W.cell? ⟨B, 7, none⟩ = some a7 ∧ W.cell? ⟨B, 8, none⟩ = some a8 ∧ W.frozen? ⟨B, 0, none⟩ = false ∧ W.frozen? ⟨B, 1, none⟩ = false ∧ W.frozen? ⟨B, 2, none⟩ = false ∧ W.frozen? ⟨B, 3, none⟩ = false ∧ W.frozen? ⟨B, 4, none⟩ = false ∧ W.frozen? ⟨B, 5, none⟩ = false ∧ W.frozen? ⟨B, 6, none⟩ = false ∧ W.frozen? ⟨B, 7, none⟩ = false ∧ W.frozen? ⟨B, 8, none⟩ = false :=
  ⟨cell_at 0 h rfl, cell_at 1 h rfl, cell_at 2 h rfl, cell_at 3 h rfl, cell_at 4 h rfl, cell_at 5 h rfl, cell_at 6 h rfl, cell_at 7 h rfl, cell_at 8 h rfl, one_free 0 h, one_free 1 h, one_free 2 h, one_free 3 h, one_free 4 h, one_free 5 h, one_free 6 h, one_free 7 h, one_free 8 h⟩

theorem isEmpty_len {α : Type} (l : List α) : ((l.length : Int) == 0) = l.isEmpty := by
  cases l with
  | nil => rfl
  | cons a l => simp; omega
set_option maxRecDepth 100000 in
set_option maxHeartbeats 1000000 in
theorem isPublic_any (x : PepL) (r1 q1 : Option Addr) (c1 d1 : Nat) (w : World) :
    Calls Tryz.prog 170 #[.agg #[.string (ofL x.ep), .slice r1 x.rel.length c1, .int .u8 x.c, .string (ofL x.n), .bool x.b, .string (ofL x.m), .bool x.d, .string (ofL x.k), .slice q1 x.loc.length d1]] w fun e w' => e = .returned (.bool (pubB x)) ∧ Below w.heap.size w w' := by
  have h0 := isEmpty_len x.loc
  unfold pubB
  generalize x.loc.isEmpty = B at *
  have r := seen9v (World.alloc_heap_new w (.cells #[.string (ofL x.ep), .slice r1 x.rel.length c1, .int .u8 x.c, .string (ofL x.n), .bool x.b, .string (ofL x.m), .bool x.d, .string (ofL x.k), .slice q1 x.loc.length d1] 44))
  have hb : Below w.heap.size w (w.alloc (.cells #[.string (ofL x.ep), .slice r1 x.rel.length c1, .int .u8 x.c, .string (ofL x.n), .bool x.b, .string (ofL x.m), .bool x.d, .string (ofL x.k), .slice q1 x.loc.length d1] 44)) := (Below.refl _ w).alloc (Nat.le_refl _) _
  obtain ⟨s0, s1, s2, s3, s4, s5, s6, s7, s8, _⟩ := r
  go_enter Tryz.func170, Tryz.ntmps170
  go_wp2_with fail
  go_ret
  exact ⟨rfl, hb⟩
set_option maxRecDepth 100000 in
set_option maxHeartbeats 1000000 in
theorem isBase_any (x : PepL) (r1 q1 : Option Addr) (c1 d1 : Nat) (w : World) :
    Calls Tryz.prog 174 #[.agg #[.string (ofL x.ep), .slice r1 x.rel.length c1, .int .u8 x.c, .string (ofL x.n), .bool x.b, .string (ofL x.m), .bool x.d, .string (ofL x.k), .slice q1 x.loc.length d1]] w fun e w' => e = .returned (.bool (bareB x)) ∧ Below w.heap.size w w' := by
  have P1 := hide (fun W => isPublic_any x r1 q1 c1 d1 W)
  have r := seen9v (World.alloc_heap_new w (.cells #[.string (ofL x.ep), .slice r1 x.rel.length c1, .int .u8 x.c, .string (ofL x.n), .bool x.b, .string (ofL x.m), .bool x.d, .string (ofL x.k), .slice q1 x.loc.length d1] 44))
  have hb : Below w.heap.size w (w.alloc (.cells #[.string (ofL x.ep), .slice r1 x.rel.length c1, .int .u8 x.c, .string (ofL x.n), .bool x.b, .string (ofL x.m), .bool x.d, .string (ofL x.k), .slice q1 x.loc.length d1] 44)) := (Below.refl _ w).alloc (Nat.le_refl _) _
  obtain ⟨V, hV⟩ : ∃ V, w.alloc (.cells #[.string (ofL x.ep), .slice r1 x.rel.length c1, .int .u8 x.c, .string (ofL x.n), .bool x.b, .string (ofL x.m), .bool x.d, .string (ofL x.k), .slice q1 x.loc.length d1] 44) = V := ⟨_, rfl⟩
  have n0 := World.alloc_heap_new w (.cells #[.string (ofL x.ep), .slice r1 x.rel.length c1, .int .u8 x.c, .string (ofL x.n), .bool x.b, .string (ofL x.m), .bool x.d, .string (ofL x.k), .slice q1 x.loc.length d1] 44)
  rw [hV] at r hb n0
  have hsz : w.heap.size < V.heap.size := by rw [← hV]; simp
  obtain ⟨s0, s1, s2, s3, s4, s5, s6, s7, s8, _⟩ := r
  have N0 := hide n0
  clear n0
  have hBB : bareB x = (pubB x && (x.c == 0) && !x.b && !x.d) := rfl
  rw [hBB]
  clear hBB
  generalize pubB x = B at *
  go_enter Tryz.func174, Tryz.ntmps174
  go_wp2_with fail
  refine (P1.out _).mono ?_
  rintro e w2 ⟨rfl, b2⟩
  have n2 := (b2.block _ hsz).trans N0.out
  have hb2 : Below w.heap.size w w2 := hb.trans (b2.mono hb.size)
  clear s0 s1 s2 s3 s4 s5 s6 s7 s8 b2 hV hb
  obtain ⟨s0, s1, s2, s3, s4, s5, s6, s7, s8, _⟩ := seen9v n2
  clear n2
  cases B
  · go_wp2_with fail
    go_ret
    exact ⟨by simp, hb2⟩
  · cases hc : (x.c == 0)
    · go_wp2_with fail
      go_ret
      exact ⟨by rw [hc]; simp, hb2⟩
    · cases hxb : x.b
      · rw [hxb] at s4
        cases hxd : x.d
        · rw [hxd] at s6
          go_wp2_with fail
          go_ret
          exact ⟨by rw [hc]; simp [hxb, hxd], hb2⟩
        · rw [hxd] at s6
          go_wp2_with fail
          go_ret
          exact ⟨by rw [hc]; simp [hxb, hxd], hb2⟩
      · rw [hxb] at s4
        go_wp2_with fail
        go_ret
        exact ⟨by rw [hc]; simp [hxb], hb2⟩
set_option maxRecDepth 100000 in
set_option maxHeartbeats 1000000 in
theorem compMay_any (x : PepL) (r1 q1 : Option Addr) (c1 d1 : Nat) (w : World) :
    Calls Tryz.prog 169 #[.agg #[.string (ofL x.ep), .slice r1 x.rel.length c1, .int .u8 x.c, .string (ofL x.n), .bool x.b, .string (ofL x.m), .bool x.d, .string (ofL x.k), .slice q1 x.loc.length d1]] w fun e w' => e = .returned (.bool (pubB x && decide (1 < x.rel.length))) ∧ Below w.heap.size w w' := by
  have P1 := hide (fun W => isPublic_any x r1 q1 c1 d1 W)
  have r := seen9v (World.alloc_heap_new w (.cells #[.string (ofL x.ep), .slice r1 x.rel.length c1, .int .u8 x.c, .string (ofL x.n), .bool x.b, .string (ofL x.m), .bool x.d, .string (ofL x.k), .slice q1 x.loc.length d1] 44))
  have hb : Below w.heap.size w (w.alloc (.cells #[.string (ofL x.ep), .slice r1 x.rel.length c1, .int .u8 x.c, .string (ofL x.n), .bool x.b, .string (ofL x.m), .bool x.d, .string (ofL x.k), .slice q1 x.loc.length d1] 44)) := (Below.refl _ w).alloc (Nat.le_refl _) _
  obtain ⟨V, hV⟩ : ∃ V, w.alloc (.cells #[.string (ofL x.ep), .slice r1 x.rel.length c1, .int .u8 x.c, .string (ofL x.n), .bool x.b, .string (ofL x.m), .bool x.d, .string (ofL x.k), .slice q1 x.loc.length d1] 44) = V := ⟨_, rfl⟩
  have n0 := World.alloc_heap_new w (.cells #[.string (ofL x.ep), .slice r1 x.rel.length c1, .int .u8 x.c, .string (ofL x.n), .bool x.b, .string (ofL x.m), .bool x.d, .string (ofL x.k), .slice q1 x.loc.length d1] 44)
  rw [hV] at r hb n0
  have hsz : w.heap.size < V.heap.size := by rw [← hV]; simp
  obtain ⟨s0, s1, s2, s3, s4, s5, s6, s7, s8, _⟩ := r
  have N0 := hide n0
  clear n0
  generalize pubB x = B at *
  go_enter Tryz.func169, Tryz.ntmps169
  go_wp2_with fail
  refine (P1.out _).mono ?_
  rintro e w2 ⟨rfl, b2⟩
  have n2 := (b2.block _ hsz).trans N0.out
  have hb2 : Below w.heap.size w w2 := hb.trans (b2.mono hb.size)
  clear s0 s1 s2 s3 s4 s5 s6 s7 s8 b2 hV hb
  obtain ⟨s0, s1, s2, s3, s4, s5, s6, s7, s8, _⟩ := seen9v n2
  clear n2
  cases B
  · go_wp2_with fail
    go_ret
    exact ⟨by simp, hb2⟩
  · go_wp2_with fail
    go_ret
    exact ⟨by simp; omega, hb2⟩

end Go.Proofs.YtabmfdedbpmfmaaGreat

namespace Go.Proofs.YtabmfdedbpmfmaaGreat
open Go.RowKit Go.Shelf
set_option linter.unusedVariables false

theorem only_ne {may : PepL → Bool} {u : List UInt8} {e : Int} {p : Nat} (h : onlyW may u = .bad e p) : e ≠ 0 := by
  unfold onlyW at h
  cases ho : okP u
  · rw [ho, if_neg (by simp)] at h
    cases h
    have := errX_ne u ho
    simpa using this
  · rw [ho, if_pos rfl] at h
    split at h
    · cases h
    · cases h; decide
theorem wdR_ne {k : Nat} {u : List UInt8} {e : Int} {p : Nat} (h : wdR k u = .bad e p) : e ≠ 0 := by
  unfold wdR at h
  split at h
  · exact only_ne h
  · split at h
    · split at h
      · cases hq : onlyW bareB (u.take (u.length - 2)) with
        | bad e2 p2 => rw [hq] at h; cases h; exact only_ne hq
        | ok x t st => rw [hq] at h; cases h
      · exact only_ne h
    · split at h
      · unfold textW at h
        split at h
        · cases h; decide
        · cases h
      · exact only_ne h
theorem rwL_ne {l : List UInt8} {k b z : Nat} {e : Int} {p : Nat} (h : rwL l k b = (.bad e p, z)) : e ≠ 0 := by
  unfold rwL at h
  split at h
  · cases h; unfold misL; split <;> decide
  · split at h
    · rename_i hq; cases h; exact wdR_ne hq
    · cases h
theorem rwL_le {l : List UInt8} {k b z : Nat} {x : PepL} {t : List UInt8} {st : Bool} (hb : b ≤ l.length) (h : rwL l k b = (.ok x t st, z)) : b ≤ z ∧ z ≤ l.length := by
  have hn := wdN_le (l.drop b)
  rw [List.length_drop] at hn
  unfold rwL at h
  split at h
  · cases h
  · split at h
    · cases h
    · cases h; omega
theorem clP_ok {l : List UInt8} {a : Nat} (ha : a ≤ l.length) (h : (clP l a).er = 0) : a ≤ (clP l a).e ∧ (clP l a).e ≤ l.length := by
  have hm := opGo_le (l.drop a) 8 (by omega)
  rw [List.length_drop] at hm
  unfold clP at h ⊢
  split
  · rename_i h8
    rw [if_pos h8] at h
    dsimp only at h
    unfold misL at h
    split at h
    · cases h
    · cases h
  · rename_i h8
    rw [if_neg h8] at h
    have hs := skL_le l (a + (sgn (opGo (l.drop a) 8).1).length) (by omega)
    cases hr : rwL l (opGo (l.drop a) 8).1 (skL l (a + (sgn (opGo (l.drop a) 8).1).length)) with
    | mk r z =>
      rw [hr] at h
      cases r with
      | bad e p => exact absurd h (rwL_ne hr)
      | ok x t st =>
        have h1 := rwL_le hs.2 hr
        have h2 := skL_le l z h1.2
        dsimp only
        omega
def rowC (l : List UInt8) : Nat → Nat → List Cl
  | 0, _ => []
  | n + 1, a => if a ≤ l.length then clP l (skL l a) :: (if (clP l (skL l a)).er = 0 then rowC l n ((clP l (skL l a)).e + 1) else []) else []
theorem rowC_end {l : List UInt8} {a : Nat} (h : l.length < a) : ∀ n, rowC l n a = []
  | 0 => rfl
  | n + 1 => by unfold rowC; rw [if_neg (by omega)]
theorem rowC_bad {l : List UInt8} {n a : Nat} (h : a ≤ l.length) (he : (clP l (skL l a)).er ≠ 0) : rowC l (n + 1) a = [clP l (skL l a)] := by
  unfold rowC; rw [if_pos h, if_neg he]
theorem rowC_go {l : List UInt8} {n a : Nat} (h : a ≤ l.length) (he : (clP l (skL l a)).er = 0) : rowC l (n + 1) a = clP l (skL l a) :: rowC l n ((clP l (skL l a)).e + 1) := by
  rw [rowC, if_pos h, if_pos he]

end Go.Proofs.YtabmfdedbpmfmaaGreat
