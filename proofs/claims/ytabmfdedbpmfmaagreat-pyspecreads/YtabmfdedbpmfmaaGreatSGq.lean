/-
  Clauses as cells. · A whole clause out of one block into another.
-/
import Derived.Test.YtabmfdedbpmfmaaGreatSGe
import Derived.Test.YtabmfdedbpmfmaaGreatSGl
import Derived.Deep.MidRow
namespace Go.Proofs.YtabmfdedbpmfmaaGreat
open Go.RowKit Go.Shelf
set_option linter.unusedVariables false

theorem seen18v {W : World} {B : Nat} {t : TypeId} {a0 a1 a2 a3 a4 a5 a6 a7 a8 a9 a10 a11 a12 a13 a14 a15 a16 a17 : Value} (h : W.heap[B]? = some (.cells #[a0, a1, a2, a3, a4, a5, a6, a7, a8, a9, a10, a11, a12, a13, a14, a15, a16, a17] t (0, 0))) :
    W.cell? ⟨B, 0, none⟩ = some a0 ∧ W.cell? ⟨B, 1, none⟩ = some a1 ∧ W.cell? ⟨B, 2, none⟩ = some a2 ∧ W.cell? ⟨B, 3, none⟩ = some a3 ∧ W.cell? ⟨B, 4, none⟩ = some a4 ∧ W.cell? ⟨B, 5, none⟩ = some a5 ∧ W.cell? ⟨B, 6, none⟩ = some a6 ∧ W.cell? ⟨B, 7, none⟩ = some a7 ∧ W.cell? ⟨B, 8, none⟩ = some a8 ∧ W.cell? ⟨B, 9, none⟩ = some a9 ∧ W.cell? ⟨B, 10, none⟩ = some a10 ∧ W.cell? ⟨B, 11, none⟩ = some a11 ∧ W.cell? ⟨B, 12, none⟩ = some a12 ∧ W.cell? ⟨B, 13, none⟩ = some a13 ∧ W.cell? ⟨B, 14, none⟩ = some a14 ∧ W.cell? ⟨B, 15, none⟩ = some a15 ∧ W.cell? ⟨B, 16, none⟩ = some a16 ∧ W.cell? ⟨B, 17, none⟩ = some a17 ∧ W.frozen? ⟨B, 0, none⟩ = false ∧ W.frozen? ⟨B, 1, none⟩ = false ∧ W.frozen? ⟨B, 2, none⟩ = false ∧ W.frozen? ⟨B, 3, none⟩ = false ∧ W.frozen? ⟨B, 4, none⟩ = false ∧ W.frozen? ⟨B, 5, none⟩ = false ∧ W.frozen? ⟨B, 6, none⟩ = false ∧ W.frozen? ⟨B, 7, none⟩ = false ∧ W.frozen? ⟨B, 8, none⟩ = false ∧ W.frozen? ⟨B, 9, none⟩ = false ∧ W.frozen? ⟨B, 10, none⟩ = false ∧ W.frozen? ⟨B, 11, none⟩ = false ∧ W.frozen? ⟨B, 12, none⟩ = false ∧ W.frozen? ⟨B, 13, none⟩ = false ∧ W.frozen? ⟨B, 14, none⟩ = false ∧ W.frozen? ⟨B, 15, none⟩ = false ∧ W.frozen? ⟨B, 16, none⟩ = false ∧ W.frozen? ⟨B, 17, none⟩ = false :=
  ⟨cell_at 0 h rfl, cell_at 1 h rfl, cell_at 2 h rfl, cell_at 3 h rfl, cell_at 4 h rfl, cell_at 5 h rfl, cell_at 6 h rfl, cell_at 7 h rfl, cell_at 8 h rfl, cell_at 9 h rfl, cell_at 10 h rfl, cell_at 11 h rfl, cell_at 12 h rfl, cell_at 13 h rfl, cell_at 14 h rfl, cell_at 15 h rfl, cell_at 16 h rfl, cell_at 17 h rfl, one_free 0 h, one_free 1 h, one_free 2 h, one_free 3 h, one_free 4 h, one_free 5 h, one_free 6 h, one_free 7 h, one_free 8 h, one_free 9 h, one_free 10 h, one_free 11 h, one_free 12 h, one_free 13 h, one_free 14 h, one_free 15 h, one_free 16 h, one_free 17 h⟩

structure RC (w W : World) (r c : Array Value) : Prop where
  res : W.heap[w.heap.size]? = some (.cells r 61 (0, 0))
  top : W.heap[w.heap.size + 1]? = some (.cells c 61 (0, 0))
  bel : Below w.heap.size w W
theorem RC.lt {w W : World} {r c : Array Value} (h : RC w W r c) : w.heap.size + 1 < W.heap.size := (Array.getElem?_eq_some_iff.1 h.top).1
theorem RC.below {w W W' : World} {r c : Array Value} (h : RC w W r c) (hb : Below W.heap.size W W') : RC w W' r c :=
  ⟨(hb.block _ (by have := h.lt; omega)).trans h.res, (hb.block _ h.lt).trans h.top, h.bel.trans (hb.mono (by have := h.lt; omega))⟩
theorem RC.start (w : World) (a : Nat) : RC w ((w.alloc (.cells #[.string ⟨#[]⟩, .nilFunc, .nilFunc, .bool false, .string ⟨#[]⟩, .slice none 0 0, .int .u8 0, .string ⟨#[]⟩, .bool false, .string ⟨#[]⟩, .bool false, .string ⟨#[]⟩, .slice none 0 0, .string ⟨#[]⟩, .bool false, .int .i64 0, .int .i64 0, .int .i64 0] 61)).alloc (.cells #[.string ⟨#[]⟩, .nilFunc, .nilFunc, .bool false, .string ⟨#[]⟩, .slice none 0 0, .int .u8 0, .string ⟨#[]⟩, .bool false, .string ⟨#[]⟩, .bool false, .string ⟨#[]⟩, .slice none 0 0, .string ⟨#[]⟩, .bool false, .int .i64 (a : Int), .int .i64 0, .int .i64 0] 61)) #[.string ⟨#[]⟩, .nilFunc, .nilFunc, .bool false, .string ⟨#[]⟩, .slice none 0 0, .int .u8 0, .string ⟨#[]⟩, .bool false, .string ⟨#[]⟩, .bool false, .string ⟨#[]⟩, .slice none 0 0, .string ⟨#[]⟩, .bool false, .int .i64 0, .int .i64 0, .int .i64 0] #[.string ⟨#[]⟩, .nilFunc, .nilFunc, .bool false, .string ⟨#[]⟩, .slice none 0 0, .int .u8 0, .string ⟨#[]⟩, .bool false, .string ⟨#[]⟩, .bool false, .string ⟨#[]⟩, .slice none 0 0, .string ⟨#[]⟩, .bool false, .int .i64 (a : Int), .int .i64 0, .int .i64 0] := by
  obtain ⟨V, hV, h1, h2, h3, _⟩ := two_new w #[.string ⟨#[]⟩, .nilFunc, .nilFunc, .bool false, .string ⟨#[]⟩, .slice none 0 0, .int .u8 0, .string ⟨#[]⟩, .bool false, .string ⟨#[]⟩, .bool false, .string ⟨#[]⟩, .slice none 0 0, .string ⟨#[]⟩, .bool false, .int .i64 0, .int .i64 0, .int .i64 0] #[.string ⟨#[]⟩, .nilFunc, .nilFunc, .bool false, .string ⟨#[]⟩, .slice none 0 0, .int .u8 0, .string ⟨#[]⟩, .bool false, .string ⟨#[]⟩, .bool false, .string ⟨#[]⟩, .slice none 0 0, .string ⟨#[]⟩, .bool false, .int .i64 (a : Int), .int .i64 0, .int .i64 0] 61 61
  rw [hV]
  exact ⟨h1, h2, h3⟩
theorem RC.op6 {w W : World} {z0 z1 z2 z3 z4 z5 z6 z7 z8 z9 z10 z11 z12 z13 z14 z15 z16 z17 : Value} {r : Array Value} (h : RC w W r #[z0, z1, z2, z3, z4, z5, z6, z7, z8, z9, z10, z11, z12, z13, z14, z15, z16, z17]) (a0 a1 a2 a3 e er : Value) : ∃ W', W' = ((((((W.setCell ⟨w.heap.size + 1, 0, none⟩ a0).setCell ⟨w.heap.size + 1, 1, none⟩ a1).setCell ⟨w.heap.size + 1, 2, none⟩ a2).setCell ⟨w.heap.size + 1, 3, none⟩ a3).setCell ⟨w.heap.size + 1, 16, none⟩ e).setCell ⟨w.heap.size + 1, 17, none⟩ er) ∧ RC w W' r #[a0, a1, a2, a3, z4, z5, z6, z7, z8, z9, z10, z11, z12, z13, z14, z15, e, er] ∧ ∀ (u : Value) (ts : List (List UInt8)), Txt W u ts → FreshC (w.heap.size + 2) u → Txt W' u ts := by
  have h0 := h.top
  have h1 := putL_heap [a0, a1, a2, a3] W (w.heap.size + 1) 0 _ _ h0
  have t1 := putL_turn [a0, a1, a2, a3] W (w.heap.size + 1) 0
  have h2 := putL_heap [e, er] (putL W (w.heap.size + 1) 0 [a0, a1, a2, a3]) (w.heap.size + 1) 16 _ _ h1
  have t2 := putL_turn [e, er] (putL W (w.heap.size + 1) 0 [a0, a1, a2, a3]) (w.heap.size + 1) 16
  have hc : (fillA (fillA #[z0, z1, z2, z3, z4, z5, z6, z7, z8, z9, z10, z11, z12, z13, z14, z15, z16, z17] 0 [a0, a1, a2, a3]) 16 [e, er]) = #[a0, a1, a2, a3, z4, z5, z6, z7, z8, z9, z10, z11, z12, z13, z14, z15, e, er] := by simp [fillA]
  rw [hc] at h2
  have T := (t1.trans t2)
  refine ⟨(putL (putL W (w.heap.size + 1) 0 [a0, a1, a2, a3]) (w.heap.size + 1) 16 [e, er]), rfl, ⟨(T.block _ (by have := h.lt; omega) (by omega)).trans h.res, h2, h.bel.trans (T.below (by omega) h.bel.size)⟩, fun u ts h1 h2 => txt_youngC h1 h2 (fun j h3 h4 => T.block j h4 (by omega)) T.size⟩
theorem RC.as13 {w W : World} {z0 z1 z2 z3 z4 z5 z6 z7 z8 z9 z10 z11 z12 z13 z14 z15 z16 z17 : Value} {r : Array Value} (h : RC w W r #[z0, z1, z2, z3, z4, z5, z6, z7, z8, z9, z10, z11, z12, z13, z14, z15, z16, z17]) (b0 b1 b2 b3 b4 b5 b6 b7 b8 b9 b10 e er : Value) : ∃ W', W' = (((((((((((((W.setCell ⟨w.heap.size + 1, 4, none⟩ b0).setCell ⟨w.heap.size + 1, 5, none⟩ b1).setCell ⟨w.heap.size + 1, 6, none⟩ b2).setCell ⟨w.heap.size + 1, 7, none⟩ b3).setCell ⟨w.heap.size + 1, 8, none⟩ b4).setCell ⟨w.heap.size + 1, 9, none⟩ b5).setCell ⟨w.heap.size + 1, 10, none⟩ b6).setCell ⟨w.heap.size + 1, 11, none⟩ b7).setCell ⟨w.heap.size + 1, 12, none⟩ b8).setCell ⟨w.heap.size + 1, 13, none⟩ b9).setCell ⟨w.heap.size + 1, 14, none⟩ b10).setCell ⟨w.heap.size + 1, 16, none⟩ e).setCell ⟨w.heap.size + 1, 17, none⟩ er) ∧ RC w W' r #[z0, z1, z2, z3, b0, b1, b2, b3, b4, b5, b6, b7, b8, b9, b10, z15, e, er] ∧ ∀ (u : Value) (ts : List (List UInt8)), Txt W u ts → FreshC (w.heap.size + 2) u → Txt W' u ts := by
  have h0 := h.top
  have h1 := putL_heap [b0, b1, b2, b3, b4, b5, b6, b7, b8, b9, b10] W (w.heap.size + 1) 4 _ _ h0
  have t1 := putL_turn [b0, b1, b2, b3, b4, b5, b6, b7, b8, b9, b10] W (w.heap.size + 1) 4
  have h2 := putL_heap [e, er] (putL W (w.heap.size + 1) 4 [b0, b1, b2, b3, b4, b5, b6, b7, b8, b9, b10]) (w.heap.size + 1) 16 _ _ h1
  have t2 := putL_turn [e, er] (putL W (w.heap.size + 1) 4 [b0, b1, b2, b3, b4, b5, b6, b7, b8, b9, b10]) (w.heap.size + 1) 16
  have hc : (fillA (fillA #[z0, z1, z2, z3, z4, z5, z6, z7, z8, z9, z10, z11, z12, z13, z14, z15, z16, z17] 4 [b0, b1, b2, b3, b4, b5, b6, b7, b8, b9, b10]) 16 [e, er]) = #[z0, z1, z2, z3, b0, b1, b2, b3, b4, b5, b6, b7, b8, b9, b10, z15, e, er] := by simp [fillA]
  rw [hc] at h2
  have T := (t1.trans t2)
  refine ⟨(putL (putL W (w.heap.size + 1) 4 [b0, b1, b2, b3, b4, b5, b6, b7, b8, b9, b10]) (w.heap.size + 1) 16 [e, er]), rfl, ⟨(T.block _ (by have := h.lt; omega) (by omega)).trans h.res, h2, h.bel.trans (T.below (by omega) h.bel.size)⟩, fun u ts h1 h2 => txt_youngC h1 h2 (fun j h3 h4 => T.block j h4 (by omega)) T.size⟩
theorem RC.en2 {w W : World} {z0 z1 z2 z3 z4 z5 z6 z7 z8 z9 z10 z11 z12 z13 z14 z15 z16 z17 : Value} {r : Array Value} (h : RC w W r #[z0, z1, z2, z3, z4, z5, z6, z7, z8, z9, z10, z11, z12, z13, z14, z15, z16, z17]) (e er : Value) : ∃ W', W' = ((W.setCell ⟨w.heap.size + 1, 16, none⟩ e).setCell ⟨w.heap.size + 1, 17, none⟩ er) ∧ RC w W' r #[z0, z1, z2, z3, z4, z5, z6, z7, z8, z9, z10, z11, z12, z13, z14, z15, e, er] ∧ ∀ (u : Value) (ts : List (List UInt8)), Txt W u ts → FreshC (w.heap.size + 2) u → Txt W' u ts := by
  have h0 := h.top
  have h1 := putL_heap [e, er] W (w.heap.size + 1) 16 _ _ h0
  have t1 := putL_turn [e, er] W (w.heap.size + 1) 16
  have hc : (fillA #[z0, z1, z2, z3, z4, z5, z6, z7, z8, z9, z10, z11, z12, z13, z14, z15, z16, z17] 16 [e, er]) = #[z0, z1, z2, z3, z4, z5, z6, z7, z8, z9, z10, z11, z12, z13, z14, z15, e, er] := by simp [fillA]
  rw [hc] at h1
  have T := t1
  refine ⟨(putL W (w.heap.size + 1) 16 [e, er]), rfl, ⟨(T.block _ (by have := h.lt; omega) (by omega)).trans h.res, h1, h.bel.trans (T.below (by omega) h.bel.size)⟩, fun u ts h1 h2 => txt_youngC h1 h2 (fun j h3 h4 => T.block j h4 (by omega)) T.size⟩
def clV (c : Cl) (vr vl : Value) : Array Value := #[.string (ofL (sgn c.k)), fnV (rdF c.k), fnV (hoF c.k), .bool (opB c.k), .string (ofL c.x.ep), vr, .int .u8 c.x.c, .string (ofL c.x.n), .bool c.x.b, .string (ofL c.x.m), .bool c.x.d, .string (ofL c.x.k), vl, .string (ofL c.t), .bool c.st, .int .i64 (c.s : Int), .int .i64 (c.e : Int), .int .i64 c.er]
def ClPost (c : Cl) (w : World) (e : Ending) (w' : World) : Prop :=
  Below w.heap.size w w' ∧ ∃ vr vl, e = .returned (.agg (clV c vr vl)) ∧ Txt w' vr c.x.rel ∧ Txt w' vl c.x.loc ∧ FreshC w.heap.size vr ∧ FreshC w.heap.size vl
theorem clpost_no {w W : World} (a p : Nat) (er : Int) (hb : Below w.heap.size w W) : ClPost ⟨8, pep0, [], false, a, p, er⟩ w (.returned (.agg #[.string ⟨#[]⟩, .nilFunc, .nilFunc, .bool false, .string ⟨#[]⟩, .slice none 0 0, .int .u8 0, .string ⟨#[]⟩, .bool false, .string ⟨#[]⟩, .bool false, .string ⟨#[]⟩, .slice none 0 0, .string ⟨#[]⟩, .bool false, .int .i64 (a : Int), .int .i64 (p : Int), .int .i64 er])) W :=
  ⟨hb, .slice none 0 0, .slice none 0 0, rfl, ⟨none, 0, rfl, .inl rfl⟩, ⟨none, 0, rfl, .inl rfl⟩, fun a i c e => (by cases e), fun a i c e => (by cases e)⟩
theorem clpost_bad {w W : World} (j a p : Nat) (er : Int) (h1 : fnV (rdF j) = .func (.func (rdF j)) #[] #[]) (h2 : fnV (hoF j) = .func (.func (hoF j)) #[] #[]) (hb : Below w.heap.size w W) : ClPost ⟨j, pep0, [], false, a, p, er⟩ w (.returned (.agg #[.string (ofL (sgn j)), .func (.func (rdF j)) #[] #[], .func (.func (hoF j)) #[] #[], .bool (opB j), .string ⟨#[]⟩, .slice none 0 0, .int .u8 0, .string ⟨#[]⟩, .bool false, .string ⟨#[]⟩, .bool false, .string ⟨#[]⟩, .slice none 0 0, .string ⟨#[]⟩, .bool false, .int .i64 (a : Int), .int .i64 (p : Int), .int .i64 er])) W :=
  ⟨hb, .slice none 0 0, .slice none 0 0, by unfold clV; rw [h1, h2]; rfl, ⟨none, 0, rfl, .inl rfl⟩, ⟨none, 0, rfl, .inl rfl⟩, fun a i c e => (by cases e), fun a i c e => (by cases e)⟩
theorem clpost_ok {w W : World} (j a p : Nat) (er : Int) (x : PepL) (t : List UInt8) (st : Bool) (vr vl : Value) (h1 : fnV (rdF j) = .func (.func (rdF j)) #[] #[]) (h2 : fnV (hoF j) = .func (.func (hoF j)) #[] #[]) (hb : Below w.heap.size w W) (t1 : Txt W vr x.rel) (t2 : Txt W vl x.loc) (f1 : FreshC w.heap.size vr) (f2 : FreshC w.heap.size vl) :
    ClPost ⟨j, x, t, st, a, p, er⟩ w (.returned (.agg #[.string (ofL (sgn j)), .func (.func (rdF j)) #[] #[], .func (.func (hoF j)) #[] #[], .bool (opB j), .string (ofL x.ep), vr, .int .u8 x.c, .string (ofL x.n), .bool x.b, .string (ofL x.m), .bool x.d, .string (ofL x.k), vl, .string (ofL t), .bool st, .int .i64 (a : Int), .int .i64 (p : Int), .int .i64 er])) W :=
  ⟨hb, vr, vl, by unfold clV; rw [h1, h2], t1, t2, f1, f2⟩
theorem size61 : (Tryz.prog.info? 61).map (·.size) = some 18 := by kernel_rfl
theorem fin88 {R : Ending → World → Prop} (tmps : Array Value) (W : World) (B : Nat) (cs : Array Value) (hcs : cs.size = 18)
    (h2 : tmps.getD 4 undef = .pointer (some ⟨B, 0, none⟩)) (e1 : W.heap[B]? = some (.cells cs 61 (0, 0))) (hR : R (.returned (.agg cs)) W) :
    bodyPost Tryz.prog Tryz.f88 R .ret { tmps := tmps, defers := [] } W :=
  bodyPost_ret (results_cell_row rfl _ _ B 61 _ (0, 0) _ h2 e1 Tryz.underlying61 rfl (by rw [size61, hcs])) rfl hR

end Go.Proofs.YtabmfdedbpmfmaaGreat

namespace Go.Proofs.YtabmfdedbpmfmaaGreat
open Go.RowKit Go.Shelf
set_option linter.unusedVariables false

theorem range_block {W : World} {B : Nat} {c : Array Value} {t : TypeId} (h : W.heap[B]? = some (.cells c t (0, 0))) : W.rangeAt B 0 c.toList := fun j v hv => by
  rw [Nat.zero_add]
  exact cell_at j h (by simpa using hv)
theorem there_block {W : World} {B n : Nat} {c : Array Value} {t : TypeId} (h : W.heap[B]? = some (.cells c t (0, 0))) (hn : n ≤ c.size) : W.there B 0 n := fun j hj => by
  rw [Nat.zero_add]
  refine ⟨?_, one_free j h⟩
  rw [cell_at j h (Array.getElem?_eq_getElem (by omega))]
  rfl
theorem setCells_put : ∀ (vs : List Value) (W : World) (B o : Nat), W.setCells B o vs = putL W B o vs
  | [], _, _, _ => rfl
  | v :: vs, W, B, o => setCells_put vs _ B (o + 1)
theorem fill_get : ∀ (vs : List Value) (cs : Array Value) (o i : Nat), o + vs.length ≤ cs.size → (fillA cs o vs)[i]? = if o ≤ i ∧ i < o + vs.length then vs[i - o]? else cs[i]?
  | [], cs, o, i, h => by
    rw [if_neg (by simp only [List.length_nil]; omega)]
    rfl
  | v :: vs, cs, o, i, h => by
    rw [List.length_cons] at h ⊢
    show (fillA (cs.setIfInBounds o v) (o + 1) vs)[i]? = _
    rw [fill_get vs (cs.setIfInBounds o v) (o + 1) i (by simp; omega)]
    by_cases h1 : o + 1 ≤ i ∧ i < o + 1 + vs.length
    · rw [if_pos h1, if_pos (by omega), show i - o = (i - (o + 1)) + 1 by omega, List.getElem?_cons_succ]
    · rw [if_neg h1, Array.getElem?_setIfInBounds]
      by_cases h2 : o = i
      · subst h2
        rw [if_pos rfl, if_pos (by omega), if_pos (by omega), Nat.sub_self, List.getElem?_cons_zero]
      · rw [if_neg h2, if_neg (by omega)]
theorem fill_all (cs : Array Value) (vs : List Value) (h : cs.size = vs.length) : fillA cs 0 vs = vs.toArray := by
  apply Array.ext_getElem?
  intro i
  rw [fill_get vs cs 0 i (by omega), Nat.sub_zero, show vs.toArray[i]? = vs[i]? by simp]
  split
  · rfl
  · rename_i h1
    rw [Array.getElem?_eq_none (by omega), List.getElem?_eq_none (by omega)]
theorem RC.copy {w W : World} {r c : Array Value} (h : RC w W r c) (hr : r.size = c.size) : (W.setCells w.heap.size 0 c.toList).heap[w.heap.size]? = some (.cells c 61 (0, 0)) ∧ Below w.heap.size w (W.setCells w.heap.size 0 c.toList) ∧
    ∀ (u : Value) (ts : List (List UInt8)), Txt W u ts → FreshC (w.heap.size + 2) u → Txt (W.setCells w.heap.size 0 c.toList) u ts := by
  rw [setCells_put]
  have T := putL_turn c.toList W w.heap.size 0
  refine ⟨?_, h.bel.trans (T.below (Nat.le_refl _) h.bel.size), fun u ts h1 h2 => txt_youngC h1 h2 (fun j h3 h4 => T.block j h4 (by omega)) T.size⟩
  have k := putL_heap c.toList W w.heap.size 0 _ _ h.res
  rw [fill_all r c.toList (by simpa using hr)] at k
  simpa using k

end Go.Proofs.YtabmfdedbpmfmaaGreat
