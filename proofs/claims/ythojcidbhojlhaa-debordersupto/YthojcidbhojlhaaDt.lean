/-
  Walks: the document's Parse.
-/
import Derived.Test.YthojcidbhojlhaaDs
import Derived.Test.YthojcidbhojlhaaDi
namespace Go.Proofs.Ythojcidbhojlhaa
open Go.RowKit Go.Shelf
set_option linter.unusedVariables false

/-- The results in their cells. -/
theorem fin10 {R : Ending → World → Prop} (tmps : Array Value) (W : World) (B C : Nat) (a b c : ByteArray) (x y : Int)
    (h2 : tmps.getD 2 undef = .pointer (some ⟨B, 0, none⟩)) (h3 : tmps.getD 3 undef = .pointer (some ⟨C, 0, none⟩))
    (e1 : W.heap[B]? = some (.cells #[.string a, .string b, .string c] 23 (0, 0))) (e2 : W.heap[C]? = some (.cells #[.int .i64 x, .int .i64 y] 26 (0, 0)))
    (hR : R (.returned (.tuple #[.agg #[.string a, .string b, .string c], .agg #[.int .i64 x, .int .i64 y]])) W) :
    bodyPost Try.prog Try.f10 R .ret { tmps := tmps, defers := [] } W := by
  have r0 := cell_at 0 e1 rfl
  have r1 := cell_at 1 e1 rfl
  have r2 := cell_at 2 e1 rfl
  have q0 := cell_at 0 e2 rfl
  have q1 := cell_at 1 e2 rfl
  rw [Array.getD_eq_getD_getElem?] at h2 h3
  refine ⟨rfl, _, ?_, hR⟩
  simp [results, Try.results10, go_sem, h2, h3, r0, r1, r2, q0, q1]
  try rfl


/-- What a text's reading comes to, by its parts. -/
theorem parts_of (l : List UInt8) : ∃ (a b c : ByteArray) (x p : Int), PResV l = .tuple #[.agg #[.string a, .string b, .string c], .agg #[.int .i64 x, .int .i64 p]] ∧ DResV (parseL l) = .tuple #[.agg #[.string a, .string b, .string c], .int .i64 x, .int .i64 p] := by
  cases hp : parseL l with
  | error x => exact ⟨⟨#[]⟩, ⟨#[]⟩, ⟨#[]⟩, x.1, x.2, by unfold PResV; rw [hp]; rfl, rfl⟩
  | ok v => exact ⟨ofL v.ep, ofL v.up, ofL v.rev, 0, 0, by unfold PResV; rw [hp]; rfl, rfl⟩

set_option maxRecDepth 100000 in
set_option maxHeartbeats 1000000 in
theorem RParse_any (s : ByteArray) (w : World) :
    Calls Try.prog 10 #[.string s] w fun e w' => e = .returned (PResV s.data.toList) ∧ Below w.heap.size w w' := by
  obtain ⟨a, b, c, x, p, h1, h2⟩ := parts_of s.data.toList
  have C := fun w => Rparse_any s w
  rw [docP_eq, h2] at C
  have C := hide C
  have HP := hide h1
  clear h1 h2
  go_enter Try.func10, Try.ntmps10
  go_wp2_with fail
  refine (C.out _).mono ?_
  rintro e w1 ⟨rfl, b1⟩
  have pw := (PW.start w).next b1
  clear b1
  have hlt := (Array.getElem?_eq_some_iff.1 pw.eF).1
  have hlt0 : w.heap.size < w1.heap.size := by omega
  obtain ⟨c0, c1, c2, c3, c4⟩ := pw.cells
  obtain ⟨f0, f1, f2, f3, f4⟩ := pw.frees
  go_wp2_with fail
  obtain ⟨W9, hW9, g1, g2, bb⟩ := pw.fin (.string a) (.string b) (.string c) (.int .i64 x) (.int .i64 p)
  rw [← hW9]
  have l1 := (Array.getElem?_eq_some_iff.1 g1).1
  have l2 := (Array.getElem?_eq_some_iff.1 g2).1
  refine fin10 _ _ w.heap.size (w.heap.size + 1) a b c x p rfl rfl ((Below.heap_alloc _ _ _ l1).trans g1) ((Below.heap_alloc _ _ _ l2).trans g2) ?_
  exact ⟨by rw [HP.out], bb.alloc bb.size _⟩

end Go.Proofs.Ythojcidbhojlhaa
