/-
  Walks: relations; the chapter's examples.
-/
import Derived.Test.YthojcidbhojlhaaDi
namespace Go.Proofs.Ythojcidbhojlhaa
open Go.RowKit Go.Shelf
set_option linter.unusedVariables false

theorem pres_ok {l : List UInt8} {v : DebL} (h : parseL l = .ok v) : PResV l = .tuple #[.agg #[.string (ofL v.ep), .string (ofL v.up), .string (ofL v.rev)], .agg #[.int .i64 0, .int .i64 0]] := by unfold PResV; rw [h]; rfl
theorem pres_err {l : List UInt8} {x : Int × Nat} (h : parseL l = .error x) : PResV l = .tuple #[.agg #[.string ⟨#[]⟩, .string ⟨#[]⟩, .string ⟨#[]⟩], .agg #[.int .i64 x.1, .int .i64 (x.2 : Int)]] := by unfold PResV; rw [h]; rfl
theorem lies23 {W W' : World} {A F : Obj} (hb : Below ((W.alloc A).alloc F).heap.size ((W.alloc A).alloc F) W') : W'.heap[W.heap.size]? = some A ∧ W'.heap[W.heap.size + 1]? = some F := by
  refine ⟨(hb.block _ (by simp; omega)).trans ?_, (hb.block _ (by simp)).trans ?_⟩
  · rw [Below.heap_alloc _ _ _ (by simp)]
    exact World.alloc_heap_new W _
  · have := World.alloc_heap_new (W.alloc A) F
    rwa [World.size_alloc] at this

set_option maxRecDepth 100000 in
set_option maxHeartbeats 1000000 in
theorem Holds_eq (s t : ByteArray) (x y : DebL) (w : World) (hs : parseL s.data.toList = .ok x) (ht : parseL t.data.toList = .ok y) :
    Calls Try.prog 22 #[.string s, .string ⟨#[61]⟩, .string t] w fun e w' => e = .returned (.bool (decide (ordO x y = 0))) ∧ Below w.heap.size w w' := by
  have P1 := fun w => Parse_any s w
  have P2 := fun w => Parse_any t w
  rw [pres_ok hs] at P1
  rw [pres_ok ht] at P2
  have OO := fun w => order_any x y w (parse_sh hs) (parse_sh ht)
  unfold verV at OO
  have OO := hide OO
  have P1 := hide P1
  have P2 := hide P2
  clear hs ht
  generalize ordO x y = c at *
  go_enter Try.func22, Try.ntmps22
  go_wp2_with fail
  refine (P1.out _).mono ?_
  rintro e w1 ⟨rfl, b1⟩
  go_wp2_with fail
  refine (P2.out _).mono ?_
  rintro e w2 ⟨rfl, b2⟩
  obtain ⟨eA, eF⟩ := lies23 b2
  have hl1 := (Array.getElem?_eq_some_iff.1 eA).1
  have hl2 := (Array.getElem?_eq_some_iff.1 eF).1
  have hl3 : w1.heap.size < w2.heap.size + 1 := by omega
  have hl4 : w1.heap.size + 1 < w2.heap.size + 1 := by omega
  have q0 := cell_at 0 eA rfl
  have q1 := cell_at 1 eA rfl
  have q2 := cell_at 2 eA rfl
  have p0 := cell_at 0 eF rfl
  have p1 := cell_at 1 eF rfl
  have B0 := b1.alloc b1.size (.cells #[.string (ofL x.ep), .string (ofL x.up), .string (ofL x.rev)] 23)
  have B1 := B0.alloc B0.size (.cells #[.int .i64 0, .int .i64 0] 26)
  have B2 := B1.trans (b2.mono B1.size)
  have B3 := B2.alloc B2.size (.cells #[.string (ofL y.ep), .string (ofL y.up), .string (ofL y.rev)] 23)
  have B4 := B3.alloc B3.size (.cells #[.int .i64 0, .int .i64 0] 26)
  clear b1 b2 B0 B1 B2 B3
  go_wp2_with fail
  refine (OO.out _).mono ?_
  rintro e w3 ⟨rfl, b3⟩
  go_wp2_with fail
  go_ret
  exact ⟨ret_b (by first | rfl | simp), B4.trans (b3.mono B4.size)⟩

set_option maxRecDepth 100000 in
set_option maxHeartbeats 1000000 in
theorem Holds_lt (s t : ByteArray) (x y : DebL) (w : World) (hs : parseL s.data.toList = .ok x) (ht : parseL t.data.toList = .ok y) :
    Calls Try.prog 22 #[.string s, .string ⟨#[60, 60]⟩, .string t] w fun e w' => e = .returned (.bool (decide (ordO x y < 0))) ∧ Below w.heap.size w w' := by
  have P1 := fun w => Parse_any s w
  have P2 := fun w => Parse_any t w
  rw [pres_ok hs] at P1
  rw [pres_ok ht] at P2
  have OO := fun w => order_any x y w (parse_sh hs) (parse_sh ht)
  unfold verV at OO
  have OO := hide OO
  have P1 := hide P1
  have P2 := hide P2
  clear hs ht
  generalize ordO x y = c at *
  go_enter Try.func22, Try.ntmps22
  go_wp2_with fail
  refine (P1.out _).mono ?_
  rintro e w1 ⟨rfl, b1⟩
  go_wp2_with fail
  refine (P2.out _).mono ?_
  rintro e w2 ⟨rfl, b2⟩
  obtain ⟨eA, eF⟩ := lies23 b2
  have hl1 := (Array.getElem?_eq_some_iff.1 eA).1
  have hl2 := (Array.getElem?_eq_some_iff.1 eF).1
  have hl3 : w1.heap.size < w2.heap.size + 1 := by omega
  have hl4 : w1.heap.size + 1 < w2.heap.size + 1 := by omega
  have q0 := cell_at 0 eA rfl
  have q1 := cell_at 1 eA rfl
  have q2 := cell_at 2 eA rfl
  have p0 := cell_at 0 eF rfl
  have p1 := cell_at 1 eF rfl
  have B0 := b1.alloc b1.size (.cells #[.string (ofL x.ep), .string (ofL x.up), .string (ofL x.rev)] 23)
  have B1 := B0.alloc B0.size (.cells #[.int .i64 0, .int .i64 0] 26)
  have B2 := B1.trans (b2.mono B1.size)
  have B3 := B2.alloc B2.size (.cells #[.string (ofL y.ep), .string (ofL y.up), .string (ofL y.rev)] 23)
  have B4 := B3.alloc B3.size (.cells #[.int .i64 0, .int .i64 0] 26)
  clear b1 b2 B0 B1 B2 B3
  go_wp2_with fail
  refine (OO.out _).mono ?_
  rintro e w3 ⟨rfl, b3⟩
  go_wp2_with fail
  go_ret
  exact ⟨ret_b (by first | rfl | simp), B4.trans (b3.mono B4.size)⟩


end Go.Proofs.Ythojcidbhojlhaa
