/-
  Walks: chapter 9's examples.
-/
import Derived.Test.YtpedljmpobhimaaDoorHp
namespace Go.Proofs.YtpedljmpobhimaaDoor
open Go.RowKit Go.Shelf
set_option linter.unusedVariables false

theorem ex1 : paL [91, 49, 44, 50, 93, 44, 91, 49, 46, 53, 44, 51, 93] = ⟨21, 6, [], []⟩ := by kernel_rfl
theorem ex2 : paL [91, 49, 44, 50] = ⟨11, 4, [], []⟩ := by kernel_rfl
theorem ex3 : matchL [49, 46, 48] [57] = true := by kernel_rfl
theorem ex4 : matchL [91, 49, 46, 48, 44, 50, 46, 48, 41] [49, 46, 53] = true := by kernel_rfl
theorem ex5 : matchL [91, 49, 46, 48, 44, 50, 46, 48, 41] [50, 46, 48] = false := by kernel_rfl
theorem ex6 : matchL [91, 49, 46, 48, 93] [49] = true := by kernel_rfl
theorem ex7 : matchL [40, 44, 49, 46, 48, 93, 44, 91, 49, 46, 50, 44, 41] [49, 46, 49] = false := by kernel_rfl

/-- Two faults lie in their boxes. -/
structure FF (w W : World) (A B : Nat) : Prop where
  fa : W.heap[A]? = some (.cells #[.int .i64 21, .int .i64 6] 28 (0, 0))
  fb : W.heap[B]? = some (.cells #[.int .i64 11, .int .i64 4] 28 (0, 0))
  bel : Below w.heap.size w W
  kn : Kn W
theorem FF.next {w W W' : World} {A B : Nat} (h : FF w W A B) (hb : Below W.heap.size W W') : FF w W' A B :=
  ⟨(hb.block _ (Array.getElem?_eq_some_iff.1 h.fa).1).trans h.fa, (hb.block _ (Array.getElem?_eq_some_iff.1 h.fb).1).trans h.fb, h.bel.trans (hb.mono h.bel.size), h.kn.below h.kn.pos hb⟩

set_option maxRecDepth 100000 in
set_option maxHeartbeats 4000000 in
theorem awake_any (w : World) (hk : Kn w) :
    Calls Tryd.prog 8 #[] w fun e w' => e = .returned (.bool true) ∧ Below w.heap.size w w' := by
  have P1 := fun W hW => Parse_any ⟨#[91, 49, 44, 50, 93, 44, 91, 49, 46, 53, 44, 51, 93]⟩ W hW
  change ∀ W, Kn W → Calls Tryd.prog 5 _ W (PaPost (paL [91, 49, 44, 50, 93, 44, 91, 49, 46, 53, 44, 51, 93]) W) at P1
  rw [ex1] at P1
  replace P1 := hide P1
  have P2 := fun W hW => Parse_any ⟨#[91, 49, 44, 50]⟩ W hW
  change ∀ W, Kn W → Calls Tryd.prog 5 _ W (PaPost (paL [91, 49, 44, 50]) W) at P2
  rw [ex2] at P2
  replace P2 := hide P2
  have M3 : Hid (∀ W, Kn W → Calls Tryd.prog 15 #[.string ⟨#[49, 46, 48]⟩, .string ⟨#[57]⟩] W fun e w' => e = .returned (.bool true) ∧ Below W.heap.size W w') := fun W hW => by have := Match_any ⟨#[49, 46, 48]⟩ ⟨#[57]⟩ W hW; rw [show matchL _ _ = true from ex3] at this; exact this
  have M4 : Hid (∀ W, Kn W → Calls Tryd.prog 15 #[.string ⟨#[91, 49, 46, 48, 44, 50, 46, 48, 41]⟩, .string ⟨#[49, 46, 53]⟩] W fun e w' => e = .returned (.bool true) ∧ Below W.heap.size W w') := fun W hW => by have := Match_any ⟨#[91, 49, 46, 48, 44, 50, 46, 48, 41]⟩ ⟨#[49, 46, 53]⟩ W hW; rw [show matchL _ _ = true from ex4] at this; exact this
  have M5 : Hid (∀ W, Kn W → Calls Tryd.prog 15 #[.string ⟨#[91, 49, 46, 48, 44, 50, 46, 48, 41]⟩, .string ⟨#[50, 46, 48]⟩] W fun e w' => e = .returned (.bool false) ∧ Below W.heap.size W w') := fun W hW => by have := Match_any ⟨#[91, 49, 46, 48, 44, 50, 46, 48, 41]⟩ ⟨#[50, 46, 48]⟩ W hW; rw [show matchL _ _ = false from ex5] at this; exact this
  have M6 : Hid (∀ W, Kn W → Calls Tryd.prog 15 #[.string ⟨#[91, 49, 46, 48, 93]⟩, .string ⟨#[49]⟩] W fun e w' => e = .returned (.bool true) ∧ Below W.heap.size W w') := fun W hW => by have := Match_any ⟨#[91, 49, 46, 48, 93]⟩ ⟨#[49]⟩ W hW; rw [show matchL _ _ = true from ex6] at this; exact this
  have M7 : Hid (∀ W, Kn W → Calls Tryd.prog 15 #[.string ⟨#[40, 44, 49, 46, 48, 93, 44, 91, 49, 46, 50, 44, 41]⟩, .string ⟨#[49, 46, 49]⟩] W fun e w' => e = .returned (.bool false) ∧ Below W.heap.size W w') := fun W hW => by have := Match_any ⟨#[40, 44, 49, 46, 48, 93, 44, 91, 49, 46, 50, 44, 41]⟩ ⟨#[49, 46, 49]⟩ W hW; rw [show matchL _ _ = false from ex7] at this; exact this
  go_enter Tryd.func8, Tryd.ntmps8
  go_wp2_with fail
  refine (P1.out _ hk).mono ?_
  rintro e w1 ⟨v1, rfl, hm1, b1⟩
  obtain ⟨a1, c1, rfl, _⟩ := id hm1
  have hB1 := (b1.alloc b1.size (.cells #[.string (ofL []), .slice a1 0 c1] 24)).alloc (by rw [World.size_alloc]; have := b1.size; omega) (.cells #[.int .i64 21, .int .i64 6] 28)
  have n1 := World.alloc_heap_new (w1.alloc (.cells #[.string (ofL []), .slice a1 0 c1] 24)) (.cells #[.int .i64 21, .int .i64 6] 28)
  rw [World.size_alloc] at n1
  have HB1 := hide hB1
  have N1 := hide n1
  have hk1 := hide (hk.below hk.pos hB1)
  clear hm1 b1 hB1 n1 hk
  go_wp2_with fail
  generalize (w1.alloc (.cells #[.string (ofL []), .slice a1 0 c1] 24)).alloc (.cells #[.int .i64 21, .int .i64 6] 28) = W1 at *
  generalize w1.heap.size + 1 = A at *
  refine (P2.out _ hk1.out).mono ?_
  rintro e w2 ⟨v2, rfl, hm2, b2⟩
  obtain ⟨a2, c2, rfl, _⟩ := id hm2
  have hB2 := (b2.alloc b2.size (.cells #[.string (ofL []), .slice a2 0 c2] 24)).alloc (by rw [World.size_alloc]; have := b2.size; omega) (.cells #[.int .i64 11, .int .i64 4] 28)
  have n2 := World.alloc_heap_new (w2.alloc (.cells #[.string (ofL []), .slice a2 0 c2] 24)) (.cells #[.int .i64 11, .int .i64 4] 28)
  rw [World.size_alloc] at n2
  have F0 : Hid (FF w ((w2.alloc (.cells #[.string (ofL []), .slice a2 0 c2] 24)).alloc (.cells #[.int .i64 11, .int .i64 4] 28)) A (w2.heap.size + 1)) :=
    ⟨(hB2.block _ (Array.getElem?_eq_some_iff.1 N1.out).1).trans N1.out, n2, HB1.out.trans (hB2.mono HB1.out.size), hk1.out.below hk1.out.pos hB2⟩
  clear hm2 b2 hB2 n2 hk1 HB1 N1
  go_wp2_with fail
  generalize (w2.alloc (.cells #[.string (ofL []), .slice a2 0 c2] 24)).alloc (.cells #[.int .i64 11, .int .i64 4] 28) = W2 at *
  generalize w2.heap.size + 1 = B at *
  refine (M3.out _ F0.out.kn).mono ?_
  rintro e w3 ⟨rfl, b3⟩
  have F3 := hide (F0.out.next b3)
  clear F0 b3
  go_wp2_with fail
  refine (M4.out _ F3.out.kn).mono ?_
  rintro e w4 ⟨rfl, b4⟩
  have F4 := hide (F3.out.next b4)
  clear F3 b4
  go_wp2_with fail
  refine (M5.out _ F4.out.kn).mono ?_
  rintro e w5 ⟨rfl, b5⟩
  have F5 := hide (F4.out.next b5)
  clear F4 b5
  go_wp2_with fail
  refine (M6.out _ F5.out.kn).mono ?_
  rintro e w6 ⟨rfl, b6⟩
  have F6 := hide (F5.out.next b6)
  clear F5 b6
  go_wp2_with fail
  refine (M7.out _ F6.out.kn).mono ?_
  rintro e w7 ⟨rfl, b7⟩
  have F7 := F6.out.next b7
  have q0 : w7.cell? ⟨A, 0, none⟩ = some (.int .i64 21) := cell_at 0 F7.fa rfl
  have q1 : w7.cell? ⟨A, 1, none⟩ = some (.int .i64 6) := cell_at 1 F7.fa rfl
  have q2 : w7.cell? ⟨B, 0, none⟩ = some (.int .i64 11) := cell_at 0 F7.fb rfl
  have q3 : w7.cell? ⟨B, 1, none⟩ = some (.int .i64 4) := cell_at 1 F7.fb rfl
  have HB := hide F7.bel
  clear F7 F6 b7
  go_wp2_with fail
  go_ret
  exact ⟨rfl, HB.out⟩

end Go.Proofs.YtpedljmpobhimaaDoor
