/-
  Walks: the chapter's examples.
-/
import Derived.Test.YthojcidbhojlhaaDj
namespace Go.Proofs.Ythojcidbhojlhaa
open Go.RowKit Go.Shelf
set_option linter.unusedVariables false

/-- The chapter's row of versions. -/
def exs : List (List UInt8) := [[49, 46, 48, 126, 114, 99, 49], [49, 46, 48], [49, 46, 48, 97], [49, 46, 48, 43, 98, 49], [49, 58, 48, 46, 49]]
def exCells : Array Value := #[.string ⟨#[49, 46, 48, 126, 114, 99, 49]⟩, .string ⟨#[49, 46, 48]⟩, .string ⟨#[49, 46, 48, 97]⟩, .string ⟨#[49, 46, 48, 43, 98, 49]⟩, .string ⟨#[49, 58, 48, 46, 49]⟩]
theorem ex_cell (m : Nat) (h : m < 5) : exCells[m]? = some (.string (ofL (exs.getD m []))) := by
  match m, h with
  | 0, _ => rfl
  | 1, _ => rfl
  | 2, _ => rfl
  | 3, _ => rfl
  | 4, _ => rfl
theorem exl0 : cmpT (exs.getD 0 []) (exs.getD 1 []) = -1 := by kernel_rfl
theorem exl1 : cmpT (exs.getD 1 []) (exs.getD 2 []) = -1 := by kernel_rfl
theorem exl2 : cmpT (exs.getD 2 []) (exs.getD 3 []) = -1 := by kernel_rfl
theorem exl3 : cmpT (exs.getD 3 []) (exs.getD 4 []) = -1 := by kernel_rfl
theorem exs_less : ∀ k, k < 4 → cmpT (exs.getD k []) (exs.getD (k + 1) []) = -1 := by
  intro k hk
  match k, hk with
  | 0, _ => exact exl0
  | 1, _ => exact exl1
  | 2, _ => exact exl2
  | 3, _ => exact exl3
theorem ex1 : parseL [49, 58, 50, 45, 51, 58, 52] = .error (11, 7) := by kernel_rfl
theorem ex2 : parseL [49, 97, 58, 49] = .error (10, 2) := by kernel_rfl
theorem ex3 : parseL [49, 58, 50, 58, 51, 45, 52] = .ok ⟨[49], [50, 58, 51], [52]⟩ := by kernel_rfl
theorem ex4 : parseL [49, 46, 48, 48, 50] = .ok ⟨[48], [49, 46, 48, 48, 50], []⟩ := by kernel_rfl
theorem ex5 : parseL [49, 46, 50] = .ok ⟨[48], [49, 46, 50], []⟩ := by kernel_rfl
theorem ex6 : parseL [49] = .ok ⟨[48], [49], []⟩ := by kernel_rfl
theorem ex7 : parseL [50] = .ok ⟨[48], [50], []⟩ := by kernel_rfl
theorem ex8 : decide (ordO ⟨[48], [49, 46, 48, 48, 50], []⟩ ⟨[48], [49, 46, 50], []⟩ = 0) = true := by kernel_rfl
theorem ex9 : decide (ordO ⟨[48], [49], []⟩ ⟨[48], [50], []⟩ < 0) = true := by kernel_rfl

set_option maxRecDepth 100000 in
set_option maxHeartbeats 2000000 in
theorem awake_any (w : World) :
    Calls Try.prog 11 #[] w fun e w' => e = .returned (.bool true) ∧ Below w.heap.size w w' := by
  go_enter Try.func11, Try.ntmps11
  go_wp2_with fail
  have eL : (w.alloc (.cells exCells 9)).heap[w.heap.size]? = some (.cells exCells 9) := World.alloc_heap_new w _
  have bL : Below w.heap.size w (w.alloc (.cells exCells 9)) := (Below.refl _ w).alloc (Nat.le_refl _) _
  generalize hW0 : w.alloc (.cells #[.string ⟨#[49, 46, 48, 126, 114, 99, 49]⟩, .string ⟨#[49, 46, 48]⟩, .string ⟨#[49, 46, 48, 97]⟩, .string ⟨#[49, 46, 48, 43, 98, 49]⟩, .string ⟨#[49, 58, 48, 46, 49]⟩] 9) = W0 at *
  rw [show w.alloc (.cells exCells 9) = W0 from hW0] at eL bL
  clear hW0
  have EL := hide eL
  have BL := hide bL
  clear eL bL
  go_loopw [2] (fun i wr => ∃ k : Nat, 1 ≤ k ∧ k ≤ 5 ∧ i = .int .i64 k ∧ Hid (wr.heap[w.heap.size]? = some (.cells exCells 9)) ∧ Below w.heap.size w wr) (fun i _ => 5 - (intOf i).toNat)
  case atStart => exact ⟨1, by omega, by omega, rfl, EL, BL.out⟩
  case round =>
    obtain ⟨k, h1, h8, rfl, HL, hb⟩ := hrel
    by_cases hlt : k < 5
    · obtain ⟨m, rfl⟩ : ∃ m, k = m + 1 := ⟨k - 1, by omega⟩
      have c0 := cell_at m HL.out (ex_cell m (by omega))
      have c1 := cell_at (m + 1) HL.out (ex_cell (m + 1) hlt)
      have C := hide (fun W => CompareT_any (ofL (exs.getD m [])) (ofL (exs.getD (m + 1) [])) W)
      have HM := hide (exs_less m (by omega))
      go_wp2_with fail
      refine wp_region_still_tail 9 (by kernel_rfl) (by kernel_rfl) ?_
      change wpStill _ _ (World.drew _) _ _ _
      simp only [List.take_succ_cons, List.take_zero, List.drop_succ_cons, List.drop_zero]
      have hmm : ((m : Int) < 5) := by omega
      have hm0 : ((0 : Int) ≤ (m : Int)) := by omega
      have hm1 : ((0 : Int) ≤ (m : Int) + 1) := by omega
      have hwr : IntKind.i64.wrap (m : Int) = (m : Int) := by rw [IntKind.wrap_i64]; omega
      have hmm1 : ((m : Int) + 1 < 5) := by omega
      still_step
      still_step
      still_step
      still_step
      still_step
      still_step
      still_step
      still_step
      still_step
      refine wpStill_nil ?_
      go_wp2_with fail
      refine (C.out _).mono ?_
      rintro e w' ⟨rfl, b1⟩
      rw [ofL_data, ofL_data, HM.out]
      go_wp2_with fail
      go_roundw
      case rel => exact ⟨m + 1 + 1, by omega, by omega, by go_num, (b1.block _ (Array.getElem?_eq_some_iff.1 HL.out).1).trans HL.out, hb.drew.trans (b1.mono hb.size)⟩
      case measure => simp [intOf]; omega
    · have P1 := fun W => Parse_any ⟨#[49, 58, 50, 45, 51, 58, 52]⟩ W
      have P2 := fun W => Parse_any ⟨#[49, 97, 58, 49]⟩ W
      have P3 := fun W => Parse_any ⟨#[49, 58, 50, 58, 51, 45, 52]⟩ W
      rw [pres_err (show parseL (ByteArray.mk #[49, 58, 50, 45, 51, 58, 52]).data.toList = .error (11, 7) from ex1)] at P1
      rw [pres_err (show parseL (ByteArray.mk #[49, 97, 58, 49]).data.toList = .error (10, 2) from ex2)] at P2
      rw [pres_ok (show parseL (ByteArray.mk #[49, 58, 50, 58, 51, 45, 52]).data.toList = .ok ⟨[49], [50, 58, 51], [52]⟩ from ex3)] at P3
      have H1 := fun W => Holds_eq ⟨#[49, 46, 48, 48, 50]⟩ ⟨#[49, 46, 50]⟩ _ _ W (show parseL (ByteArray.mk #[49, 46, 48, 48, 50]).data.toList = _ from ex4) (show parseL (ByteArray.mk #[49, 46, 50]).data.toList = _ from ex5)
      have H2 := fun W => Holds_lt ⟨#[49]⟩ ⟨#[50]⟩ _ _ W (show parseL (ByteArray.mk #[49]).data.toList = _ from ex6) (show parseL (ByteArray.mk #[50]).data.toList = _ from ex7)
      rw [ex8] at H1
      rw [ex9] at H2
      have P1 := hide P1
      have P2 := hide P2
      have P3 := hide P3
      have H1 := hide H1
      have H2 := hide H2
      go_wp2_with fail
      refine (P1.out _).mono ?_
      rintro e w1 ⟨rfl, b1⟩
      go_wp2_with fail
      refine (P2.out _).mono ?_
      rintro e w2 ⟨rfl, b2⟩
      obtain ⟨eA1, eF1⟩ := lies23 b2
      go_wp2_with fail
      refine (P3.out _).mono ?_
      rintro e w3 ⟨rfl, b3⟩
      obtain ⟨eA2, eF2⟩ := lies23 b3
      have B1 := hb.trans (b1.mono hb.size)
      have B1a := B1.alloc B1.size (.cells #[.string ⟨#[]⟩, .string ⟨#[]⟩, .string ⟨#[]⟩] 23)
      have B1b := B1a.alloc B1a.size (.cells #[.int .i64 11, .int .i64 7] 26)
      have B2 := B1b.trans (b2.mono B1b.size)
      have B2a := B2.alloc B2.size (.cells #[.string ⟨#[]⟩, .string ⟨#[]⟩, .string ⟨#[]⟩] 23)
      have B2b := B2a.alloc B2a.size (.cells #[.int .i64 10, .int .i64 2] 26)
      have B3 := B2b.trans (b3.mono B2b.size)
      have B3a := B3.alloc B3.size (.cells #[.string (ofL [49]), .string (ofL [50, 58, 51]), .string (ofL [52])] 23)
      have B3b := B3a.alloc B3a.size (.cells #[.int .i64 0, .int .i64 0] 26)
      have l1 := (Array.getElem?_eq_some_iff.1 eF1).1
      have eF1' := (b3.block _ (by simp; omega)).trans ((Below.heap_alloc _ _ _ (by simp; omega)).trans ((Below.heap_alloc _ (.cells #[.string ⟨#[]⟩, .string ⟨#[]⟩, .string ⟨#[]⟩] 23) _ l1).trans eF1))
      have m1 := (Array.getElem?_eq_some_iff.1 eF1').1
      have m2 := (Array.getElem?_eq_some_iff.1 eF2).1
      have d0 := cell_at 0 eF1' rfl
      have d1 := cell_at 1 eF1' rfl
      have d2 := cell_at 0 eF2 rfl
      have d3 := cell_at 1 eF2 rfl
      have q1 : w1.heap.size + 1 < w3.heap.size + 1 := by omega
      have q2 : w2.heap.size + 1 < w3.heap.size + 1 := by omega
      have k1 : ((ofL [49]).toList == [49]) = true := by rw [toL, ofL_data]; rfl
      have k2 : ((ofL [50, 58, 51]).toList == [50, 58, 51]) = true := by rw [toL, ofL_data]; rfl
      have k3 : ((ofL [52]).toList == [52]) = true := by rw [toL, ofL_data]; rfl
      have B3b := hide B3b
      clear B1 B1a B1b B2 B2a B2b B3 B3a b1 b2 b3
      go_wp2_with fail
      refine (H1.out _).mono ?_
      rintro e w4 ⟨rfl, b4⟩
      go_wp2_with fail
      refine (H2.out _).mono ?_
      rintro e w5 ⟨rfl, b5⟩
      go_wp2_with fail
      go_ret
      have B4 := B3b.out.trans (b4.mono B3b.out.size)
      exact ⟨rfl, B4.trans (b5.mono B4.size)⟩

end Go.Proofs.Ythojcidbhojlhaa
