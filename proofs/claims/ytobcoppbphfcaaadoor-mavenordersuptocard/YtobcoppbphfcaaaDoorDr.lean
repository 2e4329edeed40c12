/-
  Walks: the chapter's examples.
-/
import Derived.Test.YtobcoppbphfcaaaDoorDq
namespace Go.Proofs.YtobcoppbphfcaaaDoor
open Go.RowKit Go.Shelf
set_option linter.unusedVariables false

/-- The chapter's row of versions. -/
def exs : List (List UInt8) := [[49, 45, 97, 108, 112, 104, 97, 45, 49], [49, 45, 98, 101, 116, 97], [49, 45, 114, 99], [49, 45, 83, 78, 65, 80, 83, 72, 79, 84], [49], [49, 45, 115, 112], [49, 45, 102, 111, 111], [49, 45, 49], [49, 46, 49]]
def exCells : Array Value := #[.string ⟨#[49, 45, 97, 108, 112, 104, 97, 45, 49]⟩, .string ⟨#[49, 45, 98, 101, 116, 97]⟩, .string ⟨#[49, 45, 114, 99]⟩, .string ⟨#[49, 45, 83, 78, 65, 80, 83, 72, 79, 84]⟩, .string ⟨#[49]⟩, .string ⟨#[49, 45, 115, 112]⟩, .string ⟨#[49, 45, 102, 111, 111]⟩, .string ⟨#[49, 45, 49]⟩, .string ⟨#[49, 46, 49]⟩]
theorem ex_cell (m : Nat) (h : m < 9) : exCells[m]? = some (.string (ofL (exs.getD m []))) := by
  match m, h with
  | 0, _ => rfl
  | 1, _ => rfl
  | 2, _ => rfl
  | 3, _ => rfl
  | 4, _ => rfl
  | 5, _ => rfl
  | 6, _ => rfl
  | 7, _ => rfl
  | 8, _ => rfl
theorem exl0 : cmpT (exs.getD 0 []) (exs.getD 1 []) = -1 := by kernel_rfl
theorem exl1 : cmpT (exs.getD 1 []) (exs.getD 2 []) = -1 := by kernel_rfl
theorem exl2 : cmpT (exs.getD 2 []) (exs.getD 3 []) = -1 := by kernel_rfl
theorem exl3 : cmpT (exs.getD 3 []) (exs.getD 4 []) = -1 := by kernel_rfl
theorem exl4 : cmpT (exs.getD 4 []) (exs.getD 5 []) = -1 := by kernel_rfl
theorem exl5 : cmpT (exs.getD 5 []) (exs.getD 6 []) = -1 := by kernel_rfl
theorem exl6 : cmpT (exs.getD 6 []) (exs.getD 7 []) = -1 := by kernel_rfl
theorem exl7 : cmpT (exs.getD 7 []) (exs.getD 8 []) = -1 := by kernel_rfl
theorem exs_less : ∀ k, k < 8 → cmpT (exs.getD k []) (exs.getD (k + 1) []) = -1 := by
  intro k hk
  match k, hk with
  | 0, _ => exact exl0
  | 1, _ => exact exl1
  | 2, _ => exact exl2
  | 3, _ => exact exl3
  | 4, _ => exact exl4
  | 5, _ => exact exl5
  | 6, _ => exact exl6
  | 7, _ => exact exl7
theorem ex0 : cmpT [49, 45, 97, 49] [49, 45, 97, 108, 112, 104, 97, 45, 49] = 0 := by kernel_rfl
theorem ex1 : cmpT [49, 45, 67, 82] [49, 45, 114, 99] = 0 := by kernel_rfl
theorem ex2 : cmpT [49, 46, 48, 46, 48] [49, 45, 103, 97] = 0 := by kernel_rfl
theorem ex3 : cmpT [50, 46, 48, 46, 49, 45, 120, 121, 122] [50, 46, 48, 46, 49] = 1 := by kernel_rfl
theorem exc : canonL [49, 45, 49, 46, 102, 111, 111, 45, 98, 97, 114, 49, 98, 97, 122, 45, 46, 49] = [49, 45, 49, 46, 102, 111, 111, 45, 98, 97, 114, 45, 49, 45, 98, 97, 122, 45, 48, 46, 49] := by kernel_rfl
theorem exn : snapL [49, 45, 83, 78, 65, 80, 83, 72, 79, 84] = true := by kernel_rfl

set_option maxRecDepth 100000 in
set_option maxHeartbeats 2000000 in
theorem awake_any (w : World) (hk : Kn w) :
    Calls Tryd.prog 17 #[] w fun e w' => e = .returned (.bool true) ∧ Below w.heap.size w w' := by
  have HKN := hide hk
  clear hk
  go_enter Tryd.func17, Tryd.ntmps17
  go_wp2_with fail
  have eL : (w.alloc (.cells exCells 9)).heap[w.heap.size]? = some (.cells exCells 9) := World.alloc_heap_new w _
  have bL : Below w.heap.size w (w.alloc (.cells exCells 9)) := (Below.refl _ w).alloc (Nat.le_refl _) _
  generalize hW0 : w.alloc (.cells #[.string ⟨#[49, 45, 97, 108, 112, 104, 97, 45, 49]⟩, .string ⟨#[49, 45, 98, 101, 116, 97]⟩, .string ⟨#[49, 45, 114, 99]⟩, .string ⟨#[49, 45, 83, 78, 65, 80, 83, 72, 79, 84]⟩, .string ⟨#[49]⟩, .string ⟨#[49, 45, 115, 112]⟩, .string ⟨#[49, 45, 102, 111, 111]⟩, .string ⟨#[49, 45, 49]⟩, .string ⟨#[49, 46, 49]⟩] 9) = W0 at *
  rw [show w.alloc (.cells exCells 9) = W0 from hW0] at eL bL
  clear hW0
  have EL := hide eL
  have BL := hide bL
  clear eL bL
  go_loopw [2] (fun i wr => ∃ k : Nat, 1 ≤ k ∧ k ≤ 9 ∧ i = .int .i64 k ∧ Hid (wr.heap[w.heap.size]? = some (.cells exCells 9)) ∧ Below w.heap.size w wr) (fun i _ => 9 - (intOf i).toNat)
  case atStart => exact ⟨1, by omega, by omega, rfl, EL, BL.out⟩
  case round =>
    obtain ⟨k, h1, h8, rfl, HL, hb⟩ := hrel
    by_cases hlt : k < 9
    · obtain ⟨m, rfl⟩ : ∃ m, k = m + 1 := ⟨k - 1, by omega⟩
      have c0 := cell_at m HL.out (ex_cell m (by omega))
      have c1 := cell_at (m + 1) HL.out (ex_cell (m + 1) hlt)
      have C := hide (CompareT_any (ofL (exs.getD m [])) (ofL (exs.getD (m + 1) [])) wr.drew ((HKN.out.below HKN.out.pos hb).drew))
      have HM := hide (exs_less m (by omega))
      go_wp2_with fail
      refine wp_region_still_tail 9 (by kernel_rfl) (by kernel_rfl) ?_
      change wpStill _ _ (World.drew _) _ _ _
      simp only [List.take_succ_cons, List.take_zero, List.drop_succ_cons, List.drop_zero]
      have hmm : ((m : Int) < 9) := by omega
      have hm0 : ((0 : Int) ≤ (m : Int)) := by omega
      have hm1 : ((0 : Int) ≤ (m : Int) + 1) := by omega
      have hwr : IntKind.i64.wrap (m : Int) = (m : Int) := by rw [IntKind.wrap_i64]; omega
      have hmm1 : ((m : Int) + 1 < 9) := by omega
      still_step
      still_step
      still_step
      still_step
      still_step
      still_step
      still_step
      still_step
      still_step
      refine wpStill_nil ?_
      go_wp2_with fail
      refine C.out.mono ?_
      rintro e w' ⟨rfl, b1⟩
      rw [ofL_data, ofL_data, HM.out]
      go_wp2_with fail
      go_roundw
      case rel => exact ⟨m + 1 + 1, by omega, by omega, by go_num, (b1.block _ (Array.getElem?_eq_some_iff.1 HL.out).1).trans HL.out, hb.drew.trans (b1.mono hb.size)⟩
      case measure => simp [intOf]; omega
    · have hkr := hide (HKN.out.below HKN.out.pos hb)
      have P0 := fun W h => CompareT_any ⟨#[49, 45, 97, 49]⟩ ⟨#[49, 45, 97, 108, 112, 104, 97, 45, 49]⟩ W h
      rw [show cmpT (ByteArray.mk #[49, 45, 97, 49]).data.toList (ByteArray.mk #[49, 45, 97, 108, 112, 104, 97, 45, 49]).data.toList = 0 from ex0] at P0
      have P0 := hide P0
      have P1 := fun W h => CompareT_any ⟨#[49, 45, 67, 82]⟩ ⟨#[49, 45, 114, 99]⟩ W h
      rw [show cmpT (ByteArray.mk #[49, 45, 67, 82]).data.toList (ByteArray.mk #[49, 45, 114, 99]).data.toList = 0 from ex1] at P1
      have P1 := hide P1
      have P2 := fun W h => CompareT_any ⟨#[49, 46, 48, 46, 48]⟩ ⟨#[49, 45, 103, 97]⟩ W h
      rw [show cmpT (ByteArray.mk #[49, 46, 48, 46, 48]).data.toList (ByteArray.mk #[49, 45, 103, 97]).data.toList = 0 from ex2] at P2
      have P2 := hide P2
      have P3 := fun W h => CompareT_any ⟨#[50, 46, 48, 46, 49, 45, 120, 121, 122]⟩ ⟨#[50, 46, 48, 46, 49]⟩ W h
      rw [show cmpT (ByteArray.mk #[50, 46, 48, 46, 49, 45, 120, 121, 122]).data.toList (ByteArray.mk #[50, 46, 48, 46, 49]).data.toList = 1 from ex3] at P3
      have P3 := hide P3
      have PC := fun W h => Canon_any ⟨#[49, 45, 49, 46, 102, 111, 111, 45, 98, 97, 114, 49, 98, 97, 122, 45, 46, 49]⟩ W h
      rw [show canonL (ByteArray.mk #[49, 45, 49, 46, 102, 111, 111, 45, 98, 97, 114, 49, 98, 97, 122, 45, 46, 49]).data.toList = [49, 45, 49, 46, 102, 111, 111, 45, 98, 97, 114, 45, 49, 45, 98, 97, 122, 45, 48, 46, 49] from exc] at PC
      have PC := hide PC
      have PN := fun W h => Snapshot_any ⟨#[49, 45, 83, 78, 65, 80, 83, 72, 79, 84]⟩ W h
      rw [show snapL (ByteArray.mk #[49, 45, 83, 78, 65, 80, 83, 72, 79, 84]).data.toList = true from exn] at PN
      have PN := hide PN
      have kc : ((ofL [49, 45, 49, 46, 102, 111, 111, 45, 98, 97, 114, 45, 49, 45, 98, 97, 122, 45, 48, 46, 49]).toList == [49, 45, 49, 46, 102, 111, 111, 45, 98, 97, 114, 45, 49, 45, 98, 97, 122, 45, 48, 46, 49]) = true := by rw [toL, ofL_data]; rfl
      go_wp2_with fail
      refine (P0.out _ hkr.out).mono ?_
      rintro e w1 ⟨rfl, b1⟩
      have k1 := hide ((hkr.out).below (hkr.out).pos b1)
      go_wp2_with fail
      refine (P1.out _ k1.out).mono ?_
      rintro e w2 ⟨rfl, b2⟩
      have k2 := hide ((k1.out).below (k1.out).pos b2)
      go_wp2_with fail
      refine (P2.out _ k2.out).mono ?_
      rintro e w3 ⟨rfl, b3⟩
      have k3 := hide ((k2.out).below (k2.out).pos b3)
      go_wp2_with fail
      refine (PC.out _ k3.out).mono ?_
      rintro e w4 ⟨rfl, b4⟩
      have k4 := hide ((k3.out).below (k3.out).pos b4)
      go_wp2_with fail
      refine (PN.out _ k4.out).mono ?_
      rintro e w5 ⟨rfl, b5⟩
      have k5 := hide ((k4.out).below (k4.out).pos b5)
      go_wp2_with fail
      refine (P3.out _ k5.out).mono ?_
      rintro e w6 ⟨rfl, b6⟩
      have k6 := hide ((k5.out).below (k5.out).pos b6)
      go_wp2_with fail
      go_ret
      have B1 := hb.trans (b1.mono hb.size)
      have B2 := B1.trans (b2.mono B1.size)
      have B3 := B2.trans (b3.mono B2.size)
      have B4 := B3.trans (b4.mono B3.size)
      have B5 := B4.trans (b5.mono B4.size)
      have B6 := B5.trans (b6.mono B5.size)
      exact ⟨rfl, B6⟩

end Go.Proofs.YtobcoppbphfcaaaDoor
