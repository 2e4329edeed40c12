/-
  Walks: chapter 1's examples.
-/
import Derived.Test.YtglceodiajbhiaaWl
namespace Go.Proofs.Ytglceodiajbhiaa
open Go.RowKit
set_option linter.unusedVariables false

theorem ex_lines : linesL [97, 13, 10, 98] = [(0, 1, 1), (3, 4, 2)] := by decide +kernel
theorem ex_cuts : cuts 44 [97, 44, 44, 98] = [(0, 1), (2, 2), (3, 4)] := by decide +kernel
theorem ex_trim1 : trimL [48, 48, 55] = [55] := by decide +kernel
theorem ex_trim2 : trimL [48, 48, 48] = [48] := by decide +kernel
theorem ex_cmp : cmpD [49, 48] [57] = 1 := by decide +kernel
theorem ex_next1 : nextL [57, 57] = [49, 48, 48] := by decide +kernel
theorem ex_next2 : nextL [120] = [49] := by decide +kernel
theorem ex_word : wordI [112, 114, 101, 118, 105, 101, 119, 49] 0 [⟨#[112, 114, 101]⟩, ⟨#[112, 114, 101, 118, 105, 101, 119]⟩] = (⟨#[112, 114, 101, 118, 105, 101, 119]⟩, true) := by decide +kernel

theorem exTrim1 (w : World) : Calls Try.prog 17 #[.string ⟨#[48, 48, 55]⟩] w fun e w' => e = .returned (.string ⟨#[55]⟩) ∧ w' = w := by
  have h := Trim_any ⟨#[48, 48, 55]⟩ w (by decide)
  rw [show (ByteArray.mk #[48, 48, 55]).data.toList = [48, 48, 55] from rfl, ex_trim1] at h
  exact h
theorem exTrim2 (w : World) : Calls Try.prog 17 #[.string ⟨#[48, 48, 48]⟩] w fun e w' => e = .returned (.string ⟨#[48]⟩) ∧ w' = w := by
  have h := Trim_any ⟨#[48, 48, 48]⟩ w (by decide)
  rw [show (ByteArray.mk #[48, 48, 48]).data.toList = [48, 48, 48] from rfl, ex_trim2] at h
  exact h
theorem exCmp (w : World) : Calls Try.prog 19 #[.string ⟨#[49, 48]⟩, .string ⟨#[57]⟩] w fun e w' => e = .returned (.int .i64 1) ∧ w' = w := by
  have h := Cmp_any ⟨#[49, 48]⟩ ⟨#[57]⟩ w (by decide) (by decide)
  rw [show (ByteArray.mk #[49, 48]).data.toList = [49, 48] from rfl, show (ByteArray.mk #[57]).data.toList = [57] from rfl, ex_cmp] at h
  exact h
theorem exNext1 (w : World) : Calls Try.prog 21 #[.string ⟨#[57, 57]⟩] w fun e w' => e = .returned (.string ⟨#[49, 48, 48]⟩) ∧ Below w.heap.size w w' := by
  have h := Next_any ⟨#[57, 57]⟩ w (by decide)
  rw [show (ByteArray.mk #[57, 57]).data.toList = [57, 57] from rfl, ex_next1] at h
  exact h
theorem exNext2 (w : World) : Calls Try.prog 21 #[.string ⟨#[120]⟩] w fun e w' => e = .returned (.string ⟨#[49]⟩) ∧ Below w.heap.size w w' := by
  have h := Next_any ⟨#[120]⟩ w (by decide)
  rw [show (ByteArray.mk #[120]).data.toList = [120] from rfl, ex_next2] at h
  exact h
theorem exSplit (w : World) : Calls Try.prog 28 #[.string ⟨#[97, 44, 44, 98]⟩, .int .u8 44] w fun e w' => ∃ ao cap, e = .returned (.slice ao 3 cap) ∧ Below w.heap.size w w' := by
  have h := Split_any ⟨#[97, 44, 44, 98]⟩ 44 w (by decide)
  rw [show (ByteArray.mk #[97, 44, 44, 98]).data.toList = [97, 44, 44, 98] from rfl, ex_cuts] at h
  refine h.mono ?_
  rintro e w' ⟨v, rfl, hrow, hb⟩
  obtain ⟨ao, cap, rfl⟩ := row_slice hrow
  exact ⟨ao, cap, rfl, hb⟩
theorem exLines (w : World) : Calls Try.prog 26 #[.string ⟨#[97, 13, 10, 98]⟩] w fun e w' => ∃ g cap, e = .returned (.slice (some ⟨g, 0, none⟩) 2 cap) ∧ g < w'.heap.size ∧ w'.cell? ⟨g, 3, none⟩ = some (.string ⟨#[98]⟩) ∧ w'.cell? ⟨g, 4, none⟩ = some (.int .i64 3) ∧ w'.cell? ⟨g, 5, none⟩ = some (.int .i64 2) ∧ Below w.heap.size w w' := by
  have h := Lines_any ⟨#[97, 13, 10, 98]⟩ w (by decide)
  rw [show (ByteArray.mk #[97, 13, 10, 98]).data.toList = [97, 13, 10, 98] from rfl, ex_lines] at h
  refine h.mono ?_
  rintro e w' ⟨v, rfl, hrow, hb⟩
  obtain ⟨g, cap, rfl⟩ := ownsRow_succ (k := 1) hrow
  have c3 := hrow.cellAt 3 (by decide)
  have c4 := hrow.cellAt 4 (by decide)
  have c5 := hrow.cellAt 5 (by decide)
  have hlt := hrow.lt g rfl
  have e3 : (lnCells ⟨#[97, 13, 10, 98]⟩ [(0, 1, 1), (3, 4, 2)])[3]? = some (.string ⟨#[98]⟩) := by kernel_rfl
  have e4 : (lnCells ⟨#[97, 13, 10, 98]⟩ [(0, 1, 1), (3, 4, 2)])[4]? = some (.int .i64 3) := by kernel_rfl
  have e5 : (lnCells ⟨#[97, 13, 10, 98]⟩ [(0, 1, 1), (3, 4, 2)])[5]? = some (.int .i64 2) := by kernel_rfl
  exact ⟨g, cap, rfl, hlt.2, c3.trans e3, c4.trans e4, c5.trans e5, hb⟩
theorem exWord (w : World) : Calls Try.prog 10 #[.string ⟨#[112, 114, 101, 118, 105, 101, 119, 49]⟩, .int .i64 0, .slice (some ⟨w.heap.size, 0, none⟩) 2 2] (w.alloc (.cells #[.string ⟨#[112, 114, 101]⟩, .string ⟨#[112, 114, 101, 118, 105, 101, 119]⟩] 9)) fun e w' => e = .returned (.tuple #[.string ⟨#[112, 114, 101, 118, 105, 101, 119]⟩, .bool true]) ∧ w' = w.alloc (.cells #[.string ⟨#[112, 114, 101]⟩, .string ⟨#[112, 114, 101, 118, 105, 101, 119]⟩] 9) := by
  have h := Word_any ⟨#[112, 114, 101, 118, 105, 101, 119, 49]⟩ 0 (some ⟨w.heap.size, 0, none⟩) [⟨#[112, 114, 101]⟩, ⟨#[112, 114, 101, 118, 105, 101, 119]⟩] 2 (w.alloc (.cells #[.string ⟨#[112, 114, 101]⟩, .string ⟨#[112, 114, 101, 118, 105, 101, 119]⟩] 9)) (by decide) (by decide)
    (.inr ⟨_, 0, rfl, fun i hi => by
      rw [Nat.zero_add]
      have hm := World.cell?_alloc_mark w #[.string ⟨#[112, 114, 101]⟩, .string ⟨#[112, 114, 101, 118, 105, 101, 119]⟩] 9 (0, 0) i
      match i, hi with
      | 0, _ => exact hm
      | 1, _ => exact hm⟩)
  rw [show (ByteArray.mk #[112, 114, 101, 118, 105, 101, 119, 49]).data.toList = [112, 114, 101, 118, 105, 101, 119, 49] from rfl, ex_word] at h
  exact h

set_option maxHeartbeats 2000000 in
theorem awake_any (w : World) : Calls Try.prog 16 #[] w fun e w' => e = .returned (.bool true) ∧ Below w.heap.size w w' := by
  go_enter Try.func16, Try.ntmps16
  go_wp2_with fail
  refine (exLines _).mono ?_
  rintro e w1 ⟨g, cap, rfl, hg, c3, c4, c5, hb1⟩
  go_wp2_with fail
  refine (exWord _).mono ?_
  rintro e w2 ⟨rfl, hw2⟩
  have hb2 : Below w1.heap.size w1 w2 := by rw [hw2]; exact (Below.refl _ _).alloc (Nat.le_refl _) _
  clear hw2
  go_wp2_with fail
  refine (exTrim1 _).mono ?_
  rintro e w3 ⟨rfl, rfl⟩
  go_wp2_with fail
  refine (exTrim2 _).mono ?_
  rintro e w4 ⟨rfl, rfl⟩
  go_wp2_with fail
  refine (exCmp _).mono ?_
  rintro e w5 ⟨rfl, rfl⟩
  go_wp2_with fail
  refine (exNext1 _).mono ?_
  rintro e w6 ⟨rfl, hb6⟩
  go_wp2_with fail
  refine (exNext2 _).mono ?_
  rintro e w7 ⟨rfl, hb7⟩
  have hb17 : Below w1.heap.size w1 w7 := hb2.trans ((hb6.mono hb2.size).trans (hb7.mono (Nat.le_trans hb2.size hb6.size)))
  have d3 := (hb17.cell (p := ⟨g, 3, none⟩) hg).trans c3
  have d4 := (hb17.cell (p := ⟨g, 4, none⟩) hg).trans c4
  have d5 := (hb17.cell (p := ⟨g, 5, none⟩) hg).trans c5
  have hbw : Below w.heap.size w w7 := hb1.trans (hb17.mono hb1.size)
  clear c3 c4 c5 hb1 hb2 hb6 hb7 hb17
  go_wp2_with fail
  refine (exSplit _).mono ?_
  rintro e w8 ⟨ao, cap8, rfl, hb8⟩
  have hbw8 : Below w.heap.size w w8 := hbw.trans (hb8.mono hbw.size)
  go_wp2_with fail
  go_ret
  exact ⟨rfl, hbw8⟩

end Go.Proofs.Ytglceodiajbhiaa
