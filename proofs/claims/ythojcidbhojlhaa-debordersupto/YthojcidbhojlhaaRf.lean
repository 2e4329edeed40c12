/-
  Walks: the program's Sort.
-/
import Derived.Test.YthojcidbhojlhaaRe
namespace Go.Proofs.Ythojcidbhojlhaa
open Go.RowKit Go.Shelf
set_option linter.unusedVariables false

/-- A reading of nothing. -/
def zero72 : Array Value := #[.string ⟨#[]⟩, .string ⟨#[]⟩, .string ⟨#[]⟩, .string ⟨#[]⟩, .bool false]
theorem parse_nil : parseL [] = .error (11, 0) := by kernel_rfl
theorem rdE_nil : rdE.row [] = [.string ⟨#[]⟩, .string ⟨#[]⟩, .string ⟨#[]⟩, .string ⟨#[]⟩, .bool false] := by
  unfold Cel.row rdE
  dsimp only
  rw [parse_nil]
  rfl
theorem made_flat (n : Nat) : (madeCells zero72 (n * 5)).toList = rdE.flat (List.replicate n []) := by
  apply List.ext_getElem?
  intro i
  by_cases hi : i < n * 5
  · have hq : (List.replicate n ([] : List UInt8))[i / 5]? = some [] := by
      rw [List.getElem?_replicate, if_pos (by omega)]
    obtain ⟨h0, h1, h2, h3, h4⟩ := flat_at rdE _ _ _ hq
    have e : (madeCells zero72 (n * 5)).toList[i]? = some (zero72[i % 5]!) := by
      unfold madeCells
      rw [Array.getElem?_toList, Array.getElem?_map, Array.getElem?_range, if_pos hi]
      rfl
    rw [e]
    have c0 : (.string (rdE.c0 []) : Value) = .string ⟨#[]⟩ := rfl
    have c1 : (.string (rdE.c1 []) : Value) = .string ⟨#[]⟩ := by unfold rdE; dsimp only; rw [parse_nil]
    have c2 : (.string (rdE.c2 []) : Value) = .string ⟨#[]⟩ := by unfold rdE; dsimp only; rw [parse_nil]
    have c3 : (.string (rdE.c3 []) : Value) = .string ⟨#[]⟩ := by unfold rdE; dsimp only; rw [parse_nil]
    have c4 : (.bool (rdE.c4 []) : Value) = .bool false := by unfold rdE; dsimp only; rw [parse_nil]
    rw [c0] at h0
    rw [c1] at h1
    rw [c2] at h2
    rw [c3] at h3
    rw [c4] at h4
    have hr : i % 5 = 0 ∨ i % 5 = 1 ∨ i % 5 = 2 ∨ i % 5 = 3 ∨ i % 5 = 4 := by omega
    rcases hr with hr | hr | hr | hr | hr
    · rw [hr, show i = i / 5 * 5 by omega, h0]; rfl
    · rw [hr, show i = i / 5 * 5 + 1 by omega, h1]; rfl
    · rw [hr, show i = i / 5 * 5 + 2 by omega, h2]; rfl
    · rw [hr, show i = i / 5 * 5 + 3 by omega, h3]; rfl
    · rw [hr, show i = i / 5 * 5 + 4 by omega, h4]; rfl
  · rw [List.getElem?_eq_none (by rw [Array.length_toList, size_madeCells]; omega), List.getElem?_eq_none (by rw [flat_len, List.length_replicate]; omega)]

theorem inf72 : ∃ i, Try.prog.info? 72 = some i ∧ i.zero = some (.agg zero72) ∧ i.bytes = 72 ∧ i.size = 5 := by
  cases h : Try.prog.info? 72 with
  | none => exact absurd (show (Try.prog.info? 72).isSome = true by kernel_rfl) (by rw [h]; simp)
  | some i =>
    refine ⟨i, rfl, ?_, ?_, ?_⟩
    · have : (Try.prog.info? 72).bind (fun i => i.zero) = some (.agg zero72) := by kernel_rfl
      rwa [h] at this
    · have : (Try.prog.info? 72).map (fun i => i.bytes) = some 72 := by kernel_rfl
      rw [h] at this; simpa using this
    · have : (Try.prog.info? 72).map (fun i => i.size) = some 5 := by kernel_rfl
      rw [h] at this; simpa using this
theorem inf9 : ∃ i, Try.prog.info? 9 = some i ∧ i.zero = some (.string ⟨#[]⟩) ∧ i.bytes = 16 ∧ i.size = 1 := by
  cases h : Try.prog.info? 9 with
  | none => exact absurd (show (Try.prog.info? 9).isSome = true by kernel_rfl) (by rw [h]; simp)
  | some i =>
    refine ⟨i, rfl, ?_, ?_, ?_⟩
    · have : (Try.prog.info? 9).bind (fun i => i.zero) = some (.string ⟨#[]⟩) := by kernel_rfl
      rwa [h] at this
    · have : (Try.prog.info? 9).map (fun i => i.bytes) = some 16 := by kernel_rfl
      rw [h] at this; simpa using this
    · have : (Try.prog.info? 9).map (fun i => i.size) = some 1 := by kernel_rfl
      rw [h] at this; simpa using this
theorem mk72 (n : Nat) (hn : n ≤ 1048576) (w : World) : (Instr.makeSlice 74 (.int .i64 (n : Int)) (.int .i64 (n : Int))).run Try.prog w = .ok (.slice (some ⟨w.heap.size, 0, none⟩) n n) (w.alloc (.cells (rdE.flat (List.replicate n [])).toArray 72)) := by
  obtain ⟨i, h1, h2, h3, h4⟩ := inf72
  have h := run_make (P := Try.prog) w 74 72 i (.agg zero72) Try.underlying74 h1 h2 .i64 .i64 (n : Int) (n : Int) (by omega) (Int.le_refl _) (by rw [h3]; omega) (by omega)
  rw [h, h4, Int.toNat_natCast]
  have e : madeCells zero72 (n * 5) = (rdE.flat (List.replicate n [])).toArray := by rw [← made_flat]
  rw [← e]
  rfl
theorem mk9 (n : Nat) (hn : n ≤ 1048576) (w : World) : (Instr.makeSlice 33 (.int .i64 (n : Int)) (.int .i64 (n : Int))).run Try.prog w = .ok (.slice (some ⟨w.heap.size, 0, none⟩) n n) (w.alloc (.cells (List.replicate n (.string ⟨#[]⟩)).toArray 9)) := by
  obtain ⟨i, h1, h2, h3, h4⟩ := inf9
  have h := run_make (P := Try.prog) w 33 9 i (.string ⟨#[]⟩) Try.underlying33 h1 h2 .i64 .i64 (n : Int) (n : Int) (by omega) (Int.le_refl _) (by rw [h3]; omega) (by omega)
  rw [h, h4, Int.toNat_natCast, Nat.mul_one]
  have e : madeCells #[.string ⟨#[]⟩] n = (List.replicate n (.string ⟨#[]⟩ : Value)).toArray := by rw [← toList_madeCells_one]
  rw [← e]
  rfl

end Go.Proofs.Ythojcidbhojlhaa
