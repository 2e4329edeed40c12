/-
  Walks: strings.Cut at ":", strings.IndexByte, strings.LastIndexByte; digits; an epoch.
-/
import Derived.Test.YthojcidbhojlhaaPl
import Derived.WalkSmall
namespace Go.Proofs.Ythojcidbhojlhaa
open Go.RowKit Go.Shelf
set_option linter.unusedVariables false

theorem cutC_none : ∀ l : List UInt8, Lib.indexByte l 58 = -1 → cutC l = l
  | [], _ => rfl
  | c :: r, h => by
    unfold Lib.indexByte at h
    by_cases hc : (c == 58) = true
    · rw [if_pos hc] at h; cases h
    · rw [if_neg hc] at h
      by_cases hi : (Lib.indexByte r 58 == -1) = true
      · have := cutC_none r (by simpa using hi)
        unfold cutC at *
        rw [List.takeWhile_cons, if_pos (by simpa [bne] using hc), this]
      · rw [if_neg hi] at h
        have := Lib.indexByte_ge r 58
        have hi' : ¬ Lib.indexByte r 58 = -1 := by simpa using hi
        omega
theorem cutC_some : ∀ (l : List UInt8) (i : Nat), Lib.indexByte l 58 = i → cutC l = l.take i ∧ i < l.length
  | [], i, h => by have h' : (-1 : Int) = i := h; omega
  | c :: r, i, h => by
    unfold Lib.indexByte at h
    by_cases hc : (c == 58) = true
    · rw [if_pos hc] at h
      have : i = 0 := by omega
      subst this
      refine ⟨?_, by simp⟩
      unfold cutC
      rw [List.takeWhile_cons, if_neg (by simpa [bne] using hc)]
      rfl
    · rw [if_neg hc] at h
      by_cases hi : (Lib.indexByte r 58 == -1) = true
      · rw [if_pos hi] at h; omega
      · rw [if_neg hi] at h
        have hi' : ¬ Lib.indexByte r 58 = -1 := by simpa using hi
        have hge := Lib.indexByte_ge r 58
        obtain ⟨j, hj⟩ := Int.eq_ofNat_of_zero_le (show 0 ≤ Lib.indexByte r 58 by omega)
        obtain ⟨h1, h2⟩ := cutC_some r j hj
        have : i = j + 1 := by omega
        subst this
        refine ⟨?_, by simp; omega⟩
        unfold cutC at *
        rw [List.takeWhile_cons, if_pos (by simpa [bne] using hc), h1]
        rfl

set_option maxRecDepth 100000 in
set_option maxHeartbeats 400000 in
theorem IndexByte_any (s : ByteArray) (c : Int) (w : World) :
    Calls Try.prog 67 #[.string s, .int .u8 c] w fun e w' => e = .returned (.int .i64 (Lib.indexByte s.data.toList c.toNat.toUInt8)) ∧ w' = w := by
  go_enter Try.func67, Try.ntmps67
  go_wp2
  rw [run_callFunc_extern Try.func71 (by kernel_rfl) (by kernel_rfl) (by kernel_rfl) (e := Extern.BytealgIndexByte.indexByte) (by kernel_rfl), Lib.run_indexByteString]
  simp only [Result.andThen]
  rw [Oper.upon_value]
  go_wp2
  go_ret
  exact ⟨rfl, rfl⟩

theorem IndexByteS_any (s : ByteArray) (c : Int) (w : World) :
    Calls Try.prog 53 #[.string s, .int .u8 c] w fun e w' => e = .returned (.int .i64 (Lib.indexByte s.data.toList c.toNat.toUInt8)) ∧ w' = w := by
  go_enter Try.func53, Try.ntmps53
  go_wp2_with fail
  refine (IndexByte_any _ _ _).mono ?_
  rintro e w' ⟨rfl, rfl⟩
  go_wp2_with fail
  go_ret
  exact ⟨rfl, rfl⟩


end Go.Proofs.Ythojcidbhojlhaa
