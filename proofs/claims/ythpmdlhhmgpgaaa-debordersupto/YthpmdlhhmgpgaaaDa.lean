/-
  Walks: strings.Cut at ":", strings.IndexByte, strings.LastIndexByte; digits; an epoch.
-/
import Derived.Test.YthpmdlhhmgpgaaaPl
import Derived.WalkSmall
namespace Go.Proofs.Ythpmdlhhmgpgaaa
open Go.RowKit Go.Shelf
set_option linter.unusedVariables false

theorem cutC_none : ∀ l : List UInt8, Lib.indexByte l 58 = -1 → cutC l = l
  | [], _ => rfl
  | c :: r, h => by
    unfold Lib.indexByte at h
    by_cases hc : (c == 58) = true
    · rw [if_pos hc] at h; cases h
    · rw [if_neg hc] at h
      by_cases hi : (Lib.indexByte r 58 == -1) = true
      · have := cutC_none r (by simpa using hi)
        unfold cutC at *
        rw [List.takeWhile_cons, if_pos (by simpa [bne] using hc), this]
      · rw [if_neg hi] at h
        have := Lib.indexByte_ge r 58
        have hi' : ¬ Lib.indexByte r 58 = -1 := by simpa using hi
        omega
theorem cutC_some : ∀ (l : List UInt8) (i : Nat), Lib.indexByte l 58 = i → cutC l = l.take i ∧ i < l.length
  | [], i, h => by have h' : (-1 : Int) = i := h; omega
  | c :: r, i, h => by
    unfold Lib.indexByte at h
    by_cases hc : (c == 58) = true
    · rw [if_pos hc] at h
      have : i = 0 := by omega
      subst this
      refine ⟨?_, by simp⟩
      unfold cutC
      rw [List.takeWhile_cons, if_neg (by simpa [bne] using hc)]
      rfl
    · rw [if_neg hc] at h
      by_cases hi : (Lib.indexByte r 58 == -1) = true
      · rw [if_pos hi] at h; omega
      · rw [if_neg hi] at h
        have hi' : ¬ Lib.indexByte r 58 = -1 := by simpa using hi
        have hge := Lib.indexByte_ge r 58
        obtain ⟨j, hj⟩ := Int.eq_ofNat_of_zero_le (show 0 ≤ Lib.indexByte r 58 by omega)
        obtain ⟨h1, h2⟩ := cutC_some r j hj
        have : i = j + 1 := by omega
        subst this
        refine ⟨?_, by simp; omega⟩
        unfold cutC at *
        rw [List.takeWhile_cons, if_pos (by simpa [bne] using hc), h1]
        rfl

set_option maxRecDepth 100000 in
set_option maxHeartbeats 400000 in
theorem IndexByte_any (s : ByteArray) (c : Int) (w : World) :
    Calls Try.prog 69 #[.string s, .int .u8 c] w fun e w' => e = .returned (.int .i64 (Lib.indexByte s.data.toList c.toNat.toUInt8)) ∧ w' = w := by
  go_enter Try.func69, Try.ntmps69
  go_wp2
  rw [run_callFunc_extern Try.func75 (by kernel_rfl) (by kernel_rfl) (by kernel_rfl) (e := Extern.BytealgIndexByte.indexByte) (by kernel_rfl), Lib.run_indexByteString]
  simp only [Result.andThen]
  rw [Oper.upon_value]
  go_wp2
  go_ret
  exact ⟨rfl, rfl⟩

set_option maxRecDepth 100000 in
set_option maxHeartbeats 400000 in
theorem Index_colon (s : ByteArray) (w : World) :
    Calls Try.prog 73 #[.string s, .string ⟨#[58]⟩] w fun e w' => e = .returned (.int .i64 (Lib.indexByte s.data.toList 58)) ∧ w' = w := by
  cases h : ([58] == s.toList)
  · go_enter Try.func73, Try.ntmps73
    go_wp2_with fail
    refine (IndexByte_any _ _ _).mono ?_
    rintro e w' ⟨rfl, rfl⟩
    go_wp2_with fail
    go_ret
    exact ⟨rfl, rfl⟩
  · have e : s.data.toList = [58] := by rw [← toL]; exact (by simpa using h : [58] = s.toList).symm
    have HE := hide e
    clear e
    go_enter Try.func73, Try.ntmps73
    go_wp2_with fail
    go_ret
    exact ⟨ret_i (by rw [HE.out]; rfl), rfl⟩

set_option maxRecDepth 100000 in
set_option maxHeartbeats 400000 in
theorem Cut_colon (s : ByteArray) (w : World) (hs : s.size ≤ 64) :
    Calls Try.prog 66 #[.string s, .string ⟨#[58]⟩] w fun e w' => (∃ u, e = .returned (.tuple #[.string (ofL (cutC s.data.toList)), u, .bool (hasC s.data.toList)])) ∧ Below w.heap.size w w' := by
  by_cases h : Lib.indexByte s.data.toList 58 = -1
  · have HC := hide (cutC_none _ h)
    have HF : Hid (hasC s.data.toList = false) := by show _ = _; unfold hasC; rw [h]; rfl
    have HI := hide (show ∀ w, _ from fun w => Index_colon s w)
    go_enter Try.func66, Try.ntmps66
    go_wp2_with fail
    refine (HI.out _).mono ?_
    rintro e w' ⟨rfl, rfl⟩
    rw [h]
    go_wp2_with fail
    go_ret3
    exact ⟨⟨_, by rw [HC.out, ofL_self, HF.out]; rfl⟩, Below.refl _ _⟩
  · have hge := Lib.indexByte_ge s.data.toList 58
    obtain ⟨i, hi⟩ := Int.eq_ofNat_of_zero_le (show 0 ≤ Lib.indexByte s.data.toList 58 by omega)
    obtain ⟨hc, hlt⟩ := cutC_some _ i hi
    rw [len_data] at hlt
    have HC : Hid (ofL (cutC s.data.toList) = s.extract 0 i) := by show _ = _; rw [hc, extract_ofL]; simp
    have HI := hide (show ∀ w, _ from fun w => Index_colon s w)
    have HF : Hid (hasC s.data.toList = true) := by show _ = _; unfold hasC; simpa using h
    clear h hge hc
    have hlt' : (i : Int) < (s.size : Int) := by omega
    have h0 : (0 : Int) ≤ (i : Int) := by omega
    go_enter Try.func66, Try.ntmps66
    go_wp2_with fail
    refine (HI.out _).mono ?_
    rintro e w' ⟨rfl, rfl⟩
    rw [hi]
    go_wp2_with fail
    go_quiet (fail)
    go_wp2_with fail
    go_ret3
    exact ⟨⟨_, by rw [HC.out, HF.out]; rfl⟩, below_drewN _ _ _⟩

set_option maxHeartbeats 400000 in
theorem CutS_colon (s : ByteArray) (w : World) (hs : s.size ≤ 64) :
    Calls Try.prog 49 #[.string s, .string ⟨#[58]⟩] w fun e w' => (∃ u, e = .returned (.tuple #[.string (ofL (cutC s.data.toList)), u, .bool (hasC s.data.toList)])) ∧ Below w.heap.size w w' := by
  go_enter Try.func49, Try.ntmps49
  go_wp2_with fail
  refine (Cut_colon s _ hs).mono ?_
  rintro e w1 ⟨⟨u, rfl⟩, b1⟩
  go_wp2_with fail
  go_ret3
  exact ⟨⟨u, rfl⟩, b1⟩


theorem IndexByteS_any (s : ByteArray) (c : Int) (w : World) :
    Calls Try.prog 53 #[.string s, .int .u8 c] w fun e w' => e = .returned (.int .i64 (Lib.indexByte s.data.toList c.toNat.toUInt8)) ∧ w' = w := by
  go_enter Try.func53, Try.ntmps53
  go_wp2_with fail
  refine (IndexByte_any _ _ _).mono ?_
  rintro e w' ⟨rfl, rfl⟩
  go_wp2_with fail
  go_ret
  exact ⟨rfl, rfl⟩


set_option maxHeartbeats 400000 in
theorem isDigits_any (s : ByteArray) (w : World) (hs : s.size ≤ maxLen) :
    Calls Try.prog 50 #[.string s] w fun e w' => e = .returned (.bool (digB s.data.toList)) ∧ w' = w := by
  by_cases hp : 0 < s.size
  · have hb := eqE s hp
    have hI : runI s.data.toList 0 1 = (runL 1 s.data.toList : Int) := by have := runI_in s 0 1 (by omega); simpa using this
    have HI := hide hI
    have HE := hide (emp s hp)
    clear hI
    go_enter Try.func50, Try.ntmps50
    go_wp2_with fail
    refine (Run_any _ _ _ _ hs).mono ?_
    rintro e w' ⟨rfl, rfl⟩
    go_wp2_with fail
    go_ret
    refine ⟨ret_b ?_, rfl⟩
    rw [digB, HE.out, HI.out, len_data]
    simp
    rw [Bool.eq_iff_iff]
    simp
    omega
  · have := size0 s hp
    subst this
    go_enter Try.func50, Try.ntmps50
    go_wp2_with fail
    go_ret
    exact ⟨rfl, rfl⟩


end Go.Proofs.Ythpmdlhhmgpgaaa
