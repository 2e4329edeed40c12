/-
  Walks: the last place of a byte; what stands ahead of it and behind it; an epoch; the first wrong place.
-/
import Derived.Test.YthpmdlhhmgpgaaaDa
namespace Go.Proofs.Ythpmdlhhmgpgaaa
open Go.RowKit Go.Shelf
set_option linter.unusedVariables false

theorem getD_at (s : ByteArray) (j : Nat) (h : j < s.size) : s.data.toList.getD j 0 = s[j] := by
  have h' : j < s.data.toList.length := by rw [len_data]; exact h
  rw [List.getD, List.getElem?_eq_getElem h']; rfl

set_option maxHeartbeats 400000 in
theorem LastIdx_any (s : ByteArray) (c : UInt8) (w : World) (hs : s.size ≤ maxLen) :
    Calls Try.prog 70 #[.string s, .int .u8 (c.toNat : Int)] w fun e w' => e = .returned (.int .i64 (lastI s.data.toList c)) ∧ w' = w := by
  unfold maxLen at hs
  have HL : Hid (lastI s.data.toList c = lastN s.data.toList c s.size) := by show _ = _; unfold lastI; rw [len_data]
  go_enter Try.func70, Try.ntmps70
  go_wp2_with fail
  go_loop [5] (fun i => ∃ k : Nat, k ≤ s.size ∧ i = .int .i64 ((k : Int) - 1) ∧ Hid (lastN s.data.toList c s.size = lastN s.data.toList c k)) (fun i => (intOf i + 1).toNat)
  case atStart => exact ⟨s.size, Nat.le_refl _, rfl, rfl⟩
  case round =>
    obtain ⟨k, hk, rfl, HR⟩ := hrel
    cases k with
    | zero =>
      go_wp2_with fail
      go_ret
      exact ⟨ret_i (by rw [HL.out, HR.out]; rfl), rfl⟩
    | succ m =>
      have hm : m < s.size := by omega
      have hi : (((m + 1 : Nat) : Int) - 1) = (m : Int) := by omega
      rw [hi]
      clear hi
      have HX : Hid (lastN s.data.toList c (m + 1) = if s[m] = c then (m : Int) else lastN s.data.toList c m) := by show _ = _; rw [lastN, getD_at s m hm]
      by_cases hc : s[m] = c
      · have hb : ((s[m].toNat : Int) == (c.toNat : Int)) = true := by rw [hc]; simp
        have HY : Hid (lastN s.data.toList c (m + 1) = (m : Int)) := by show _ = _; rw [HX.out, if_pos hc]
        clear hc
        go_wp2_with fail
        go_ret
        exact ⟨ret_i (by rw [HL.out, HR.out, HY.out]), rfl⟩
      · have hb : ((s[m].toNat : Int) == (c.toNat : Int)) = false := by
          have : s[m].toNat ≠ c.toNat := fun e => hc (UInt8.toNat_inj.1 e)
          simp; omega
        have HY : Hid (lastN s.data.toList c (m + 1) = lastN s.data.toList c m) := by show _ = _; rw [HX.out, if_neg hc]
        clear hc
        go_wp2_with fail
        go_round
        case rel => exact ⟨m, by omega, by go_num, HR.out.trans HY.out⟩
        case measure => simp [intOf]

set_option maxHeartbeats 400000 in
theorem LastIdxS_any (s : ByteArray) (c : UInt8) (w : World) (hs : s.size ≤ maxLen) :
    Calls Try.prog 54 #[.string s, .int .u8 (c.toNat : Int)] w fun e w' => e = .returned (.int .i64 (lastI s.data.toList c)) ∧ w' = w := by
  go_enter Try.func54, Try.ntmps54
  go_wp2_with fail
  refine (LastIdx_any s c _ hs).mono ?_
  rintro e w' ⟨rfl, rfl⟩
  go_wp2_with fail
  go_ret
  exact ⟨rfl, rfl⟩

theorem lastN_lt (l : List UInt8) (c : UInt8) : ∀ n, -1 ≤ lastN l c n ∧ lastN l c n < n
  | 0 => by simp [lastN]
  | n + 1 => by
    have := lastN_lt l c n
    rw [lastN]
    split <;> omega

set_option maxHeartbeats 400000 in
theorem cutLast_any (s : ByteArray) (c : UInt8) (w : World) (hs : s.size ≤ maxLen) :
    Calls Try.prog 30 #[.string s, .int .u8 (c.toNat : Int)] w fun e w' => e = .returned (.tuple #[.string (ofL (cutU s.data.toList c)), .string (ofL (cutR s.data.toList c)), .bool (cutH s.data.toList c)]) ∧ Below w.heap.size w w' := by
  have hlt := lastN_lt s.data.toList c s.data.toList.length
  have hU : cutU s.data.toList c = if lastI s.data.toList c < 0 then s.data.toList else s.data.toList.take (lastI s.data.toList c).toNat := rfl
  have hR : cutR s.data.toList c = if lastI s.data.toList c < 0 then [] else s.data.toList.drop ((lastI s.data.toList c).toNat + 1) := rfl
  have hH : cutH s.data.toList c = decide (0 ≤ lastI s.data.toList c) := rfl
  have L := hide (LastIdxS_any s c w hs)
  change -1 ≤ lastI s.data.toList c ∧ lastI s.data.toList c < _ at hlt
  unfold maxLen at hs
  rw [len_data] at hlt
  generalize cutU s.data.toList c = U at *
  generalize cutR s.data.toList c = R at *
  generalize cutH s.data.toList c = H at *
  generalize lastI s.data.toList c = i at *
  by_cases h : i < 0
  · rw [if_pos h] at hU hR
    have hH' : H = false := by rw [hH]; simp; omega
    have HU := hide hU
    have HR := hide hR
    have HH := hide hH'
    clear hU hR hH hH'
    go_enter Try.func30, Try.ntmps30
    go_wp2_with fail
    refine L.out.mono ?_
    rintro e w' ⟨rfl, rfl⟩
    go_wp2_with fail
    go_ret3
    exact ⟨by rw [HU.out, HR.out, HH.out, ofL_self]; rfl, Below.refl _ _⟩
  · rw [if_neg h] at hU hR
    obtain ⟨k, rfl⟩ := Int.eq_ofNat_of_zero_le (show 0 ≤ i by omega)
    have hH' : H = true := by rw [hH]; simp
    have HU : Hid (ofL U = s.extract 0 k) := by show _ = _; rw [hU, extract_ofL]; simp
    have HR : Hid (ofL R = s.extract (k + 1) s.size) := by show _ = _; rw [hR, extract_end]; simp
    have HH := hide hH'
    have hk : (k : Int) < (s.size : Int) := hlt.2
    have h0 : (0 : Int) ≤ (k : Int) := by omega
    clear hU hR hH hH' h hlt
    go_enter Try.func30, Try.ntmps30
    go_wp2_with fail
    refine L.out.mono ?_
    rintro e w' ⟨rfl, rfl⟩
    go_wp2_with fail
    go_quiet (fail)
    go_wp2_with fail
    go_ret3
    exact ⟨by rw [HU.out, HR.out, HH.out]; rfl, below_drewN _ _ _⟩

set_option maxHeartbeats 400000 in
theorem isRevision_any (s : ByteArray) (w : World) (hs : s.size ≤ maxLen) :
    Calls Try.prog 31 #[.string s] w fun e w' => e = .returned (.bool (revB s.data.toList)) ∧ w' = w := by
  by_cases hp : 0 < s.size
  · have hb := eqE s hp
    have HE := hide (emp s hp)
    go_enter Try.func31, Try.ntmps31
    go_wp2_with fail
    refine (IndexByteS_any _ _ _).mono ?_
    rintro e w' ⟨rfl, rfl⟩
    go_wp2_with fail
    go_ret
    refine ⟨ret_b ?_, rfl⟩
    rw [revB, HE.out]
    rfl
  · have := size0 s hp
    subst this
    go_enter Try.func31, Try.ntmps31
    go_wp2_with fail
    go_ret
    exact ⟨rfl, rfl⟩

set_option maxHeartbeats 400000 in
theorem readEpoch_any (s : ByteArray) (w : World) (hs : s.size ≤ 64) :
    Calls Try.prog 28 #[.string s] w fun e w' => e = .returned (.tuple #[.string (ofL (epE s.data.toList)), .int .i64 (epS s.data.toList : Int)]) ∧ Below w.heap.size w w' := by
  have hcl : (cutC s.data.toList).length ≤ 64 := by
    have : (cutC s.data.toList).length ≤ s.data.toList.length := by unfold cutC; exact (List.takeWhile_sublist _).length_le
    rw [len_data] at this; omega
  have hE : epE s.data.toList = if (hasC s.data.toList && digB (cutC s.data.toList)) then trimL (cutC s.data.toList) else [48] := rfl
  have hS : epS s.data.toList = if (hasC s.data.toList && digB (cutC s.data.toList)) then (cutC s.data.toList).length + 1 else 0 := rfl
  have HC := hide (fun w => CutS_colon s w hs)
  generalize epE s.data.toList = E at *
  generalize epS s.data.toList = S at *
  generalize hasC s.data.toList = h at *
  generalize cutC s.data.toList = C at *
  have D := isDigits_any (ofL C)
  rw [ofL_data] at D
  have HD := hide D
  have Tr := Trim_any (ofL C)
  rw [ofL_data] at Tr
  have HT := hide Tr
  have hz := ofL_size C
  clear D Tr
  generalize digB C = d at *
  cases h
  · have HE := hide hE
    have HS := hide hS
    clear hE hS
    go_enter Try.func28, Try.ntmps28
    go_wp2_with fail
    refine (HC.out _).mono ?_
    rintro e w1 ⟨⟨u, rfl⟩, b1⟩
    go_wp2_with fail
    go_ret2
    exact ⟨by rw [HE.out, HS.out]; rfl, b1⟩
  · cases d
    · have HE := hide hE
      have HS := hide hS
      clear hE hS
      go_enter Try.func28, Try.ntmps28
      go_wp2_with fail
      refine (HC.out _).mono ?_
      rintro e w1 ⟨⟨u, rfl⟩, b1⟩
      go_wp2_with fail
      refine (HD.out _ (by unfold maxLen; omega)).mono ?_
      rintro e w' ⟨rfl, rfl⟩
      go_wp2_with fail
      go_ret2
      exact ⟨by rw [HE.out, HS.out]; rfl, b1⟩
    · have HE := hide hE
      have HS := hide hS
      clear hE hS
      go_enter Try.func28, Try.ntmps28
      go_wp2_with fail
      refine (HC.out _).mono ?_
      rintro e w1 ⟨⟨u, rfl⟩, b1⟩
      go_wp2_with fail
      refine (HD.out _ (by unfold maxLen; omega)).mono ?_
      rintro e w' ⟨rfl, rfl⟩
      go_wp2_with fail
      refine (HT.out _ (by unfold maxLen; omega)).mono ?_
      rintro e w' ⟨rfl, rfl⟩
      go_wp2_with fail
      go_ret2
      exact ⟨by rw [HE.out, HS.out]; simp, b1⟩

end Go.Proofs.Ythpmdlhhmgpgaaa
