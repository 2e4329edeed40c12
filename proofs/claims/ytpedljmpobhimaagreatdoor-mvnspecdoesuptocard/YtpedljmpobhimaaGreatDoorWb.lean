/-
  Walks: Run, Trim, the order of texts of digits, in the program and in the document's answer.
-/
import Derived.Test.YtpedljmpobhimaaGreatDoorWa
import Derived.Lib.Bytealg
import Derived.Lib.Strings
namespace Go.Proofs.YtpedljmpobhimaaGreatDoor
open Go.RowKit

theorem hide {p : Prop} (h : p) : Hid p := h
theorem ret_i {k : IntKind} {a b : Int} (h : a = b) : Ending.returned (.int k a) = .returned (.int k b) := by rw [h]
theorem ret_s {a b : ByteArray} (h : a = b) : Ending.returned (.string a) = .returned (.string b) := by rw [h]

set_option maxHeartbeats 400000 in
theorem Run_any (s : ByteArray) (n k : Int) (w : World) (hs : s.size ≤ maxLen) :
    Calls Tryz.prog 21 #[.string s, .int .i64 n, .int .i64 k] w fun e w' => e = .returned (.int .i64 (runI s.data.toList n k)) ∧ w' = w := by
  unfold maxLen at hs
  by_cases hin : 0 ≤ n ∧ n ≤ (s.size : Int)
  · obtain ⟨h0, h1⟩ := hin
    obtain ⟨m, rfl⟩ := Int.eq_ofNat_of_zero_le h0
    have hb : (decide (0 ≤ (m : Int)) && decide ((m : Int) ≤ (s.size : Int))) = true := by simp; omega
    have hm : m ≤ s.size := by omega
    have HI : Hid (runI s.data.toList m k = m + (runL k (s.data.toList.drop m) : Int)) := runI_in s m k hm
    go_enter Tryz.func21, Tryz.ntmps21
    go_wp2_with (go_at_call 43; refine (inside_any _ _ _).mono ?_; rintro e w' ⟨rfl, rfl⟩)
    go_loop [17] (fun i => ∃ j : Nat, m + j ≤ s.size ∧ i = .int .i64 j ∧ Hid (runL k (s.data.toList.drop m) = j + runL k (s.data.toList.drop (m + j)))) (fun i => s.size - (intOf i).toNat)
    case atStart => exact ⟨0, by omega, rfl, by simp [Hid]⟩
    case round =>
      obtain ⟨j, hj, rfl, HR⟩ := hrel
      by_cases hlt : m + j < s.size
      · by_cases hc : isC (s[m + j].toNat : Int) k = true
        · have H1 : Hid _ := runL_hit k s (m + j) hlt hc
          go_wp2_with (go_at_call 44; refine (Is_any _ _ _).mono ?_; rintro e w' ⟨rfl, rfl⟩)
          go_round
          case rel => exact ⟨j + 1, by omega, by go_num, by have a := HR.out; have b := H1.out; show _ = _; rw [Nat.add_assoc] at b; omega⟩
          case measure => simp [intOf]; omega
        · have hc' : isC (s[m + j].toNat : Int) k = false := by simpa using hc
          have H1 : Hid _ := runL_miss k s (m + j) hlt hc'
          go_wp2_with (go_at_call 44; refine (Is_any _ _ _).mono ?_; rintro e w' ⟨rfl, rfl⟩)
          go_ret
          exact ⟨ret_i (by have a := HR.out; have b := H1.out; rw [HI.out]; omega), rfl⟩
      · have H1 : Hid _ := runL_end k s (m + j) (by omega)
        go_wp2_with fail
        go_ret
        exact ⟨ret_i (by have a := HR.out; have b := H1.out; rw [HI.out]; omega), rfl⟩
  · have hb : (decide (0 ≤ n) && decide (n ≤ (s.size : Int))) = false := by simp; omega
    have HI : Hid _ := runI_out s n k hin
    clear hin
    go_enter Tryz.func21, Tryz.ntmps21
    go_wp2_with (go_at_call 43; refine (inside_any _ _ _).mono ?_; rintro e w' ⟨rfl, rfl⟩)
    go_ret
    exact ⟨ret_i HI.out.symm, rfl⟩

set_option maxHeartbeats 400000 in
theorem Trim_any (s : ByteArray) (w : World) (hs : s.size ≤ maxLen) :
    Calls Tryz.prog 109 #[.string s] w fun e w' => e = .returned (.string (ofL (trimL s.data.toList))) ∧ w' = w := by
  unfold maxLen at hs
  go_enter Tryz.func109, Tryz.ntmps109
  go_wp2_with fail
  go_loop [6] (fun i => ∃ j : Nat, j ≤ s.size ∧ i = .int .i64 j ∧ Hid (trimL s.data.toList = trimL (s.data.toList.drop j))) (fun i => s.size - (intOf i).toNat)
  case atStart => exact ⟨0, by omega, rfl, by simp [Hid]⟩
  case round =>
    obtain ⟨j, hj, rfl, HR⟩ := hrel
    by_cases hlt : j < s.size
    · by_cases hc : (s[j].toNat : Int) = 48
      · have H1 : Hid _ := trimL_hit s j hlt hc
        have hb : ((s[j].toNat : Int) != 48) = false := by simpa using hc
        clear hc
        go_wp2_with fail
        go_round
        case rel => exact ⟨j + 1, by omega, by go_num, HR.out.trans H1.out⟩
        case measure => simp [intOf]; omega
      · have H1 : Hid _ := trimL_miss s j hlt hc
        have hb : ((s[j].toNat : Int) != 48) = true := by simpa using hc
        clear hc
        go_wp2_with fail
        go_ret
        exact ⟨ret_s (by rw [extract_end, HR.out, H1.out]), rfl⟩
    · have H1 : Hid _ := trimL_end s j (by omega)
      go_wp2_with fail
      go_ret
      exact ⟨ret_s (by rw [HR.out, H1.out]; rfl), rfl⟩

set_option maxHeartbeats 400000 in
theorem RTrim_any (s : ByteArray) (w : World) (hs : s.size ≤ maxLen) :
    Calls Tryz.prog 84 #[.string s] w fun e w' => e = .returned (.string (ofL (trimL s.data.toList))) ∧ w' = w := by
  unfold maxLen at hs
  go_enter Tryz.func84, Tryz.ntmps84
  go_wp2_with fail
  go_loop [3] (fun i => ∃ j : Nat, j ≤ s.size ∧ i = .int .i64 j ∧ Hid (trimL s.data.toList = trimL (s.data.toList.drop j))) (fun i => s.size - (intOf i).toNat)
  case atStart => exact ⟨0, by omega, rfl, by simp [Hid]⟩
  case round =>
    obtain ⟨j, hj, rfl, HR⟩ := hrel
    by_cases hlt : j < s.size
    · by_cases hc : (s[j].toNat : Int) = 48
      · have H1 : Hid _ := trimL_hit s j hlt hc
        have hb : ((s[j].toNat : Int) == 48) = true := by simpa using hc
        clear hc
        go_wp2_with fail
        go_round
        case rel => exact ⟨j + 1, by omega, by go_num, HR.out.trans H1.out⟩
        case measure => simp [intOf]; omega
      · have H1 : Hid _ := trimL_miss s j hlt hc
        have hb : ((s[j].toNat : Int) == 48) = false := by simpa using hc
        have hne : ((j : Int) == (s.size : Int)) = false := by simp; omega
        clear hc
        go_wp2_with fail
        go_ret
        exact ⟨ret_s (by rw [extract_end, HR.out, H1.out]), rfl⟩
    · have H1 : Hid _ := trimL_end s j (by omega)
      have heq : ((j : Int) == (s.size : Int)) = true := by simp; omega
      go_wp2_with fail
      go_ret
      exact ⟨ret_s (by rw [HR.out, H1.out]; rfl), rfl⟩

set_option maxHeartbeats 400000 in
/-- The library's order of ints. -/
theorem Compare_any (x y : Int) (w : World) :
    Calls Tryz.prog 124 #[.int .i64 x, .int .i64 y] w fun e w' => e = .returned (.int .i64 (if x < y then -1 else if y < x then 1 else 0)) ∧ w' = w := by
  by_cases h1 : x < y
  · go_enter Tryz.func124, Tryz.ntmps124
    go_wp2
    go_ret
    exact ⟨ret_i (by first | rfl | ((repeat' split) <;> omega)), rfl⟩
  · by_cases h2 : y < x
    · go_enter Tryz.func124, Tryz.ntmps124
      go_wp2
      go_ret
      exact ⟨ret_i (by first | rfl | ((repeat' split) <;> omega)), rfl⟩
    · go_enter Tryz.func124, Tryz.ntmps124
      go_wp2
      go_ret
      exact ⟨ret_i (by first | rfl | ((repeat' split) <;> omega)), rfl⟩

set_option maxRecDepth 100000 in
set_option maxHeartbeats 400000 in
theorem CompareString_any (a b : ByteArray) (w : World) :
    Calls Tryz.prog 119 #[.string a, .string b] w fun e w' => e = .returned (.int .i64 (Lib.compareBytes a.data.toList b.data.toList)) ∧ w' = w := by
  go_enter Tryz.func119, Tryz.ntmps119
  go_wp2
  rw [run_callFunc_extern Tryz.func126 (by kernel_rfl) (by kernel_rfl) (by kernel_rfl) (e := Extern.BytealgCompare.compare) (by kernel_rfl), Lib.run_compareString]
  simp only [Result.andThen]
  rw [Oper.upon_value]
  go_wp2
  go_ret
  exact ⟨rfl, rfl⟩

set_option maxHeartbeats 400000 in
theorem StrCompare_any (a b : ByteArray) (w : World) :
    Calls Tryz.prog 116 #[.string a, .string b] w fun e w' => e = .returned (.int .i64 (Lib.compareBytes a.data.toList b.data.toList)) ∧ w' = w := by
  go_enter Tryz.func116, Tryz.ntmps116
  go_wp2_with (go_at_call 119; refine (CompareString_any _ _ _).mono ?_; rintro e w' ⟨rfl, rfl⟩)
  go_ret
  exact ⟨rfl, rfl⟩

set_option maxHeartbeats 400000 in
theorem Cmp_any (a b : ByteArray) (w : World) (ha : a.size ≤ 9223372036854775806) (hb : b.size ≤ 9223372036854775806) :
    Calls Tryz.prog 122 #[.string a, .string b] w fun e w' => e = .returned (.int .i64 (cmpD a.data.toList b.data.toList)) ∧ w' = w := by
  have la := trimL_le a.data.toList
  have lb := trimL_le b.data.toList
  rw [len_data] at la lb
  have ea := ofL_size (trimL a.data.toList)
  have eb := ofL_size (trimL b.data.toList)
  have da := ofL_data (trimL a.data.toList)
  have db := ofL_data (trimL b.data.toList)
  have hC : cmpD a.data.toList b.data.toList = if (trimL a.data.toList).length < (trimL b.data.toList).length then -1 else if (trimL b.data.toList).length < (trimL a.data.toList).length then 1 else Lib.compareBytes (trimL a.data.toList) (trimL b.data.toList) := rfl
  have HC := hide hC
  clear hC
  generalize cmpD a.data.toList b.data.toList = C at *
  go_enter Tryz.func122, Tryz.ntmps122
  go_wp2_with fail
  refine (Trim_any _ _ (by unfold maxLen; omega)).mono ?_
  rintro e w' ⟨rfl, rfl⟩
  go_wp2_with fail
  refine (Trim_any _ _ (by unfold maxLen; omega)).mono ?_
  rintro e w' ⟨rfl, rfl⟩
  generalize trimL a.data.toList = A at *
  generalize trimL b.data.toList = B at *
  by_cases hl : A.length = B.length
  · have hn : ((A.length : Int) != (B.length : Int)) = false := by simp; omega
    have hle : A.length ≤ B.length := by omega
    have hge : B.length ≤ A.length := by omega
    clear hl
    go_wp2_with fail
    refine (StrCompare_any _ _ _).mono ?_
    rintro e w' ⟨rfl, rfl⟩
    go_wp2_with fail
    go_ret
    exact ⟨ret_i (by rw [HC.out, if_neg (by omega), if_neg (by omega)]), rfl⟩
  · have hn : ((A.length : Int) != (B.length : Int)) = true := by simp; omega
    clear hl
    have hl : A.length < B.length ∨ B.length < A.length := by simp at hn; omega
    rcases hl with hl | hl
    · go_wp2_with fail
      refine (Compare_any _ _ _).mono ?_
      rintro e w' ⟨rfl, rfl⟩
      go_wp2_with fail
      go_ret
      exact ⟨ret_i (by rw [HC.out, if_pos hl]), rfl⟩
    · go_wp2_with fail
      refine (Compare_any _ _ _).mono ?_
      rintro e w' ⟨rfl, rfl⟩
      go_wp2_with fail
      go_ret
      exact ⟨ret_i (by rw [HC.out, if_neg (by omega), if_pos hl]), rfl⟩

theorem cmp3 : ∀ a b : List UInt8, (Lib.compareBytes a b = -1 ∧ Op.bytesLess a b = true) ∨ (Lib.compareBytes a b = 0 ∧ Op.bytesLess a b = false ∧ (a == b) = true) ∨ (Lib.compareBytes a b = 1 ∧ Op.bytesLess a b = false ∧ (a == b) = false)
  | [], [] => .inr (.inl (by simp [Lib.compareBytes, Op.bytesLess]))
  | [], _ :: _ => .inl (by simp [Lib.compareBytes, Op.bytesLess])
  | _ :: _, [] => .inr (.inr (by simp [Lib.compareBytes, Op.bytesLess]))
  | a :: x, b :: y => by
    by_cases h1 : a < b
    · exact .inl (by simp [Lib.compareBytes, Op.bytesLess, h1])
    · by_cases h2 : b < a
      · have hne : ¬ a = b := fun e => by subst e; exact h1 h2
        exact .inr (.inr (by simp [Lib.compareBytes, Op.bytesLess, h1, h2, hne]))
      · have he : a = b := UInt8.le_antisymm (UInt8.not_lt.1 h2) (UInt8.not_lt.1 h1)
        subst he
        have ih := cmp3 x y
        simp only [Lib.compareBytes, Op.bytesLess, h1, if_false, List.cons_beq_cons, BEq.rfl, Bool.true_and, decide_false, Bool.false_or]
        exact ih

theorem toL (s : ByteArray) : s.toList = s.data.toList := Lib.toList_data s

set_option maxHeartbeats 400000 in
theorem Texts_any (a b : ByteArray) (w : World) :
    Calls Tryz.prog 106 #[.string a, .string b] w fun e w' => e = .returned (.int .i64 (Lib.compareBytes a.data.toList b.data.toList)) ∧ w' = w := by
  have h3 := cmp3 a.data.toList b.data.toList
  rw [← toL a, ← toL b] at h3 ⊢
  rcases h3 with ⟨hc, hl⟩ | ⟨hc, hl, he⟩ | ⟨hc, hl, he⟩
  all_goals rw [hc]
  all_goals clear hc
  all_goals go_enter Tryz.func106, Tryz.ntmps106
  all_goals go_wp2
  all_goals go_ret
  all_goals exact ⟨rfl, rfl⟩

set_option maxHeartbeats 400000 in
theorem RCmp_any (a b : ByteArray) (w : World) (ha : a.size ≤ 9223372036854775806) (hb : b.size ≤ 9223372036854775806) :
    Calls Tryz.prog 87 #[.string a, .string b] w fun e w' => e = .returned (.int .i64 (cmpD a.data.toList b.data.toList)) ∧ w' = w := by
  have la := trimL_le a.data.toList
  have lb := trimL_le b.data.toList
  rw [len_data] at la lb
  have ea := ofL_size (trimL a.data.toList)
  have eb := ofL_size (trimL b.data.toList)
  have da := ofL_data (trimL a.data.toList)
  have db := ofL_data (trimL b.data.toList)
  have hC : cmpD a.data.toList b.data.toList = if (trimL a.data.toList).length < (trimL b.data.toList).length then -1 else if (trimL b.data.toList).length < (trimL a.data.toList).length then 1 else Lib.compareBytes (trimL a.data.toList) (trimL b.data.toList) := rfl
  have HC := hide hC
  clear hC
  generalize cmpD a.data.toList b.data.toList = C at *
  go_enter Tryz.func87, Tryz.ntmps87
  go_wp2_with fail
  refine (RTrim_any _ _ (by unfold maxLen; omega)).mono ?_
  rintro e w' ⟨rfl, rfl⟩
  go_wp2_with fail
  refine (RTrim_any _ _ (by unfold maxLen; omega)).mono ?_
  rintro e w' ⟨rfl, rfl⟩
  generalize trimL a.data.toList = A at *
  generalize trimL b.data.toList = B at *
  by_cases h1 : A.length < B.length
  · go_wp2_with fail
    go_ret
    exact ⟨ret_i (by rw [HC.out, if_pos h1]), rfl⟩
  · by_cases h2 : B.length < A.length
    · go_wp2_with fail
      go_ret
      exact ⟨ret_i (by rw [HC.out, if_neg (by omega), if_pos h2]), rfl⟩
    · go_wp2_with fail
      refine (Texts_any _ _ _).mono ?_
      rintro e w' ⟨rfl, rfl⟩
      go_wp2_with fail
      go_ret
      exact ⟨ret_i (by rw [HC.out, if_neg (by omega), if_neg (by omega)]), rfl⟩

end Go.Proofs.YtpedljmpobhimaaGreatDoor
