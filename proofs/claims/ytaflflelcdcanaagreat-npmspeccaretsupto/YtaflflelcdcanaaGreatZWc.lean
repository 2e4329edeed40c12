/-
  Walks: the classes of bytes, within, inside. · Walks: Run, Trim, the order of texts of digits, in the program and in the document's answer. · A row of bytes that the call itself has made: what '[]byte(s)' lays, what a store leaves, what 'string(b)' gives: for whatever program. · Walks: small letters, and digits out of any bytes.
-/
import Derived.Test.YtaflflelcdcanaaGreatRows
import Derived.Test.YtaflflelcdcanaaGreatZPlain
import Derived.WalkKit
import Derived.WalkSpells
import Derived.WalkLawsBesides
import Derived.Lib.Bytealg
import Derived.Lib.Strings
import Derived.Laws.IdiomStrings
import Derived.Lib.ConvBytes
namespace Go.Proofs.YtaflflelcdcanaaGreat
open Go.RowKit

set_option maxHeartbeats 400000 in
theorem within_any (c lo hi : Int) (w : World) :
    Calls Tryz.prog 91 #[.int .u8 c, .int .u8 lo, .int .u8 hi] w fun e w' => e = .returned (.bool (decide (lo ≤ c) && decide (c ≤ hi))) ∧ w' = w := by
  by_cases h1 : lo ≤ c
  · by_cases h2 : c ≤ hi
    · go_enter Tryz.func91, Tryz.ntmps91
      go_wp2
      go_ret
      exact ⟨by simp [h1, h2], rfl⟩
    · go_enter Tryz.func91, Tryz.ntmps91
      go_wp2
      go_ret
      exact ⟨by simp [h2], rfl⟩
  · go_enter Tryz.func91, Tryz.ntmps91
    go_wp2
    go_ret
    exact ⟨by simp; omega, rfl⟩

set_option maxHeartbeats 400000 in
theorem inside_any (s : ByteArray) (n : Int) (w : World) :
    Calls Tryz.prog 54 #[.string s, .int .i64 n] w fun e w' => e = .returned (.bool (decide (0 ≤ n) && decide (n ≤ (s.size : Int)))) ∧ w' = w := by
  by_cases h1 : 0 ≤ n
  · by_cases h2 : n ≤ (s.size : Int)
    · go_enter Tryz.func54, Tryz.ntmps54
      go_wp2
      go_ret
      exact ⟨by simp [h1, h2], rfl⟩
    · go_enter Tryz.func54, Tryz.ntmps54
      go_wp2
      go_ret
      exact ⟨by simp [h2], rfl⟩
  · go_enter Tryz.func54, Tryz.ntmps54
    go_wp2
    go_ret
    exact ⟨by simp; omega, rfl⟩

theorem ret_b {a b : Bool} (h : a = b) : Ending.returned (.bool a) = .returned (.bool b) := by rw [h]

set_option maxHeartbeats 1000000 in
theorem Is_any (c k : Int) (w : World) :
    Calls Tryz.prog 55 #[.int .u8 c, .int .i64 k] w fun e w' => e = .returned (.bool (isC c k)) ∧ w' = w := by
  by_cases k1 : k = 1
  · subst k1
    go_enter Tryz.func55, Tryz.ntmps55
    go_wp2_with (go_at_call 91; refine (within_any _ _ _ _).mono ?_; rintro e w' ⟨rfl, rfl⟩)
    go_ret
    exact ⟨rfl, rfl⟩
  by_cases k2 : k = 2
  · subst k2
    go_enter Tryz.func55, Tryz.ntmps55
    go_wp2_with (go_at_call 91; refine (within_any _ _ _ _).mono ?_; rintro e w' ⟨rfl, rfl⟩)
    go_ret
    exact ⟨rfl, rfl⟩
  by_cases k3 : k = 3
  · subst k3
    go_enter Tryz.func55, Tryz.ntmps55
    go_wp2_with (go_at_call 91; refine (within_any _ _ _ _).mono ?_; rintro e w' ⟨rfl, rfl⟩)
    go_ret
    exact ⟨rfl, rfl⟩
  by_cases k4 : k = 4
  · subst k4
    go_enter Tryz.func55, Tryz.ntmps55
    go_wp2_with (go_at_call 91; refine (within_any _ _ _ _).mono ?_; rintro e w' ⟨rfl, rfl⟩)
    all_goals go_ret
    all_goals exact ⟨ret_b (by rw [Bool.eq_iff_iff]; simp_all [isC]), rfl⟩
  by_cases k5 : k = 5
  · subst k5
    go_enter Tryz.func55, Tryz.ntmps55
    go_wp2_with (go_at_call 91; refine (within_any _ _ _ _).mono ?_; rintro e w' ⟨rfl, rfl⟩)
    all_goals go_ret
    all_goals exact ⟨ret_b (by rw [Bool.eq_iff_iff]; simp_all [isC]), rfl⟩
  by_cases k6 : k = 6
  · subst k6
    go_enter Tryz.func55, Tryz.ntmps55
    go_wp2
    all_goals go_ret
    all_goals exact ⟨ret_b (by rw [Bool.eq_iff_iff]; simp_all [isC]), rfl⟩
  by_cases k7 : k = 7
  · subst k7
    go_enter Tryz.func55, Tryz.ntmps55
    go_wp2
    all_goals go_ret
    all_goals exact ⟨ret_b (by rw [Bool.eq_iff_iff]; simp_all [isC]), rfl⟩
  have H : Hid (∀ c, isC c k = false) := by simp [Hid, isC, k1, k2, k3, k4, k5, k6, k7]
  have b1 : (k == 1) = false := by simpa using k1
  have b2 : (k == 2) = false := by simpa using k2
  have b3 : (k == 3) = false := by simpa using k3
  have b4 : (k == 4) = false := by simpa using k4
  have b5 : (k == 5) = false := by simpa using k5
  have b6 : (k == 6) = false := by simpa using k6
  have b7 : (k == 7) = false := by simpa using k7
  clear k1 k2 k3 k4 k5 k6 k7
  go_enter Tryz.func55, Tryz.ntmps55
  go_wp2
  go_ret
  exact ⟨ret_b (H.out _).symm, rfl⟩

set_option maxHeartbeats 2000000 in
theorem RIs_any (c k : Int) (w : World) :
    Calls Tryz.prog 169 #[.int .u8 c, .int .i64 k] w fun e w' => e = .returned (.bool (isC c k)) ∧ w' = w := by
  by_cases k1 : k = 1
  · subst k1
    go_enter Tryz.func169, Tryz.ntmps169
    go_wp2
    all_goals go_ret
    all_goals exact ⟨ret_b (by rw [Bool.eq_iff_iff]; simp [isC] <;> omega), rfl⟩
  by_cases k2 : k = 2
  · subst k2
    go_enter Tryz.func169, Tryz.ntmps169
    go_wp2
    all_goals go_ret
    all_goals exact ⟨ret_b (by rw [Bool.eq_iff_iff]; simp [isC] <;> omega), rfl⟩
  by_cases k3 : k = 3
  · subst k3
    go_enter Tryz.func169, Tryz.ntmps169
    go_wp2
    all_goals go_ret
    all_goals exact ⟨ret_b (by rw [Bool.eq_iff_iff]; simp [isC] <;> omega), rfl⟩
  by_cases k4 : k = 4
  · subst k4
    go_enter Tryz.func169, Tryz.ntmps169
    go_wp2
    all_goals go_ret
    all_goals exact ⟨ret_b (by rw [Bool.eq_iff_iff]; simp [isC] <;> omega), rfl⟩
  by_cases k5 : k = 5
  · subst k5
    go_enter Tryz.func169, Tryz.ntmps169
    go_wp2
    all_goals go_ret
    all_goals exact ⟨ret_b (by rw [Bool.eq_iff_iff]; simp [isC] <;> omega), rfl⟩
  by_cases k6 : k = 6
  · subst k6
    go_enter Tryz.func169, Tryz.ntmps169
    go_wp2
    all_goals go_ret
    all_goals exact ⟨ret_b (by rw [Bool.eq_iff_iff]; simp [isC] <;> omega), rfl⟩
  by_cases k7 : k = 7
  · subst k7
    go_enter Tryz.func169, Tryz.ntmps169
    go_wp2
    all_goals go_ret
    all_goals exact ⟨ret_b (by rw [Bool.eq_iff_iff]; simp [isC] <;> omega), rfl⟩
  have H : Hid (∀ c, isC c k = false) := by simp [Hid, isC, k1, k2, k3, k4, k5, k6, k7]
  have b1 : (k == 1) = false := by simpa using k1
  have b2 : (k == 2) = false := by simpa using k2
  have b3 : (k == 3) = false := by simpa using k3
  have b4 : (k == 4) = false := by simpa using k4
  have b5 : (k == 5) = false := by simpa using k5
  have b6 : (k == 6) = false := by simpa using k6
  have b7 : (k == 7) = false := by simpa using k7
  clear k1 k2 k3 k4 k5 k6 k7
  go_enter Tryz.func169, Tryz.ntmps169
  go_wp2
  all_goals go_ret
  all_goals exact ⟨ret_b (H.out _).symm, rfl⟩

end Go.Proofs.YtaflflelcdcanaaGreat

namespace Go.Proofs.YtaflflelcdcanaaGreat
open Go.RowKit

theorem hide {p : Prop} (h : p) : Hid p := h
theorem ret_i {k : IntKind} {a b : Int} (h : a = b) : Ending.returned (.int k a) = .returned (.int k b) := by rw [h]
theorem ret_s {a b : ByteArray} (h : a = b) : Ending.returned (.string a) = .returned (.string b) := by rw [h]

set_option maxHeartbeats 400000 in
theorem Run_any (s : ByteArray) (n k : Int) (w : World) (hs : s.size ≤ maxLen) :
    Calls Tryz.prog 28 #[.string s, .int .i64 n, .int .i64 k] w fun e w' => e = .returned (.int .i64 (runI s.data.toList n k)) ∧ w' = w := by
  unfold maxLen at hs
  by_cases hin : 0 ≤ n ∧ n ≤ (s.size : Int)
  · obtain ⟨h0, h1⟩ := hin
    obtain ⟨m, rfl⟩ := Int.eq_ofNat_of_zero_le h0
    have hb : (decide (0 ≤ (m : Int)) && decide ((m : Int) ≤ (s.size : Int))) = true := by simp; omega
    have hm : m ≤ s.size := by omega
    have HI : Hid (runI s.data.toList m k = m + (runL k (s.data.toList.drop m) : Int)) := runI_in s m k hm
    go_enter Tryz.func28, Tryz.ntmps28
    go_wp2_with (go_at_call 54; refine (inside_any _ _ _).mono ?_; rintro e w' ⟨rfl, rfl⟩)
    go_loop [17] (fun i => ∃ j : Nat, m + j ≤ s.size ∧ i = .int .i64 j ∧ Hid (runL k (s.data.toList.drop m) = j + runL k (s.data.toList.drop (m + j)))) (fun i => s.size - (intOf i).toNat)
    case atStart => exact ⟨0, by omega, rfl, by simp [Hid]⟩
    case round =>
      obtain ⟨j, hj, rfl, HR⟩ := hrel
      by_cases hlt : m + j < s.size
      · by_cases hc : isC (s[m + j].toNat : Int) k = true
        · have H1 : Hid _ := runL_hit k s (m + j) hlt hc
          go_wp2_with (go_at_call 55; refine (Is_any _ _ _).mono ?_; rintro e w' ⟨rfl, rfl⟩)
          go_round
          case rel => exact ⟨j + 1, by omega, by go_num, by have a := HR.out; have b := H1.out; show _ = _; rw [Nat.add_assoc] at b; omega⟩
          case measure => simp [intOf]; omega
        · have hc' : isC (s[m + j].toNat : Int) k = false := by simpa using hc
          have H1 : Hid _ := runL_miss k s (m + j) hlt hc'
          go_wp2_with (go_at_call 55; refine (Is_any _ _ _).mono ?_; rintro e w' ⟨rfl, rfl⟩)
          go_ret
          exact ⟨ret_i (by have a := HR.out; have b := H1.out; rw [HI.out]; omega), rfl⟩
      · have H1 : Hid _ := runL_end k s (m + j) (by omega)
        go_wp2_with fail
        go_ret
        exact ⟨ret_i (by have a := HR.out; have b := H1.out; rw [HI.out]; omega), rfl⟩
  · have hb : (decide (0 ≤ n) && decide (n ≤ (s.size : Int))) = false := by simp; omega
    have HI : Hid _ := runI_out s n k hin
    clear hin
    go_enter Tryz.func28, Tryz.ntmps28
    go_wp2_with (go_at_call 54; refine (inside_any _ _ _).mono ?_; rintro e w' ⟨rfl, rfl⟩)
    go_ret
    exact ⟨ret_i HI.out.symm, rfl⟩

set_option maxHeartbeats 400000 in
theorem RRun_any (s : ByteArray) (n k : Int) (w : World) (hs : s.size ≤ maxLen) :
    Calls Tryz.prog 165 #[.string s, .int .i64 n, .int .i64 k] w fun e w' => e = .returned (.int .i64 (runI s.data.toList n k)) ∧ w' = w := by
  unfold maxLen at hs
  by_cases h0 : 0 ≤ n
  · by_cases h1 : n ≤ (s.size : Int)
    · obtain ⟨m, rfl⟩ := Int.eq_ofNat_of_zero_le h0
      have hm : m ≤ s.size := by omega
      have HI : Hid (runI s.data.toList m k = m + (runL k (s.data.toList.drop m) : Int)) := runI_in s m k hm
      have d1 : decide ((m : Int) < 0) = false := by simp
      have d2 : decide (s.size < m) = false := by simp; omega
      go_enter Tryz.func165, Tryz.ntmps165
      go_wp2_with fail
      go_loop [1] (fun i => ∃ j : Nat, m + j ≤ s.size ∧ i = .int .i64 (m + j : Nat) ∧ Hid (runL k (s.data.toList.drop m) = j + runL k (s.data.toList.drop (m + j)))) (fun i => s.size - (intOf i).toNat)
      case atStart => exact ⟨0, by omega, rfl, by simp [Hid]⟩
      case round =>
        obtain ⟨j, hj, rfl, HR⟩ := hrel
        by_cases hlt : m + j < s.size
        · by_cases hc : isC (s[m + j].toNat : Int) k = true
          · have H1 : Hid _ := runL_hit k s (m + j) hlt hc
            go_wp2_with (go_at_call 169; refine (RIs_any _ _ _).mono ?_; rintro e w' ⟨rfl, rfl⟩)
            go_round
            case rel => exact ⟨j + 1, by omega, by go_num, by have a := HR.out; have b := H1.out; show _ = _; rw [Nat.add_assoc] at b; omega⟩
            case measure => simp [intOf]; omega
          · have hc' : isC (s[m + j].toNat : Int) k = false := by simpa using hc
            have H1 : Hid _ := runL_miss k s (m + j) hlt hc'
            go_wp2_with (go_at_call 169; refine (RIs_any _ _ _).mono ?_; rintro e w' ⟨rfl, rfl⟩)
            go_ret
            exact ⟨ret_i (by have a := HR.out; have b := H1.out; rw [HI.out]; omega), rfl⟩
        · have H1 : Hid _ := runL_end k s (m + j) (by omega)
          go_wp2_with fail
          go_ret
          exact ⟨ret_i (by have a := HR.out; have b := H1.out; rw [HI.out]; omega), rfl⟩
    · have HI : Hid _ := runI_out s n k (fun h => h1 h.2)
      go_enter Tryz.func165, Tryz.ntmps165
      go_wp2_with fail
      go_ret
      exact ⟨ret_i HI.out.symm, rfl⟩
  · have HI : Hid _ := runI_out s n k (fun h => h0 h.1)
    go_enter Tryz.func165, Tryz.ntmps165
    go_wp2_with fail
    go_ret
    exact ⟨ret_i HI.out.symm, rfl⟩

set_option maxHeartbeats 400000 in
theorem Trim_any (s : ByteArray) (w : World) (hs : s.size ≤ maxLen) :
    Calls Tryz.prog 140 #[.string s] w fun e w' => e = .returned (.string (ofL (trimL s.data.toList))) ∧ w' = w := by
  unfold maxLen at hs
  go_enter Tryz.func140, Tryz.ntmps140
  go_wp2_with fail
  go_loop [6] (fun i => ∃ j : Nat, j ≤ s.size ∧ i = .int .i64 j ∧ Hid (trimL s.data.toList = trimL (s.data.toList.drop j))) (fun i => s.size - (intOf i).toNat)
  case atStart => exact ⟨0, by omega, rfl, by simp [Hid]⟩
  case round =>
    obtain ⟨j, hj, rfl, HR⟩ := hrel
    by_cases hlt : j < s.size
    · by_cases hc : (s[j].toNat : Int) = 48
      · have H1 : Hid _ := trimL_hit s j hlt hc
        have hb : ((s[j].toNat : Int) != 48) = false := by simpa using hc
        clear hc
        go_wp2_with fail
        go_round
        case rel => exact ⟨j + 1, by omega, by go_num, HR.out.trans H1.out⟩
        case measure => simp [intOf]; omega
      · have H1 : Hid _ := trimL_miss s j hlt hc
        have hb : ((s[j].toNat : Int) != 48) = true := by simpa using hc
        clear hc
        go_wp2_with fail
        go_ret
        exact ⟨ret_s (by rw [extract_end, HR.out, H1.out]), rfl⟩
    · have H1 : Hid _ := trimL_end s j (by omega)
      go_wp2_with fail
      go_ret
      exact ⟨ret_s (by rw [HR.out, H1.out]; rfl), rfl⟩

set_option maxHeartbeats 400000 in
theorem RTrim_any (s : ByteArray) (w : World) (hs : s.size ≤ maxLen) :
    Calls Tryz.prog 81 #[.string s] w fun e w' => e = .returned (.string (ofL (trimL s.data.toList))) ∧ w' = w := by
  unfold maxLen at hs
  go_enter Tryz.func81, Tryz.ntmps81
  go_wp2_with fail
  go_loop [3] (fun i => ∃ j : Nat, j ≤ s.size ∧ i = .int .i64 j ∧ Hid (trimL s.data.toList = trimL (s.data.toList.drop j))) (fun i => s.size - (intOf i).toNat)
  case atStart => exact ⟨0, by omega, rfl, by simp [Hid]⟩
  case round =>
    obtain ⟨j, hj, rfl, HR⟩ := hrel
    by_cases hlt : j < s.size
    · by_cases hc : (s[j].toNat : Int) = 48
      · have H1 : Hid _ := trimL_hit s j hlt hc
        have hb : ((s[j].toNat : Int) == 48) = true := by simpa using hc
        clear hc
        go_wp2_with fail
        go_round
        case rel => exact ⟨j + 1, by omega, by go_num, HR.out.trans H1.out⟩
        case measure => simp [intOf]; omega
      · have H1 : Hid _ := trimL_miss s j hlt hc
        have hb : ((s[j].toNat : Int) == 48) = false := by simpa using hc
        have hne : ((j : Int) == (s.size : Int)) = false := by simp; omega
        clear hc
        go_wp2_with fail
        go_ret
        exact ⟨ret_s (by rw [extract_end, HR.out, H1.out]), rfl⟩
    · have H1 : Hid _ := trimL_end s j (by omega)
      have heq : ((j : Int) == (s.size : Int)) = true := by simp; omega
      go_wp2_with fail
      go_ret
      exact ⟨ret_s (by rw [HR.out, H1.out]; rfl), rfl⟩

set_option maxHeartbeats 400000 in
/-- The library's order of ints. -/
theorem Compare_any (x y : Int) (w : World) :
    Calls Tryz.prog 141 #[.int .i64 x, .int .i64 y] w fun e w' => e = .returned (.int .i64 (if x < y then -1 else if y < x then 1 else 0)) ∧ w' = w := by
  by_cases h1 : x < y
  · go_enter Tryz.func141, Tryz.ntmps141
    go_wp2
    go_ret
    exact ⟨ret_i (by first | rfl | ((repeat' split) <;> omega)), rfl⟩
  · by_cases h2 : y < x
    · go_enter Tryz.func141, Tryz.ntmps141
      go_wp2
      go_ret
      exact ⟨ret_i (by first | rfl | ((repeat' split) <;> omega)), rfl⟩
    · go_enter Tryz.func141, Tryz.ntmps141
      go_wp2
      go_ret
      exact ⟨ret_i (by first | rfl | ((repeat' split) <;> omega)), rfl⟩

set_option maxRecDepth 100000 in
set_option maxHeartbeats 400000 in
theorem CompareString_any (a b : ByteArray) (w : World) :
    Calls Tryz.prog 144 #[.string a, .string b] w fun e w' => e = .returned (.int .i64 (Lib.compareBytes a.data.toList b.data.toList)) ∧ w' = w := by
  go_enter Tryz.func144, Tryz.ntmps144
  go_wp2
  rw [run_callFunc_extern Tryz.func157 (by kernel_rfl) (by kernel_rfl) (by kernel_rfl) (e := Extern.BytealgCompare.compare) (by kernel_rfl), Lib.run_compareString]
  simp only [Result.andThen]
  rw [Oper.upon_value]
  go_wp2
  go_ret
  exact ⟨rfl, rfl⟩

set_option maxHeartbeats 400000 in
theorem StrCompare_any (a b : ByteArray) (w : World) :
    Calls Tryz.prog 111 #[.string a, .string b] w fun e w' => e = .returned (.int .i64 (Lib.compareBytes a.data.toList b.data.toList)) ∧ w' = w := by
  go_enter Tryz.func111, Tryz.ntmps111
  go_wp2_with (go_at_call 144; refine (CompareString_any _ _ _).mono ?_; rintro e w' ⟨rfl, rfl⟩)
  go_ret
  exact ⟨rfl, rfl⟩

set_option maxHeartbeats 400000 in
theorem Cmp_any (a b : ByteArray) (w : World) (ha : a.size ≤ 9223372036854775806) (hb : b.size ≤ 9223372036854775806) :
    Calls Tryz.prog 106 #[.string a, .string b] w fun e w' => e = .returned (.int .i64 (cmpD a.data.toList b.data.toList)) ∧ w' = w := by
  have la := trimL_le a.data.toList
  have lb := trimL_le b.data.toList
  rw [len_data] at la lb
  have ea := ofL_size (trimL a.data.toList)
  have eb := ofL_size (trimL b.data.toList)
  have da := ofL_data (trimL a.data.toList)
  have db := ofL_data (trimL b.data.toList)
  have hC : cmpD a.data.toList b.data.toList = if (trimL a.data.toList).length < (trimL b.data.toList).length then -1 else if (trimL b.data.toList).length < (trimL a.data.toList).length then 1 else Lib.compareBytes (trimL a.data.toList) (trimL b.data.toList) := rfl
  have HC := hide hC
  clear hC
  generalize cmpD a.data.toList b.data.toList = C at *
  go_enter Tryz.func106, Tryz.ntmps106
  go_wp2_with fail
  refine (Trim_any _ _ (by unfold maxLen; omega)).mono ?_
  rintro e w' ⟨rfl, rfl⟩
  go_wp2_with fail
  refine (Trim_any _ _ (by unfold maxLen; omega)).mono ?_
  rintro e w' ⟨rfl, rfl⟩
  generalize trimL a.data.toList = A at *
  generalize trimL b.data.toList = B at *
  by_cases hl : A.length = B.length
  · have hn : ((A.length : Int) != (B.length : Int)) = false := by simp; omega
    have hle : A.length ≤ B.length := by omega
    have hge : B.length ≤ A.length := by omega
    clear hl
    go_wp2_with fail
    refine (StrCompare_any _ _ _).mono ?_
    rintro e w' ⟨rfl, rfl⟩
    go_wp2_with fail
    go_ret
    exact ⟨ret_i (by rw [HC.out, if_neg (by omega), if_neg (by omega)]), rfl⟩
  · have hn : ((A.length : Int) != (B.length : Int)) = true := by simp; omega
    clear hl
    have hl : A.length < B.length ∨ B.length < A.length := by simp at hn; omega
    rcases hl with hl | hl
    · go_wp2_with fail
      refine (Compare_any _ _ _).mono ?_
      rintro e w' ⟨rfl, rfl⟩
      go_wp2_with fail
      go_ret
      exact ⟨ret_i (by rw [HC.out, if_pos hl]), rfl⟩
    · go_wp2_with fail
      refine (Compare_any _ _ _).mono ?_
      rintro e w' ⟨rfl, rfl⟩
      go_wp2_with fail
      go_ret
      exact ⟨ret_i (by rw [HC.out, if_neg (by omega), if_pos hl]), rfl⟩

theorem cmp3 : ∀ a b : List UInt8, (Lib.compareBytes a b = -1 ∧ Op.bytesLess a b = true) ∨ (Lib.compareBytes a b = 0 ∧ Op.bytesLess a b = false ∧ (a == b) = true) ∨ (Lib.compareBytes a b = 1 ∧ Op.bytesLess a b = false ∧ (a == b) = false)
  | [], [] => .inr (.inl (by simp [Lib.compareBytes, Op.bytesLess]))
  | [], _ :: _ => .inl (by simp [Lib.compareBytes, Op.bytesLess])
  | _ :: _, [] => .inr (.inr (by simp [Lib.compareBytes, Op.bytesLess]))
  | a :: x, b :: y => by
    by_cases h1 : a < b
    · exact .inl (by simp [Lib.compareBytes, Op.bytesLess, h1])
    · by_cases h2 : b < a
      · have hne : ¬ a = b := fun e => by subst e; exact h1 h2
        exact .inr (.inr (by simp [Lib.compareBytes, Op.bytesLess, h1, h2, hne]))
      · have he : a = b := UInt8.le_antisymm (UInt8.not_lt.1 h2) (UInt8.not_lt.1 h1)
        subst he
        have ih := cmp3 x y
        simp only [Lib.compareBytes, Op.bytesLess, h1, if_false, List.cons_beq_cons, BEq.rfl, Bool.true_and, decide_false, Bool.false_or]
        exact ih

theorem toL (s : ByteArray) : s.toList = s.data.toList := Lib.toList_data s

set_option maxHeartbeats 400000 in
theorem Texts_any (a b : ByteArray) (w : World) :
    Calls Tryz.prog 82 #[.string a, .string b] w fun e w' => e = .returned (.int .i64 (Lib.compareBytes a.data.toList b.data.toList)) ∧ w' = w := by
  have h3 := cmp3 a.data.toList b.data.toList
  rw [← toL a, ← toL b] at h3 ⊢
  rcases h3 with ⟨hc, hl⟩ | ⟨hc, hl, he⟩ | ⟨hc, hl, he⟩
  all_goals rw [hc]
  all_goals clear hc
  all_goals go_enter Tryz.func82, Tryz.ntmps82
  all_goals go_wp2
  all_goals go_ret
  all_goals exact ⟨rfl, rfl⟩

set_option maxHeartbeats 400000 in
theorem RCmp_any (a b : ByteArray) (w : World) (ha : a.size ≤ 9223372036854775806) (hb : b.size ≤ 9223372036854775806) :
    Calls Tryz.prog 48 #[.string a, .string b] w fun e w' => e = .returned (.int .i64 (cmpD a.data.toList b.data.toList)) ∧ w' = w := by
  have la := trimL_le a.data.toList
  have lb := trimL_le b.data.toList
  rw [len_data] at la lb
  have ea := ofL_size (trimL a.data.toList)
  have eb := ofL_size (trimL b.data.toList)
  have da := ofL_data (trimL a.data.toList)
  have db := ofL_data (trimL b.data.toList)
  have hC : cmpD a.data.toList b.data.toList = if (trimL a.data.toList).length < (trimL b.data.toList).length then -1 else if (trimL b.data.toList).length < (trimL a.data.toList).length then 1 else Lib.compareBytes (trimL a.data.toList) (trimL b.data.toList) := rfl
  have HC := hide hC
  clear hC
  generalize cmpD a.data.toList b.data.toList = C at *
  go_enter Tryz.func48, Tryz.ntmps48
  go_wp2_with fail
  refine (RTrim_any _ _ (by unfold maxLen; omega)).mono ?_
  rintro e w' ⟨rfl, rfl⟩
  go_wp2_with fail
  refine (RTrim_any _ _ (by unfold maxLen; omega)).mono ?_
  rintro e w' ⟨rfl, rfl⟩
  generalize trimL a.data.toList = A at *
  generalize trimL b.data.toList = B at *
  by_cases h1 : A.length < B.length
  · go_wp2_with fail
    go_ret
    exact ⟨ret_i (by rw [HC.out, if_pos h1]), rfl⟩
  · by_cases h2 : B.length < A.length
    · go_wp2_with fail
      go_ret
      exact ⟨ret_i (by rw [HC.out, if_neg (by omega), if_pos h2]), rfl⟩
    · go_wp2_with fail
      refine (Texts_any _ _ _).mono ?_
      rintro e w' ⟨rfl, rfl⟩
      go_wp2_with fail
      go_ret
      exact ⟨ret_i (by rw [HC.out, if_neg (by omega), if_neg (by omega)]), rfl⟩

end Go.Proofs.YtaflflelcdcanaaGreat

namespace Go.Proofs.YtaflflelcdcanaaGreat
open Go.RowKit

/-- Block b begins with the bytes l, and they can be written. -/
structure Bys (W : World) (b : Nat) (l : List UInt8) : Prop where
  cell : ∀ i, i < l.length → W.cell? ⟨b, i, none⟩ = some (.int .u8 ((l.getD i 0).toNat : Int))
  free : ∀ i, i < l.length → W.frozen? ⟨b, i, none⟩ = false

theorem bytesWorld_frozen (w : World) (e : TypeId) (s : ByteArray) (j : Nat) (hj : j < s.size) : (Lib.bytesWorld w e s).frozen? ⟨w.heap.size, j, none⟩ = false := by
  unfold World.frozen?
  rw [Lib.bytesWorld_at_new]
  have : s.size ≤ (Lib.bytesCells w e s).size := by
    unfold Lib.bytesCells
    rw [Array.size_append, Array.size_map]
    exact Nat.le_add_right _ _
  simp; omega

theorem Bys.conv (w : World) (e : TypeId) (s : ByteArray) : Bys (Lib.bytesWorld w e s) w.heap.size s.data.toList :=
  ⟨fun i hi => Lib.bytesWorld_cell w e s i (by rwa [len_data] at hi), fun i hi => bytesWorld_frozen w e s i (by rwa [len_data] at hi)⟩

theorem below_conv (w : World) (e : TypeId) (s : ByteArray) : Below w.heap.size w (Lib.bytesWorld w e s) := by
  refine ⟨rfl, rfl, rfl, ?_, fun k hk => Lib.bytesWorld_at_old w e s k hk⟩
  rw [Lib.bytesWorld_size]; omega

theorem Bys.set {W : World} {b : Nat} {l : List UInt8} (h : Bys W b l) (i : Nat) (hi : i < l.length) (v : Int) (c : UInt8) (hv : v = (c.toNat : Int)) :
    Bys (W.setCell ⟨b, i, none⟩ (.int .u8 v)) b (l.set i c) := by
  subst hv
  refine ⟨fun j hj => ?_, fun j hj => ?_⟩
  · rw [List.length_set] at hj
    by_cases e : j = i
    · subst e
      rw [World.cell?_setCell_same' _ _ _ (by rw [h.cell j hj]; rfl)]
      simp [List.getD, hj]
    · rw [World.cell?_setCell_other _ _ _ _ (by intro q; cases q; exact e rfl), h.cell j hj]
      simp [List.getD, Ne.symm e]
  · rw [List.length_set] at hj
    rw [World.frozen?_setCell]; exact h.free j hj

theorem Bys.drew {W : World} {b : Nat} {l : List UInt8} (h : Bys W b l) : Bys W.drew b l := ⟨h.cell, h.free⟩

theorem Bys.back {P : Program} {W : World} {b : Nat} {l : List UInt8} (h : Bys W b l) (src dst e : TypeId) (cap : Nat) (hs : P.underlying src = some (.slice e)) (he : P.underlying e = some (.int .u8)) (hd : P.underlying dst = some .string) :
    (convert src dst (.slice (some ⟨b, 0, none⟩) l.length cap)).run P W = .ok (.string (ofL l)) W := by
  refine run_convert_bytes_back W src dst e ⟨b, 0, none⟩ cap l hs he hd (fun j hj => ?_)
  have := h.cell j hj
  have ea : (Addr.add ⟨b, 0, none⟩ j) = ⟨b, j, none⟩ := by
    by_cases e0 : j = 0
    · subst e0; rfl
    · simp [Addr.add, e0]
  rw [ea, this]
  simp [List.getD, hj]

/-- The first j bytes turned by f. -/
def upTo (f : UInt8 → UInt8) (l : List UInt8) (j : Nat) : List UInt8 := (l.take j).map f ++ l.drop j
theorem upTo_len (f : UInt8 → UInt8) (l : List UInt8) (j : Nat) : (upTo f l j).length = l.length := by simp [upTo]; omega
theorem upTo_zero (f : UInt8 → UInt8) (l : List UInt8) : upTo f l 0 = l := by simp [upTo]
theorem upTo_all (f : UInt8 → UInt8) (l : List UInt8) : upTo f l l.length = l.map f := by simp [upTo]
theorem upTo_at (f : UInt8 → UInt8) (l : List UInt8) (j : Nat) (h : j < l.length) : (upTo f l j).getD j 0 = l.getD j 0 := by
  have e : ((l.take j).map f).length = j := by simp; omega
  simp only [upTo, List.getD]
  rw [List.getElem?_append_right (by omega), e]
  simp
theorem upTo_set (f : UInt8 → UInt8) (l : List UInt8) (j : Nat) (h : j < l.length) : (upTo f l j).set j (f (l.getD j 0)) = upTo f l (j + 1) := by
  have e : ((l.take j).map f).length = j := by simp; omega
  unfold upTo
  rw [List.set_append_right _ _ (by omega), e, Nat.sub_self, List.drop_eq_getElem_cons h, List.set_cons_zero, List.take_succ_eq_append_getElem h, List.map_append]
  simp [List.getD, h, -List.map_take]
theorem upTo_keep (f : UInt8 → UInt8) (l : List UInt8) (j : Nat) (h : j < l.length) (hf : f (l.getD j 0) = l.getD j 0) : upTo f l (j + 1) = upTo f l j := by
  rw [← upTo_set f l j h, hf, ← upTo_at f l j h]
  have hl : j < (upTo f l j).length := by rw [upTo_len]; exact h
  simp [List.getD, hl]

def lowC (c : UInt8) : UInt8 := if isC (c.toNat : Int) 3 then c + 32 else c
def digC (c : UInt8) : UInt8 := 48 + c % 10

end Go.Proofs.YtaflflelcdcanaaGreat

namespace Go.Proofs.YtaflflelcdcanaaGreat
open Go.RowKit

theorem add32 (c : UInt8) (h : (c.toNat : Int) ≤ 90) : ((c.toNat : Int) - 65 + 97) = ((c + 32).toNat : Int) := by
  have : (c + 32).toNat = (c.toNat + 32) % 256 := UInt8.toNat_add c 32
  omega
theorem add32' (c : UInt8) (h : (c.toNat : Int) ≤ 90) : ((c.toNat : Int) + 32) = ((c + 32).toNat : Int) := by
  have : (c + 32).toNat = (c.toNat + 32) % 256 := UInt8.toNat_add c 32
  omega
theorem dig10 (c : UInt8) : (48 + (c.toNat : Int) % 10) = ((digC c).toNat : Int) := by
  have h1 : (digC c).toNat = (48 + (c % 10).toNat) % 256 := UInt8.toNat_add 48 (c % 10)
  have h2 : (c % 10).toNat = c.toNat % 10 := UInt8.toNat_mod c 10
  omega

end Go.Proofs.YtaflflelcdcanaaGreat
