/-
  The plain functions that the walks of this seat answer with (bytes as numbers, texts as lists of bytes), and their laws: no program is named here. · Walks: the classes of bytes, within, inside. · Walks: Run, Trim, the order of texts of digits, in the program and in the document's answer. · A row of bytes that the call itself has made: what '[]byte(s)' lays, what a store leaves, what 'string(b)' gives: for whatever program. · Plain laws of the next number: one more, by the last digit that is no 9. · Walks: the next number, in the program and in the document's answer. · Plain laws: texts of digits stand in the order of their numbers. · Plain functions of versions: identifiers, numbers, where a text goes wrong; no program is named here.
-/
import Derived.WalkKit
import Derived.Lib.Bytealg
import Derived.Test.YtpdlgiioahjhiaaGreatRows
import Derived.WalkSpells
import Derived.WalkLawsBesides
import Derived.Lib.Strings
import Derived.Laws.IdiomStrings
import Derived.Lib.ConvBytes
namespace Go.Proofs.YtpdlgiioahjhiaaGreat

def isC (c k : Int) : Bool :=
  if k = 1 then decide (48 ≤ c) && decide (c ≤ 57)
  else if k = 2 then decide (97 ≤ c) && decide (c ≤ 122)
  else if k = 3 then decide (65 ≤ c) && decide (c ≤ 90)
  else if k = 4 then (decide (97 ≤ c) && decide (c ≤ 122)) || (decide (65 ≤ c) && decide (c ≤ 90))
  else if k = 5 then (decide (97 ≤ c) && decide (c ≤ 122)) || (decide (65 ≤ c) && decide (c ≤ 90)) || (decide (48 ≤ c) && decide (c ≤ 57))
  else if k = 6 then decide (c = 32) || decide (c = 9)
  else if k = 7 then decide (c = 32) || decide (c = 9) || decide (c = 10) || decide (c = 13)
  else false

def runL (k : Int) : List UInt8 → Nat
  | [] => 0
  | c :: r => if isC (c.toNat : Int) k then runL k r + 1 else 0

theorem runL_le (k : Int) : ∀ l : List UInt8, runL k l ≤ l.length
  | [] => Nat.le_refl _
  | c :: r => by
    unfold runL
    have := runL_le k r
    split <;> simp <;> omega

def runI (l : List UInt8) (at' k : Int) : Int :=
  if 0 ≤ at' ∧ at' ≤ (l.length : Int) then at' + (runL k (l.drop at'.toNat) : Int) else at'

def trimL : List UInt8 → List UInt8
  | [] => [48]
  | c :: r => if c = 48 then trimL r else c :: r

def cmpD (a b : List UInt8) : Int :=
  if (trimL a).length < (trimL b).length then -1 else if (trimL b).length < (trimL a).length then 1 else Lib.compareBytes (trimL a) (trimL b)

def ofL (l : List UInt8) : ByteArray := ⟨l.toArray⟩
theorem ofL_data (l : List UInt8) : (ofL l).data.toList = l := by simp [ofL]
theorem ofL_size (l : List UInt8) : (ofL l).size = l.length := by simp [ofL, ByteArray.size]
theorem ofL_self (s : ByteArray) : ofL s.data.toList = s := by cases s; simp [ofL]
theorem len_data (s : ByteArray) : s.data.toList.length = s.size := by rw [Array.length_toList]; rfl
theorem ba_ext {a b : ByteArray} (h : a.data.toList = b.data.toList) : a = b := by rw [← ofL_self a, ← ofL_self b, h]

theorem drop_at (s : ByteArray) (i : Nat) (h : i < s.size) : s.data.toList.drop i = s[i] :: s.data.toList.drop (i + 1) := by
  rw [List.drop_eq_getElem_cons (by rw [len_data]; exact h)]; rfl
theorem drop_end (s : ByteArray) (i : Nat) (h : s.size ≤ i) : s.data.toList.drop i = [] := List.drop_eq_nil_of_le (by rw [len_data]; exact h)
theorem extract_ofL (s : ByteArray) (i j : Nat) : s.extract i j = ofL ((s.data.toList.take j).drop i) := by
  apply ba_ext
  rw [ofL_data]
  simp [ByteArray.data_extract, List.drop_take, List.extract_eq_take_drop]
theorem extract_end (s : ByteArray) (i : Nat) : s.extract i s.size = ofL (s.data.toList.drop i) := by
  rw [extract_ofL, List.take_of_length_le (by rw [len_data]; exact Nat.le_refl _)]

theorem runL_hit (k : Int) (s : ByteArray) (i : Nat) (h : i < s.size) (hc : isC (s[i].toNat : Int) k = true) : runL k (s.data.toList.drop i) = runL k (s.data.toList.drop (i + 1)) + 1 := by
  rw [drop_at s i h, runL, if_pos hc]
theorem runL_miss (k : Int) (s : ByteArray) (i : Nat) (h : i < s.size) (hc : isC (s[i].toNat : Int) k = false) : runL k (s.data.toList.drop i) = 0 := by
  rw [drop_at s i h, runL, if_neg (by simp [hc])]
theorem runL_end (k : Int) (s : ByteArray) (i : Nat) (h : s.size ≤ i) : runL k (s.data.toList.drop i) = 0 := by
  rw [drop_end s i h, runL]
theorem runI_in (s : ByteArray) (m : Nat) (k : Int) (h : m ≤ s.size) : runI s.data.toList m k = m + (runL k (s.data.toList.drop m) : Int) := by
  unfold runI
  rw [if_pos (by rw [len_data]; omega)]; simp
theorem runI_out (s : ByteArray) (n : Int) (k : Int) (h : ¬ (0 ≤ n ∧ n ≤ (s.size : Int))) : runI s.data.toList n k = n := by
  unfold runI
  rw [if_neg (by rw [len_data]; exact h)]

theorem trimL_hit (s : ByteArray) (i : Nat) (h : i < s.size) (hc : (s[i].toNat : Int) = 48) : trimL (s.data.toList.drop i) = trimL (s.data.toList.drop (i + 1)) := by
  rw [drop_at s i h, trimL, if_pos (UInt8.toNat_inj.1 (by show _ = 48; omega))]
theorem trimL_miss (s : ByteArray) (i : Nat) (h : i < s.size) (hc : (s[i].toNat : Int) ≠ 48) : trimL (s.data.toList.drop i) = s.data.toList.drop i := by
  rw [drop_at s i h, trimL, if_neg (fun e => hc (by rw [e]; rfl))]
theorem trimL_end (s : ByteArray) (i : Nat) (h : s.size ≤ i) : trimL (s.data.toList.drop i) = [48] := by
  rw [drop_end s i h, trimL]
theorem trimL_le (l : List UInt8) : (trimL l).length ≤ l.length + 1 := by
  induction l with
  | nil => simp [trimL]
  | cons c r ih => unfold trimL; split <;> simp <;> omega
theorem trimL_pos (l : List UInt8) : 0 < (trimL l).length := by
  induction l with
  | nil => simp [trimL]
  | cons c r ih =>
    unfold trimL
    split
    · exact ih
    · simp

end Go.Proofs.YtpdlgiioahjhiaaGreat

namespace Go.Proofs.YtpdlgiioahjhiaaGreat
open Go.RowKit

set_option maxHeartbeats 400000 in
theorem within_any (c lo hi : Int) (w : World) :
    Calls Tryz.prog 91 #[.int .u8 c, .int .u8 lo, .int .u8 hi] w fun e w' => e = .returned (.bool (decide (lo ≤ c) && decide (c ≤ hi))) ∧ w' = w := by
  by_cases h1 : lo ≤ c
  · by_cases h2 : c ≤ hi
    · go_enter Tryz.func91, Tryz.ntmps91
      go_wp2
      go_ret
      exact ⟨by simp [h1, h2], rfl⟩
    · go_enter Tryz.func91, Tryz.ntmps91
      go_wp2
      go_ret
      exact ⟨by simp [h2], rfl⟩
  · go_enter Tryz.func91, Tryz.ntmps91
    go_wp2
    go_ret
    exact ⟨by simp; omega, rfl⟩

set_option maxHeartbeats 400000 in
theorem inside_any (s : ByteArray) (n : Int) (w : World) :
    Calls Tryz.prog 54 #[.string s, .int .i64 n] w fun e w' => e = .returned (.bool (decide (0 ≤ n) && decide (n ≤ (s.size : Int)))) ∧ w' = w := by
  by_cases h1 : 0 ≤ n
  · by_cases h2 : n ≤ (s.size : Int)
    · go_enter Tryz.func54, Tryz.ntmps54
      go_wp2
      go_ret
      exact ⟨by simp [h1, h2], rfl⟩
    · go_enter Tryz.func54, Tryz.ntmps54
      go_wp2
      go_ret
      exact ⟨by simp [h2], rfl⟩
  · go_enter Tryz.func54, Tryz.ntmps54
    go_wp2
    go_ret
    exact ⟨by simp; omega, rfl⟩

theorem ret_b {a b : Bool} (h : a = b) : Ending.returned (.bool a) = .returned (.bool b) := by rw [h]

set_option maxHeartbeats 1000000 in
theorem Is_any (c k : Int) (w : World) :
    Calls Tryz.prog 55 #[.int .u8 c, .int .i64 k] w fun e w' => e = .returned (.bool (isC c k)) ∧ w' = w := by
  by_cases k1 : k = 1
  · subst k1
    go_enter Tryz.func55, Tryz.ntmps55
    go_wp2_with (go_at_call 91; refine (within_any _ _ _ _).mono ?_; rintro e w' ⟨rfl, rfl⟩)
    go_ret
    exact ⟨rfl, rfl⟩
  by_cases k2 : k = 2
  · subst k2
    go_enter Tryz.func55, Tryz.ntmps55
    go_wp2_with (go_at_call 91; refine (within_any _ _ _ _).mono ?_; rintro e w' ⟨rfl, rfl⟩)
    go_ret
    exact ⟨rfl, rfl⟩
  by_cases k3 : k = 3
  · subst k3
    go_enter Tryz.func55, Tryz.ntmps55
    go_wp2_with (go_at_call 91; refine (within_any _ _ _ _).mono ?_; rintro e w' ⟨rfl, rfl⟩)
    go_ret
    exact ⟨rfl, rfl⟩
  by_cases k4 : k = 4
  · subst k4
    go_enter Tryz.func55, Tryz.ntmps55
    go_wp2_with (go_at_call 91; refine (within_any _ _ _ _).mono ?_; rintro e w' ⟨rfl, rfl⟩)
    all_goals go_ret
    all_goals exact ⟨ret_b (by rw [Bool.eq_iff_iff]; simp_all [isC]), rfl⟩
  by_cases k5 : k = 5
  · subst k5
    go_enter Tryz.func55, Tryz.ntmps55
    go_wp2_with (go_at_call 91; refine (within_any _ _ _ _).mono ?_; rintro e w' ⟨rfl, rfl⟩)
    all_goals go_ret
    all_goals exact ⟨ret_b (by rw [Bool.eq_iff_iff]; simp_all [isC]), rfl⟩
  by_cases k6 : k = 6
  · subst k6
    go_enter Tryz.func55, Tryz.ntmps55
    go_wp2
    all_goals go_ret
    all_goals exact ⟨ret_b (by rw [Bool.eq_iff_iff]; simp_all [isC]), rfl⟩
  by_cases k7 : k = 7
  · subst k7
    go_enter Tryz.func55, Tryz.ntmps55
    go_wp2
    all_goals go_ret
    all_goals exact ⟨ret_b (by rw [Bool.eq_iff_iff]; simp_all [isC]), rfl⟩
  have H : Hid (∀ c, isC c k = false) := by simp [Hid, isC, k1, k2, k3, k4, k5, k6, k7]
  have b1 : (k == 1) = false := by simpa using k1
  have b2 : (k == 2) = false := by simpa using k2
  have b3 : (k == 3) = false := by simpa using k3
  have b4 : (k == 4) = false := by simpa using k4
  have b5 : (k == 5) = false := by simpa using k5
  have b6 : (k == 6) = false := by simpa using k6
  have b7 : (k == 7) = false := by simpa using k7
  clear k1 k2 k3 k4 k5 k6 k7
  go_enter Tryz.func55, Tryz.ntmps55
  go_wp2
  go_ret
  exact ⟨ret_b (H.out _).symm, rfl⟩

set_option maxHeartbeats 2000000 in
theorem RIs_any (c k : Int) (w : World) :
    Calls Tryz.prog 169 #[.int .u8 c, .int .i64 k] w fun e w' => e = .returned (.bool (isC c k)) ∧ w' = w := by
  by_cases k1 : k = 1
  · subst k1
    go_enter Tryz.func169, Tryz.ntmps169
    go_wp2
    all_goals go_ret
    all_goals exact ⟨ret_b (by rw [Bool.eq_iff_iff]; simp [isC] <;> omega), rfl⟩
  by_cases k2 : k = 2
  · subst k2
    go_enter Tryz.func169, Tryz.ntmps169
    go_wp2
    all_goals go_ret
    all_goals exact ⟨ret_b (by rw [Bool.eq_iff_iff]; simp [isC] <;> omega), rfl⟩
  by_cases k3 : k = 3
  · subst k3
    go_enter Tryz.func169, Tryz.ntmps169
    go_wp2
    all_goals go_ret
    all_goals exact ⟨ret_b (by rw [Bool.eq_iff_iff]; simp [isC] <;> omega), rfl⟩
  by_cases k4 : k = 4
  · subst k4
    go_enter Tryz.func169, Tryz.ntmps169
    go_wp2
    all_goals go_ret
    all_goals exact ⟨ret_b (by rw [Bool.eq_iff_iff]; simp [isC] <;> omega), rfl⟩
  by_cases k5 : k = 5
  · subst k5
    go_enter Tryz.func169, Tryz.ntmps169
    go_wp2
    all_goals go_ret
    all_goals exact ⟨ret_b (by rw [Bool.eq_iff_iff]; simp [isC] <;> omega), rfl⟩
  by_cases k6 : k = 6
  · subst k6
    go_enter Tryz.func169, Tryz.ntmps169
    go_wp2
    all_goals go_ret
    all_goals exact ⟨ret_b (by rw [Bool.eq_iff_iff]; simp [isC] <;> omega), rfl⟩
  by_cases k7 : k = 7
  · subst k7
    go_enter Tryz.func169, Tryz.ntmps169
    go_wp2
    all_goals go_ret
    all_goals exact ⟨ret_b (by rw [Bool.eq_iff_iff]; simp [isC] <;> omega), rfl⟩
  have H : Hid (∀ c, isC c k = false) := by simp [Hid, isC, k1, k2, k3, k4, k5, k6, k7]
  have b1 : (k == 1) = false := by simpa using k1
  have b2 : (k == 2) = false := by simpa using k2
  have b3 : (k == 3) = false := by simpa using k3
  have b4 : (k == 4) = false := by simpa using k4
  have b5 : (k == 5) = false := by simpa using k5
  have b6 : (k == 6) = false := by simpa using k6
  have b7 : (k == 7) = false := by simpa using k7
  clear k1 k2 k3 k4 k5 k6 k7
  go_enter Tryz.func169, Tryz.ntmps169
  go_wp2
  all_goals go_ret
  all_goals exact ⟨ret_b (H.out _).symm, rfl⟩

end Go.Proofs.YtpdlgiioahjhiaaGreat

namespace Go.Proofs.YtpdlgiioahjhiaaGreat
open Go.RowKit

theorem hide {p : Prop} (h : p) : Hid p := h
theorem ret_i {k : IntKind} {a b : Int} (h : a = b) : Ending.returned (.int k a) = .returned (.int k b) := by rw [h]
theorem ret_s {a b : ByteArray} (h : a = b) : Ending.returned (.string a) = .returned (.string b) := by rw [h]

set_option maxHeartbeats 400000 in
theorem Run_any (s : ByteArray) (n k : Int) (w : World) (hs : s.size ≤ maxLen) :
    Calls Tryz.prog 28 #[.string s, .int .i64 n, .int .i64 k] w fun e w' => e = .returned (.int .i64 (runI s.data.toList n k)) ∧ w' = w := by
  unfold maxLen at hs
  by_cases hin : 0 ≤ n ∧ n ≤ (s.size : Int)
  · obtain ⟨h0, h1⟩ := hin
    obtain ⟨m, rfl⟩ := Int.eq_ofNat_of_zero_le h0
    have hb : (decide (0 ≤ (m : Int)) && decide ((m : Int) ≤ (s.size : Int))) = true := by simp; omega
    have hm : m ≤ s.size := by omega
    have HI : Hid (runI s.data.toList m k = m + (runL k (s.data.toList.drop m) : Int)) := runI_in s m k hm
    go_enter Tryz.func28, Tryz.ntmps28
    go_wp2_with (go_at_call 54; refine (inside_any _ _ _).mono ?_; rintro e w' ⟨rfl, rfl⟩)
    go_loop [17] (fun i => ∃ j : Nat, m + j ≤ s.size ∧ i = .int .i64 j ∧ Hid (runL k (s.data.toList.drop m) = j + runL k (s.data.toList.drop (m + j)))) (fun i => s.size - (intOf i).toNat)
    case atStart => exact ⟨0, by omega, rfl, by simp [Hid]⟩
    case round =>
      obtain ⟨j, hj, rfl, HR⟩ := hrel
      by_cases hlt : m + j < s.size
      · by_cases hc : isC (s[m + j].toNat : Int) k = true
        · have H1 : Hid _ := runL_hit k s (m + j) hlt hc
          go_wp2_with (go_at_call 55; refine (Is_any _ _ _).mono ?_; rintro e w' ⟨rfl, rfl⟩)
          go_round
          case rel => exact ⟨j + 1, by omega, by go_num, by have a := HR.out; have b := H1.out; show _ = _; rw [Nat.add_assoc] at b; omega⟩
          case measure => simp [intOf]; omega
        · have hc' : isC (s[m + j].toNat : Int) k = false := by simpa using hc
          have H1 : Hid _ := runL_miss k s (m + j) hlt hc'
          go_wp2_with (go_at_call 55; refine (Is_any _ _ _).mono ?_; rintro e w' ⟨rfl, rfl⟩)
          go_ret
          exact ⟨ret_i (by have a := HR.out; have b := H1.out; rw [HI.out]; omega), rfl⟩
      · have H1 : Hid _ := runL_end k s (m + j) (by omega)
        go_wp2_with fail
        go_ret
        exact ⟨ret_i (by have a := HR.out; have b := H1.out; rw [HI.out]; omega), rfl⟩
  · have hb : (decide (0 ≤ n) && decide (n ≤ (s.size : Int))) = false := by simp; omega
    have HI : Hid _ := runI_out s n k hin
    clear hin
    go_enter Tryz.func28, Tryz.ntmps28
    go_wp2_with (go_at_call 54; refine (inside_any _ _ _).mono ?_; rintro e w' ⟨rfl, rfl⟩)
    go_ret
    exact ⟨ret_i HI.out.symm, rfl⟩

set_option maxHeartbeats 400000 in
theorem RRun_any (s : ByteArray) (n k : Int) (w : World) (hs : s.size ≤ maxLen) :
    Calls Tryz.prog 165 #[.string s, .int .i64 n, .int .i64 k] w fun e w' => e = .returned (.int .i64 (runI s.data.toList n k)) ∧ w' = w := by
  unfold maxLen at hs
  by_cases h0 : 0 ≤ n
  · by_cases h1 : n ≤ (s.size : Int)
    · obtain ⟨m, rfl⟩ := Int.eq_ofNat_of_zero_le h0
      have hm : m ≤ s.size := by omega
      have HI : Hid (runI s.data.toList m k = m + (runL k (s.data.toList.drop m) : Int)) := runI_in s m k hm
      have d1 : decide ((m : Int) < 0) = false := by simp
      have d2 : decide (s.size < m) = false := by simp; omega
      go_enter Tryz.func165, Tryz.ntmps165
      go_wp2_with fail
      go_loop [1] (fun i => ∃ j : Nat, m + j ≤ s.size ∧ i = .int .i64 (m + j : Nat) ∧ Hid (runL k (s.data.toList.drop m) = j + runL k (s.data.toList.drop (m + j)))) (fun i => s.size - (intOf i).toNat)
      case atStart => exact ⟨0, by omega, rfl, by simp [Hid]⟩
      case round =>
        obtain ⟨j, hj, rfl, HR⟩ := hrel
        by_cases hlt : m + j < s.size
        · by_cases hc : isC (s[m + j].toNat : Int) k = true
          · have H1 : Hid _ := runL_hit k s (m + j) hlt hc
            go_wp2_with (go_at_call 169; refine (RIs_any _ _ _).mono ?_; rintro e w' ⟨rfl, rfl⟩)
            go_round
            case rel => exact ⟨j + 1, by omega, by go_num, by have a := HR.out; have b := H1.out; show _ = _; rw [Nat.add_assoc] at b; omega⟩
            case measure => simp [intOf]; omega
          · have hc' : isC (s[m + j].toNat : Int) k = false := by simpa using hc
            have H1 : Hid _ := runL_miss k s (m + j) hlt hc'
            go_wp2_with (go_at_call 169; refine (RIs_any _ _ _).mono ?_; rintro e w' ⟨rfl, rfl⟩)
            go_ret
            exact ⟨ret_i (by have a := HR.out; have b := H1.out; rw [HI.out]; omega), rfl⟩
        · have H1 : Hid _ := runL_end k s (m + j) (by omega)
          go_wp2_with fail
          go_ret
          exact ⟨ret_i (by have a := HR.out; have b := H1.out; rw [HI.out]; omega), rfl⟩
    · have HI : Hid _ := runI_out s n k (fun h => h1 h.2)
      go_enter Tryz.func165, Tryz.ntmps165
      go_wp2_with fail
      go_ret
      exact ⟨ret_i HI.out.symm, rfl⟩
  · have HI : Hid _ := runI_out s n k (fun h => h0 h.1)
    go_enter Tryz.func165, Tryz.ntmps165
    go_wp2_with fail
    go_ret
    exact ⟨ret_i HI.out.symm, rfl⟩

set_option maxHeartbeats 400000 in
theorem Trim_any (s : ByteArray) (w : World) (hs : s.size ≤ maxLen) :
    Calls Tryz.prog 140 #[.string s] w fun e w' => e = .returned (.string (ofL (trimL s.data.toList))) ∧ w' = w := by
  unfold maxLen at hs
  go_enter Tryz.func140, Tryz.ntmps140
  go_wp2_with fail
  go_loop [6] (fun i => ∃ j : Nat, j ≤ s.size ∧ i = .int .i64 j ∧ Hid (trimL s.data.toList = trimL (s.data.toList.drop j))) (fun i => s.size - (intOf i).toNat)
  case atStart => exact ⟨0, by omega, rfl, by simp [Hid]⟩
  case round =>
    obtain ⟨j, hj, rfl, HR⟩ := hrel
    by_cases hlt : j < s.size
    · by_cases hc : (s[j].toNat : Int) = 48
      · have H1 : Hid _ := trimL_hit s j hlt hc
        have hb : ((s[j].toNat : Int) != 48) = false := by simpa using hc
        clear hc
        go_wp2_with fail
        go_round
        case rel => exact ⟨j + 1, by omega, by go_num, HR.out.trans H1.out⟩
        case measure => simp [intOf]; omega
      · have H1 : Hid _ := trimL_miss s j hlt hc
        have hb : ((s[j].toNat : Int) != 48) = true := by simpa using hc
        clear hc
        go_wp2_with fail
        go_ret
        exact ⟨ret_s (by rw [extract_end, HR.out, H1.out]), rfl⟩
    · have H1 : Hid _ := trimL_end s j (by omega)
      go_wp2_with fail
      go_ret
      exact ⟨ret_s (by rw [HR.out, H1.out]; rfl), rfl⟩

set_option maxHeartbeats 400000 in
theorem RTrim_any (s : ByteArray) (w : World) (hs : s.size ≤ maxLen) :
    Calls Tryz.prog 81 #[.string s] w fun e w' => e = .returned (.string (ofL (trimL s.data.toList))) ∧ w' = w := by
  unfold maxLen at hs
  go_enter Tryz.func81, Tryz.ntmps81
  go_wp2_with fail
  go_loop [3] (fun i => ∃ j : Nat, j ≤ s.size ∧ i = .int .i64 j ∧ Hid (trimL s.data.toList = trimL (s.data.toList.drop j))) (fun i => s.size - (intOf i).toNat)
  case atStart => exact ⟨0, by omega, rfl, by simp [Hid]⟩
  case round =>
    obtain ⟨j, hj, rfl, HR⟩ := hrel
    by_cases hlt : j < s.size
    · by_cases hc : (s[j].toNat : Int) = 48
      · have H1 : Hid _ := trimL_hit s j hlt hc
        have hb : ((s[j].toNat : Int) == 48) = true := by simpa using hc
        clear hc
        go_wp2_with fail
        go_round
        case rel => exact ⟨j + 1, by omega, by go_num, HR.out.trans H1.out⟩
        case measure => simp [intOf]; omega
      · have H1 : Hid _ := trimL_miss s j hlt hc
        have hb : ((s[j].toNat : Int) == 48) = false := by simpa using hc
        have hne : ((j : Int) == (s.size : Int)) = false := by simp; omega
        clear hc
        go_wp2_with fail
        go_ret
        exact ⟨ret_s (by rw [extract_end, HR.out, H1.out]), rfl⟩
    · have H1 : Hid _ := trimL_end s j (by omega)
      have heq : ((j : Int) == (s.size : Int)) = true := by simp; omega
      go_wp2_with fail
      go_ret
      exact ⟨ret_s (by rw [HR.out, H1.out]; rfl), rfl⟩

set_option maxHeartbeats 400000 in
theorem Compare_any (x y : Int) (w : World) :
    Calls Tryz.prog 141 #[.int .i64 x, .int .i64 y] w fun e w' => e = .returned (.int .i64 (if x < y then -1 else if y < x then 1 else 0)) ∧ w' = w := by
  by_cases h1 : x < y
  · go_enter Tryz.func141, Tryz.ntmps141
    go_wp2
    go_ret
    exact ⟨ret_i (by first | rfl | ((repeat' split) <;> omega)), rfl⟩
  · by_cases h2 : y < x
    · go_enter Tryz.func141, Tryz.ntmps141
      go_wp2
      go_ret
      exact ⟨ret_i (by first | rfl | ((repeat' split) <;> omega)), rfl⟩
    · go_enter Tryz.func141, Tryz.ntmps141
      go_wp2
      go_ret
      exact ⟨ret_i (by first | rfl | ((repeat' split) <;> omega)), rfl⟩

set_option maxRecDepth 100000 in
set_option maxHeartbeats 400000 in
theorem CompareString_any (a b : ByteArray) (w : World) :
    Calls Tryz.prog 144 #[.string a, .string b] w fun e w' => e = .returned (.int .i64 (Lib.compareBytes a.data.toList b.data.toList)) ∧ w' = w := by
  go_enter Tryz.func144, Tryz.ntmps144
  go_wp2
  rw [run_callFunc_extern Tryz.func157 (by kernel_rfl) (by kernel_rfl) (by kernel_rfl) (e := Extern.BytealgCompare.compare) (by kernel_rfl), Lib.run_compareString]
  simp only [Result.andThen]
  rw [Oper.upon_value]
  go_wp2
  go_ret
  exact ⟨rfl, rfl⟩

set_option maxHeartbeats 400000 in
theorem StrCompare_any (a b : ByteArray) (w : World) :
    Calls Tryz.prog 111 #[.string a, .string b] w fun e w' => e = .returned (.int .i64 (Lib.compareBytes a.data.toList b.data.toList)) ∧ w' = w := by
  go_enter Tryz.func111, Tryz.ntmps111
  go_wp2_with (go_at_call 144; refine (CompareString_any _ _ _).mono ?_; rintro e w' ⟨rfl, rfl⟩)
  go_ret
  exact ⟨rfl, rfl⟩

set_option maxHeartbeats 400000 in
theorem Cmp_any (a b : ByteArray) (w : World) (ha : a.size ≤ 9223372036854775806) (hb : b.size ≤ 9223372036854775806) :
    Calls Tryz.prog 106 #[.string a, .string b] w fun e w' => e = .returned (.int .i64 (cmpD a.data.toList b.data.toList)) ∧ w' = w := by
  have la := trimL_le a.data.toList
  have lb := trimL_le b.data.toList
  rw [len_data] at la lb
  have ea := ofL_size (trimL a.data.toList)
  have eb := ofL_size (trimL b.data.toList)
  have da := ofL_data (trimL a.data.toList)
  have db := ofL_data (trimL b.data.toList)
  have hC : cmpD a.data.toList b.data.toList = if (trimL a.data.toList).length < (trimL b.data.toList).length then -1 else if (trimL b.data.toList).length < (trimL a.data.toList).length then 1 else Lib.compareBytes (trimL a.data.toList) (trimL b.data.toList) := rfl
  have HC := hide hC
  clear hC
  generalize cmpD a.data.toList b.data.toList = C at *
  go_enter Tryz.func106, Tryz.ntmps106
  go_wp2_with fail
  refine (Trim_any _ _ (by unfold maxLen; omega)).mono ?_
  rintro e w' ⟨rfl, rfl⟩
  go_wp2_with fail
  refine (Trim_any _ _ (by unfold maxLen; omega)).mono ?_
  rintro e w' ⟨rfl, rfl⟩
  generalize trimL a.data.toList = A at *
  generalize trimL b.data.toList = B at *
  by_cases hl : A.length = B.length
  · have hn : ((A.length : Int) != (B.length : Int)) = false := by simp; omega
    have hle : A.length ≤ B.length := by omega
    have hge : B.length ≤ A.length := by omega
    clear hl
    go_wp2_with fail
    refine (StrCompare_any _ _ _).mono ?_
    rintro e w' ⟨rfl, rfl⟩
    go_wp2_with fail
    go_ret
    exact ⟨ret_i (by rw [HC.out, if_neg (by omega), if_neg (by omega)]), rfl⟩
  · have hn : ((A.length : Int) != (B.length : Int)) = true := by simp; omega
    clear hl
    have hl : A.length < B.length ∨ B.length < A.length := by simp at hn; omega
    rcases hl with hl | hl
    · go_wp2_with fail
      refine (Compare_any _ _ _).mono ?_
      rintro e w' ⟨rfl, rfl⟩
      go_wp2_with fail
      go_ret
      exact ⟨ret_i (by rw [HC.out, if_pos hl]), rfl⟩
    · go_wp2_with fail
      refine (Compare_any _ _ _).mono ?_
      rintro e w' ⟨rfl, rfl⟩
      go_wp2_with fail
      go_ret
      exact ⟨ret_i (by rw [HC.out, if_neg (by omega), if_pos hl]), rfl⟩

theorem toL (s : ByteArray) : s.toList = s.data.toList := Lib.toList_data s

end Go.Proofs.YtpdlgiioahjhiaaGreat

namespace Go.Proofs.YtpdlgiioahjhiaaGreat
open Go.RowKit

structure Bys (W : World) (b : Nat) (l : List UInt8) : Prop where
  cell : ∀ i, i < l.length → W.cell? ⟨b, i, none⟩ = some (.int .u8 ((l.getD i 0).toNat : Int))
  free : ∀ i, i < l.length → W.frozen? ⟨b, i, none⟩ = false

theorem bytesWorld_frozen (w : World) (e : TypeId) (s : ByteArray) (j : Nat) (hj : j < s.size) : (Lib.bytesWorld w e s).frozen? ⟨w.heap.size, j, none⟩ = false := by
  unfold World.frozen?
  rw [Lib.bytesWorld_at_new]
  have : s.size ≤ (Lib.bytesCells w e s).size := by
    unfold Lib.bytesCells
    rw [Array.size_append, Array.size_map]
    exact Nat.le_add_right _ _
  simp; omega

theorem Bys.conv (w : World) (e : TypeId) (s : ByteArray) : Bys (Lib.bytesWorld w e s) w.heap.size s.data.toList :=
  ⟨fun i hi => Lib.bytesWorld_cell w e s i (by rwa [len_data] at hi), fun i hi => bytesWorld_frozen w e s i (by rwa [len_data] at hi)⟩

theorem below_conv (w : World) (e : TypeId) (s : ByteArray) : Below w.heap.size w (Lib.bytesWorld w e s) := by
  refine ⟨rfl, rfl, rfl, ?_, fun k hk => Lib.bytesWorld_at_old w e s k hk⟩
  rw [Lib.bytesWorld_size]; omega

theorem Bys.set {W : World} {b : Nat} {l : List UInt8} (h : Bys W b l) (i : Nat) (hi : i < l.length) (v : Int) (c : UInt8) (hv : v = (c.toNat : Int)) :
    Bys (W.setCell ⟨b, i, none⟩ (.int .u8 v)) b (l.set i c) := by
  subst hv
  refine ⟨fun j hj => ?_, fun j hj => ?_⟩
  · rw [List.length_set] at hj
    by_cases e : j = i
    · subst e
      rw [World.cell?_setCell_same' _ _ _ (by rw [h.cell j hj]; rfl)]
      simp [List.getD, hj]
    · rw [World.cell?_setCell_other _ _ _ _ (by intro q; cases q; exact e rfl), h.cell j hj]
      simp [List.getD, Ne.symm e]
  · rw [List.length_set] at hj
    rw [World.frozen?_setCell]; exact h.free j hj

theorem Bys.drew {W : World} {b : Nat} {l : List UInt8} (h : Bys W b l) : Bys W.drew b l := ⟨h.cell, h.free⟩

theorem Bys.back {P : Program} {W : World} {b : Nat} {l : List UInt8} (h : Bys W b l) (src dst e : TypeId) (cap : Nat) (hs : P.underlying src = some (.slice e)) (he : P.underlying e = some (.int .u8)) (hd : P.underlying dst = some .string) :
    (convert src dst (.slice (some ⟨b, 0, none⟩) l.length cap)).run P W = .ok (.string (ofL l)) W := by
  refine run_convert_bytes_back W src dst e ⟨b, 0, none⟩ cap l hs he hd (fun j hj => ?_)
  have := h.cell j hj
  have ea : (Addr.add ⟨b, 0, none⟩ j) = ⟨b, j, none⟩ := by
    by_cases e0 : j = 0
    · subst e0; rfl
    · simp [Addr.add, e0]
  rw [ea, this]
  simp [List.getD, hj]

end Go.Proofs.YtpdlgiioahjhiaaGreat

namespace Go.Proofs.YtpdlgiioahjhiaaGreat

def incR : List UInt8 → List UInt8
  | [] => [49]
  | c :: r => if c = 57 then 48 :: incR r else (c + 1) :: r

def incL (l : List UInt8) : List UInt8 := (incR l.reverse).reverse

def nextL (d : List UInt8) : List UInt8 := if runL 1 d = d.length then incL (trimL d) else [49]

def AllD (l : List UInt8) : Prop := ∀ c ∈ l, 48 ≤ c.toNat ∧ c.toNat ≤ 57

theorem allD_of_run : ∀ l : List UInt8, runL 1 l = l.length → AllD l
  | [], _ => by intro c hc; simp at hc
  | c :: r, h => by
    unfold runL at h
    by_cases hc : isC (c.toNat : Int) 1 = true
    · rw [if_pos hc] at h
      have ih := allD_of_run r (by simpa using h)
      have hb : 48 ≤ (c.toNat : Int) ∧ (c.toNat : Int) ≤ 57 := by simpa [isC] using hc
      intro x hx
      rcases List.mem_cons.1 hx with rfl | hx
      · omega
      · exact ih x hx
    · rw [if_neg hc] at h
      simp at h

theorem run_of_allD : ∀ l : List UInt8, AllD l → runL 1 l = l.length
  | [], _ => rfl
  | c :: r, h => by
    have hb := h c List.mem_cons_self
    unfold runL
    rw [if_pos (by simp [isC]; omega), run_of_allD r (fun x hx => h x (List.mem_cons_of_mem _ hx))]
    rfl

theorem trimL_allD : ∀ l : List UInt8, AllD l → AllD (trimL l)
  | [], _ => by intro c hc; simp [trimL] at hc; subst hc; decide
  | c :: r, h => by
    unfold trimL
    split
    · exact trimL_allD r (fun x hx => h x (List.mem_cons_of_mem _ hx))
    · exact h

theorem incL_nine (l : List UInt8) (k : Nat) (hk : k < l.length) (h9 : l[k] = 57) : incL (l.take (k + 1)) = incL (l.take k) ++ [48] := by
  unfold incL
  rw [List.take_succ_eq_append_getElem hk, List.reverse_append, h9]
  simp [incR]
theorem incL_stop (l : List UInt8) (k : Nat) (hk : k < l.length) (h9 : l[k] ≠ 57) : incL (l.take (k + 1)) = l.take k ++ [l[k] + 1] := by
  unfold incL
  rw [List.take_succ_eq_append_getElem hk, List.reverse_append]
  simp [incR, h9]
theorem incL_nil : incL [] = [49] := rfl

def tail0 (l : List UInt8) (k : Nat) : List UInt8 := l.take k ++ List.replicate (l.length - k) 48
theorem tail0_len (l : List UInt8) (k : Nat) (h : k ≤ l.length) : (tail0 l k).length = l.length := by simp [tail0]; omega
theorem tail0_all (l : List UInt8) : tail0 l l.length = l := by simp [tail0]
theorem tail0_at (l : List UInt8) (k : Nat) (h : k < l.length) : (tail0 l (k + 1)).getD k 0 = l[k] := by
  simp only [tail0, List.getD]
  rw [List.getElem?_append_left (by simp; omega)]
  simp [h]
theorem tail0_set (l : List UInt8) (k : Nat) (h : k < l.length) (c : UInt8) : (tail0 l (k + 1)).set k c = l.take k ++ [c] ++ List.replicate (l.length - (k + 1)) 48 := by
  have e : (l.take k).length = k := by simp; omega
  unfold tail0
  rw [List.take_succ_eq_append_getElem h, List.append_assoc, List.set_append_right _ _ (by omega), e, Nat.sub_self]
  simp
theorem tail0_nine (l : List UInt8) (k : Nat) (h : k < l.length) : (tail0 l (k + 1)).set k 48 = tail0 l k := by
  rw [tail0_set l k h, tail0, List.append_assoc]
  have : l.length - k = (l.length - (k + 1)) + 1 := by omega
  rw [this, List.replicate_succ]
  rfl

def Mid (l : List UInt8) (k : Nat) : Prop := incL l = incL (l.take k) ++ List.replicate (l.length - k) 48
theorem mid_all (l : List UInt8) : Mid l l.length := by simp [Mid]
theorem mid_nine (l : List UInt8) (k : Nat) (hk : k < l.length) (h9 : l[k] = 57) (h : Mid l (k + 1)) : Mid l k := by
  unfold Mid at *
  rw [h, incL_nine l k hk h9, List.append_assoc]
  have : l.length - k = (l.length - (k + 1)) + 1 := by omega
  rw [this, List.replicate_succ]
  rfl
theorem mid_stop (l : List UInt8) (k : Nat) (hk : k < l.length) (h9 : l[k] ≠ 57) (h : Mid l (k + 1)) : (tail0 l (k + 1)).set k (l[k] + 1) = incL l := by
  unfold Mid at h
  rw [h, incL_stop l k hk h9, tail0_set l k hk]
theorem mid_end (l : List UInt8) (h : Mid l 0) : incL l = 49 :: tail0 l 0 := by
  unfold Mid at h
  rw [h]
  simp [incL_nil, tail0]

/-! The document's way: with a nought ahead, and trimmed behind. -/
theorem trimL_id (c : UInt8) (l : List UInt8) (h : c ≠ 48) : trimL (c :: l) = c :: l := by rw [trimL, if_neg h]
theorem trimL_zeros : ∀ (n : Nat) (l : List UInt8), trimL (List.replicate n 48 ++ l) = trimL l
  | 0, l => by simp
  | n + 1, l => by
    rw [List.replicate_succ, List.cons_append, trimL, if_pos rfl]
    exact trimL_zeros n l

theorem incR_app : ∀ x y : List UInt8, (∀ c ∈ x, c = 57) → incR (x ++ y) = List.replicate x.length 48 ++ incR y
  | [], y, _ => by simp
  | c :: x, y, h => by
    have hc := h c List.mem_cons_self
    rw [List.cons_append, incR, if_pos hc, incR_app x y (fun z hz => h z (List.mem_cons_of_mem _ hz))]
    simp [List.replicate_succ]
theorem incR_some : ∀ x y : List UInt8, ¬ (∀ c ∈ x, c = 57) → incR (x ++ y) = incR x ++ y
  | [], y, h => absurd (by simp) h
  | c :: x, y, h => by
    by_cases hc : c = 57
    · rw [List.cons_append, incR, incR, if_pos hc, if_pos hc, incR_some x y (fun g => h (fun z hz => by rcases List.mem_cons.1 hz with rfl | hz; exact hc; exact g z hz))]
      rfl
    · rw [List.cons_append, incR, incR, if_neg hc, if_neg hc]
      rfl

theorem trim_parts : ∀ d : List UInt8, (∃ n c r, d = List.replicate n 48 ++ c :: r ∧ c ≠ 48 ∧ trimL d = c :: r) ∨ (d = List.replicate d.length 48 ∧ trimL d = [48])
  | [] => .inr (by simp [trimL])
  | c :: r => by
    by_cases hc : c = 48
    · subst hc
      rcases trim_parts r with ⟨n, x, y, h, hx, ht⟩ | ⟨h, ht⟩
      · exact .inl ⟨n + 1, x, y, by rw [List.replicate_succ, List.cons_append, ← h], hx, by rw [trimL, if_pos rfl, ht]⟩
      · exact .inr ⟨by rw [List.length_cons, List.replicate_succ, ← h], by rw [trimL, if_pos rfl, ht]⟩
    · exact .inl ⟨0, c, r, by simp, hc, trimL_id c r hc⟩

theorem incL_head (c : UInt8) (r : List UInt8) (hd : AllD (c :: r)) (hc : c ≠ 48) (h : ¬ ∀ x ∈ c :: r, x = 57) : ∃ c' r', incL (c :: r) = c' :: r' ∧ c' ≠ 48 := by
  unfold incL
  rw [List.reverse_cons]
  by_cases hr : ∀ x ∈ r, x = 57
  · have h57 : c ≠ 57 := fun e => h (fun x hx => by rcases List.mem_cons.1 hx with rfl | hx; exact e; exact hr x hx)
    rw [incR_app _ _ (fun x hx => hr x (by simpa using hx)), incR, if_neg h57]
    refine ⟨c + 1, List.replicate r.reverse.length 48, by simp, fun e => ?_⟩
    have hb := hd c List.mem_cons_self
    have e1 : (c + 1).toNat = (c.toNat + 1) % 256 := UInt8.toNat_add c 1
    have e2 : (c + 1).toNat = 48 := by rw [e]; rfl
    omega
  · rw [incR_some _ _ (fun g => hr (fun x hx => g x (by simpa using hx)))]
    exact ⟨c, (incR r.reverse).reverse, by simp, hc⟩

theorem next_ref (d : List UInt8) (hd : AllD d) : trimL (incL (48 :: d)) = incL (trimL d) := by
  rcases trim_parts d with ⟨n, c, r, h, hc, ht⟩ | ⟨h, ht⟩
  · rw [ht]
    have e : (48 :: d).reverse = (c :: r).reverse ++ List.replicate (n + 1) 48 := by
      rw [h, ← List.cons_append, ← List.replicate_succ, List.reverse_append, List.reverse_replicate]
    have hd' : AllD (c :: r) := fun x hx => hd x (by rw [h]; exact List.mem_append_right _ hx)
    by_cases h9 : ∀ x ∈ c :: r, x = 57
    · have h9' : ∀ x ∈ (c :: r).reverse, x = 57 := fun x hx => h9 x (List.mem_reverse.1 hx)
      have a1 : incL (48 :: d) = List.replicate n 48 ++ (49 :: List.replicate (c :: r).length 48) := by
        unfold incL
        rw [e, incR_app _ _ h9', List.replicate_succ, incR, if_neg (by decide)]
        simp
      have a2 : incL (c :: r) = 49 :: List.replicate (c :: r).length 48 := by
        unfold incL
        have := incR_app (c :: r).reverse [] h9'
        rw [List.append_nil] at this
        rw [this]
        simp [incR]
      rw [a1, a2, trimL_zeros, trimL_id _ _ (by decide)]
    · have h9' : ¬ ∀ x ∈ (c :: r).reverse, x = 57 := fun g => h9 (fun x hx => g x (List.mem_reverse.2 hx))
      have a1 : incL (48 :: d) = List.replicate (n + 1) 48 ++ incL (c :: r) := by
        unfold incL
        rw [e, incR_some _ _ h9', List.reverse_append, List.reverse_replicate]
      obtain ⟨c', r', hh, hn⟩ := incL_head c r hd' hc h9
      rw [a1, trimL_zeros, hh, trimL_id _ _ hn]
  · rw [ht]
    have e : 48 :: d = List.replicate (d.length + 1) 48 := by rw [List.replicate_succ, ← h]
    have a1 : incL (48 :: d) = List.replicate d.length 48 ++ [49] := by
      unfold incL
      rw [e, List.reverse_replicate, List.replicate_succ, incR, if_neg (by decide)]
      simp
    rw [a1, trimL_zeros]
    decide

end Go.Proofs.YtpdlgiioahjhiaaGreat

namespace Go.Proofs.YtpdlgiioahjhiaaGreat
open Go.RowKit

theorem cons_text (c : UInt8) (l : List UInt8) : (⟨#[c]⟩ : ByteArray) ++ ofL l = ofL (c :: l) := by
  apply ba_ext
  rw [ofL_data, ByteArray.data_append]
  simp [ofL]
theorem inc1 (c : UInt8) (h : (c.toNat : Int) < 57) : ((c.toNat : Int) + 1) = ((c + 1).toNat : Int) := by
  have : (c + 1).toNat = (c.toNat + 1) % 256 := UInt8.toNat_add c 1
  omega

set_option maxHeartbeats 400000 in
theorem Next_any (s : ByteArray) (w : World) (hs : s.size ≤ 9223372036854775805) :
    Calls Tryz.prog 159 #[.string s] w fun e w' => e = .returned (.string (ofL (nextL s.data.toList))) ∧ Below w.heap.size w w' := by
  have hrun : runI s.data.toList 0 1 = (runL 1 s.data.toList : Int) := by have := runI_in s 0 1 (Nat.zero_le _); simpa using this
  by_cases hr : runL 1 s.data.toList = s.data.toList.length
  · have hn : ((runL 1 s.data.toList : Int) != (s.size : Int)) = false := by rw [hr, len_data]; simp
    have hD := trimL_allD _ (allD_of_run _ hr)
    have HN : Hid (nextL s.data.toList = incL (trimL s.data.toList)) := by simp [Hid, nextL, hr]
    have la := trimL_le s.data.toList
    have lp := trimL_pos s.data.toList
    rw [len_data] at la
    clear hr
    have hconv := fun (w : World) => Lib.run_convert_string_bytes (P := Tryz.prog) w 9 91 5 (ofL (trimL s.data.toList)) Tryz.underlying9 Tryz.underlying91 Tryz.underlying5
    have hb0 := fun (w : World) => below_conv w 5 (ofL (trimL s.data.toList))
    have hy0 := fun (w : World) => Bys.conv w 5 (ofL (trimL s.data.toList))
    rw [ofL_data] at hy0
    have ea := ofL_size (trimL s.data.toList)
    go_enter Tryz.func159, Tryz.ntmps159
    go_wp2_with fail
    refine (Run_any _ _ _ _ (by unfold maxLen; omega)).mono ?_
    rintro e w' ⟨rfl, rfl⟩
    go_wp2_with fail
    refine (Trim_any _ _ (by unfold maxLen; omega)).mono ?_
    rintro e w' ⟨rfl, rfl⟩
    generalize trimL s.data.toList = l at *
    go_wp2_with fail
    obtain ⟨B, hB⟩ : ∃ B, w'.heap.size = B := ⟨_, rfl⟩
    have hb1 := hb0 w'
    have hy1 := hy0 w'
    rw [hB] at hb1 hy1
    clear hb0 hy0 hconv
    rw [hB]
    go_loopw [4] (fun i wr => ∃ k : Nat, k ≤ l.length ∧ i = .int .i64 ((k : Int) - 1) ∧ Bys wr B (tail0 l k) ∧ Hid (Mid l k) ∧ Below B w' wr) (fun i _ => (intOf i + 1).toNat)
    case atStart => exact ⟨l.length, Nat.le_refl _, rfl, by rw [tail0_all]; exact hy1, mid_all l, hb1⟩
    case round =>
      obtain ⟨k, hk, rfl, hy, HM, hbel⟩ := hrel
      cases k with
      | zero =>
        have hback := fun cap => hy.back (P := Tryz.prog) 91 9 5 cap Tryz.underlying91 Tryz.underlying5 Tryz.underlying9
        rw [tail0_len l 0 hk] at hback
        have el := ofL_size (tail0 l 0)
        rw [tail0_len l 0 hk] at el
        go_wp2_with fail
        go_ret
        exact ⟨ret_s (by rw [HN.out, mid_end l HM.out]; exact cons_text 49 _), by rw [hB]; exact hbel⟩
      | succ m =>
        have hm : m < l.length := by omega
        have hi : (((m + 1 : Nat) : Int) - 1) = (m : Int) := by omega
        rw [hi]
        clear hi
        have hcell := hy.cell m (by rw [tail0_len l _ hk]; exact hm)
        have hfree := hy.free m (by rw [tail0_len l _ hk]; exact hm)
        rw [tail0_at l m hm] at hcell
        have H9 : Hid (∀ h9 : l[m] = 57, Mid l m) := fun h9 => mid_nine l m hm h9 HM.out
        have HS : Hid (∀ h9 : l[m] ≠ 57, (tail0 l (m + 1)).set m (l[m] + 1) = incL l) := fun h9 => mid_stop l m hm h9 HM.out
        have hdb := hD l[m] (List.getElem_mem hm)
        generalize l[m] = c at *
        by_cases h9 : c = 57
        · have hc9 : ((c.toNat : Int) != 57) = false := by rw [h9]; decide
          have HX : Hid (Mid l m) := H9.out h9
          clear h9 hdb
          go_wp2_with fail
          go_roundw
          case rel => exact ⟨m, by omega, rfl, by rw [← tail0_nine l m hm]; exact hy.set m (by rw [tail0_len l _ hk]; exact hm) _ _ rfl, HX, hbel.setCell (Nat.le_refl _) _⟩
          case measure => simp [intOf]
        · have hc9 : ((c.toNat : Int) != 57) = true := by
            have : c.toNat ≠ 57 := fun e => h9 (UInt8.toNat_inj.1 e)
            simp; omega
          have HX : Hid ((tail0 l (m + 1)).set m (c + 1) = incL l) := HS.out h9
          have hlt : (c.toNat : Int) < 57 := by simp at hc9; omega
          have hyS := hy.set m (by rw [tail0_len l _ hk]; exact hm) ((c.toNat : Int) + 1) (c + 1) (inc1 c hlt)
          have hback := fun cap => hyS.back (P := Tryz.prog) 91 9 5 cap Tryz.underlying91 Tryz.underlying5 Tryz.underlying9
          rw [List.length_set, tail0_len l _ hk] at hback
          clear h9 hdb
          go_wp2_with fail
          go_ret
          exact ⟨ret_s (by rw [HN.out, HX.out]), by rw [hB]; exact hbel.setCell (Nat.le_refl _) _⟩
  · have hn : ((runL 1 s.data.toList : Int) != (s.size : Int)) = true := by rw [len_data] at hr; simp; omega
    have HN : Hid (nextL s.data.toList = [49]) := by unfold nextL; rw [if_neg hr]; rfl
    clear hr
    go_enter Tryz.func159, Tryz.ntmps159
    go_wp2_with fail
    refine (Run_any _ _ _ _ (by unfold maxLen; omega)).mono ?_
    rintro e w' ⟨rfl, rfl⟩
    go_wp2_with fail
    go_ret
    exact ⟨ret_s (by rw [HN.out]; rfl), Below.refl _ _⟩

set_option maxHeartbeats 400000 in
theorem RNext_any (s : ByteArray) (w : World) (hs : s.size ≤ 9223372036854775805) :
    Calls Tryz.prog 155 #[.string s] w fun e w' => e = .returned (.string (ofL (nextL s.data.toList))) ∧ Below w.heap.size w w' := by
  have hrun : runI s.data.toList 0 1 = (runL 1 s.data.toList : Int) := by have := runI_in s 0 1 (Nat.zero_le _); simpa using this
  by_cases hr : runL 1 s.data.toList = s.data.toList.length
  · have hn : ((runL 1 s.data.toList : Int) != (s.size : Int)) = false := by rw [hr, len_data]; simp
    have HN : Hid (nextL s.data.toList = trimL (incL (48 :: s.data.toList))) := by
      show _ = _
      rw [next_ref _ (allD_of_run _ hr), nextL, if_pos hr]
    have hD : AllD (48 :: s.data.toList) := fun c hc => by
      rcases List.mem_cons.1 hc with rfl | hc
      · decide
      · exact allD_of_run _ hr c hc
    clear hr
    have hcat : (⟨#[48]⟩ : ByteArray) ++ s = ofL (48 :: s.data.toList) := by have := cons_text 48 s.data.toList; rwa [ofL_self] at this
    have hz : (⟨#[48]⟩ : ByteArray).size = 1 := rfl
    have hl0 : (48 :: s.data.toList).length = s.size + 1 := by rw [List.length_cons, len_data]
    have hz0 : ∀ h : 0 < (48 :: s.data.toList).length, (48 :: s.data.toList)[0] = 48 := fun _ => rfl
    have ea := ofL_size (48 :: s.data.toList)
    generalize 48 :: s.data.toList = l at *
    have HL : Hid (l.length = s.size + 1) := hl0
    have hl1 : l.length ≤ s.size + 1 := by omega
    have hl2 : s.size + 1 ≤ l.length := by omega
    have HZ : Hid _ := hz0
    clear hl0 hz0
    have hconv := fun (w : World) => Lib.run_convert_string_bytes (P := Tryz.prog) w 9 91 5 (ofL l) Tryz.underlying9 Tryz.underlying91 Tryz.underlying5
    have hb0 := fun (w : World) => below_conv w 5 (ofL l)
    have hy0 := fun (w : World) => Bys.conv w 5 (ofL l)
    rw [ofL_data] at hy0
    go_enter Tryz.func155, Tryz.ntmps155
    go_wp2_with fail
    refine (RRun_any _ _ _ _ (by unfold maxLen; omega)).mono ?_
    rintro e w' ⟨rfl, rfl⟩
    go_wp2_with fail
    obtain ⟨B, hB⟩ : ∃ B, w'.heap.size = B := ⟨_, rfl⟩
    have hb1 := hb0 w'
    have hy1 := hy0 w'
    rw [hB] at hb1 hy1
    clear hb0 hy0 hconv
    rw [hB]
    go_loopw [4] (fun i wr => ∃ k : Nat, k < l.length ∧ i = .int .i64 (k : Int) ∧ Bys wr B (tail0 l (k + 1)) ∧ Hid (Mid l (k + 1)) ∧ Below B w' wr) (fun i _ => (intOf i).toNat)
    case atStart => exact ⟨s.size, by omega, by go_num, by rw [← HL.out, tail0_all]; exact hy1, by rw [← HL.out]; exact mid_all l, hb1⟩
    case round =>
      obtain ⟨m, hm, rfl, hy, HM, hbel⟩ := hrel
      have hk : m + 1 ≤ l.length := hm
      have hcell := hy.cell m (by rw [tail0_len l _ hk]; exact hm)
      have hfree := hy.free m (by rw [tail0_len l _ hk]; exact hm)
      rw [tail0_at l m hm] at hcell
      have H9 : Hid (∀ h9 : l[m] = 57, Mid l m) := fun h9 => mid_nine l m hm h9 HM.out
      have HS : Hid (∀ h9 : l[m] ≠ 57, (tail0 l (m + 1)).set m (l[m] + 1) = incL l) := fun h9 => mid_stop l m hm h9 HM.out
      have hdb := hD l[m] (List.getElem_mem hm)
      have HP : Hid (l[m] = 57 → 0 < m) := fun e => by
        rcases Nat.eq_zero_or_pos m with h0 | h0
        · subst h0; rw [HZ.out hm] at e; exact absurd e (by decide)
        · exact h0
      generalize l[m] = c at *
      by_cases h9 : c = 57
      · have hc9 : ((c.toNat : Int) == 57) = true := by rw [h9]; decide
        have HX : Hid (Mid l m) := H9.out h9
        have hp := HP.out h9
        clear h9 hdb
        go_wp2_with fail
        go_roundw
        case rel =>
          obtain ⟨q, rfl⟩ : ∃ q, m = q + 1 := ⟨m - 1, by omega⟩
          exact ⟨q, by omega, by go_num, by rw [← tail0_nine l (q + 1) hm]; exact hy.set (q + 1) (by rw [tail0_len l _ hk]; exact hm) _ _ rfl, HX, hbel.setCell (Nat.le_refl _) _⟩
        case measure => simp [intOf]; omega
      · have hc9 : ((c.toNat : Int) == 57) = false := by
          have : c.toNat ≠ 57 := fun e => h9 (UInt8.toNat_inj.1 e)
          simp; omega
        have HX : Hid ((tail0 l (m + 1)).set m (c + 1) = incL l) := HS.out h9
        have hlt : (c.toNat : Int) < 57 := by simp at hc9; omega
        have hyS := hy.set m (by rw [tail0_len l _ hk]; exact hm) ((c.toNat : Int) + 1) (c + 1) (inc1 c hlt)
        have hback := fun cap => hyS.back (P := Tryz.prog) 91 9 5 cap Tryz.underlying91 Tryz.underlying5 Tryz.underlying9
        rw [List.length_set, tail0_len l _ hk] at hback
        clear h9 hdb
        go_wp2_with fail
        refine (RTrim_any _ _ (by rw [ofL_size, List.length_set, tail0_len l _ hk]; unfold maxLen; omega)).mono ?_
        rintro e w2 ⟨rfl, rfl⟩
        go_wp2_with fail
        go_ret
        exact ⟨ret_s (by rw [HN.out, ofL_data, HX.out]), by rw [hB]; exact hbel.setCell (Nat.le_refl _) _⟩
  · have hn : ((runL 1 s.data.toList : Int) != (s.size : Int)) = true := by rw [len_data] at hr; simp; omega
    have HN : Hid (nextL s.data.toList = [49]) := by unfold nextL; rw [if_neg hr]; rfl
    clear hr
    go_enter Tryz.func155, Tryz.ntmps155
    go_wp2_with fail
    refine (RRun_any _ _ _ _ (by unfold maxLen; omega)).mono ?_
    rintro e w' ⟨rfl, rfl⟩
    go_wp2_with fail
    go_ret
    exact ⟨ret_s (by rw [HN.out]; rfl), Below.refl _ _⟩

end Go.Proofs.YtpdlgiioahjhiaaGreat

namespace Go.Proofs.YtpdlgiioahjhiaaGreat

def val : List UInt8 → Nat
  | [] => 0
  | c :: r => (c.toNat - 48) * 10 ^ r.length + val r

theorem allD_tail {c : UInt8} {r : List UInt8} (h : AllD (c :: r)) : AllD r := fun x hx => h x (List.mem_cons_of_mem _ hx)
theorem allD_head {c : UInt8} {r : List UInt8} (h : AllD (c :: r)) : 48 ≤ c.toNat ∧ c.toNat ≤ 57 := h c List.mem_cons_self

theorem val_trim : ∀ l : List UInt8, val (trimL l) = val l
  | [] => by simp [trimL, val]
  | c :: r => by
    unfold trimL
    split
    · rename_i h; rw [val_trim r, val, h]; simp
    · rfl

def vr : List UInt8 → Nat
  | [] => 0
  | c :: r => (c.toNat - 48) + 10 * vr r
theorem vr_app : ∀ (l : List UInt8) (c : UInt8), vr (l ++ [c]) = vr l + (c.toNat - 48) * 10 ^ l.length
  | [], c => by simp [vr]
  | d :: r, c => by
    rw [List.cons_append, vr, vr, vr_app r c, List.length_cons, Nat.pow_succ, Nat.mul_add, Nat.mul_left_comm]
    have : (c.toNat - 48) * (10 ^ r.length * 10) = (c.toNat - 48) * (10 * 10 ^ r.length) := by rw [Nat.mul_comm (10 ^ r.length) 10]
    omega
theorem val_vr : ∀ l : List UInt8, val l = vr l.reverse
  | [] => rfl
  | c :: r => by
    rw [val, List.reverse_cons, vr_app, val_vr r, List.length_reverse]
    omega
theorem vr_inc : ∀ l : List UInt8, AllD l → vr (incR l) = vr l + 1
  | [], _ => rfl
  | c :: r, h => by
    have hc := allD_head h
    unfold incR
    split
    · rename_i e
      rw [vr, vr_inc r (allD_tail h), vr, e]
      show 48 - 48 + 10 * (vr r + 1) = 57 - 48 + 10 * vr r + 1
      omega
    · rename_i e
      have hne : c.toNat ≠ 57 := fun e' => e (UInt8.toNat_inj.1 e')
      have e1 : (c + 1).toNat = (c.toNat + 1) % 256 := UInt8.toNat_add c 1
      rw [vr, vr, e1]
      omega
theorem allD_inc : ∀ l : List UInt8, AllD l → AllD (incR l)
  | [], _ => by intro x hx; simp [incR] at hx; subst hx; decide
  | c :: r, h => by
    have hc := allD_head h
    unfold incR
    split
    · intro x hx
      rcases List.mem_cons.1 hx with rfl | hx
      · decide
      · exact allD_inc r (allD_tail h) x hx
    · rename_i e
      have hne : c.toNat ≠ 57 := fun e' => e (UInt8.toNat_inj.1 e')
      have e1 : (c + 1).toNat = (c.toNat + 1) % 256 := UInt8.toNat_add c 1
      intro x hx
      rcases List.mem_cons.1 hx with rfl | hx
      · omega
      · exact allD_tail h x hx
theorem allD_rev (l : List UInt8) (h : AllD l) : AllD l.reverse := fun x hx => h x (List.mem_reverse.1 hx)
theorem incL_val (l : List UInt8) (h : AllD l) : val (incL l) = val l + 1 ∧ AllD (incL l) := by
  unfold incL
  refine ⟨?_, allD_rev _ (allD_inc _ (allD_rev _ h))⟩
  rw [val_vr, List.reverse_reverse, vr_inc _ (allD_rev _ h), ← val_vr]
theorem incR_len : ∀ l : List UInt8, (incR l).length ≤ l.length + 1
  | [] => by simp [incR]
  | c :: r => by
    have := incR_len r
    unfold incR
    split <;> simp <;> omega
theorem nextL_val (l : List UInt8) (h : AllD l) : val (nextL l) = val l + 1 ∧ AllD (nextL l) := by
  unfold nextL
  rw [if_pos (run_of_allD l h), ← val_trim l]
  exact incL_val _ (trimL_allD l h)
theorem nextL_len (l : List UInt8) : (nextL l).length ≤ l.length + 2 := by
  unfold nextL
  split
  · have h1 := incR_len (trimL l).reverse
    have h2 := trimL_le l
    rw [List.length_reverse] at h1
    unfold incL
    rw [List.length_reverse]
    omega
  · simp
end Go.Proofs.YtpdlgiioahjhiaaGreat

namespace Go.Proofs.YtpdlgiioahjhiaaGreat

def isId (c : UInt8) : Bool := c == 45 || isC (c.toNat : Int) 5
def idL : List UInt8 → Nat
  | [] => 0
  | c :: r => if isId c then idL r + 1 else 0
theorem idL_le : ∀ l : List UInt8, idL l ≤ l.length
  | [] => Nat.le_refl _
  | c :: r => by
    unfold idL
    have := idL_le r
    split <;> simp <;> omega
def digB (l : List UInt8) : Bool := !l.isEmpty && (runL 1 l == l.length)
def zeroB (l : List UInt8) : Bool := decide (1 < l.length) && (l.head? == some 48) && digB l
def numB (l : List UInt8) : Bool := digB l && !zeroB l
def idB (l : List UInt8) : Bool := !l.isEmpty && (idL l == l.length)
def preB (l : List UInt8) : Bool := idB l && !zeroB l
def misL (n a : Nat) : Int := if a = n then 11 else 10
def seg (l : List UInt8) (a e : Nat) : List UInt8 := (l.take e).drop a
theorem extract_seg (s : ByteArray) (a e : Nat) : s.extract a e = ofL (seg s.data.toList a e) := extract_ofL s a e
theorem extract_data (s : ByteArray) (a e : Nat) : (s.extract a e).data.toList = seg s.data.toList a e := by rw [extract_seg, ofL_data]
theorem seg_len (l : List UInt8) (a e : Nat) (h : e ≤ l.length) : (seg l a e).length = e - a := by simp [seg]; omega

theorem idL_hit (s : ByteArray) (i : Nat) (h : i < s.size) (hc : isId s[i] = true) : idL (s.data.toList.drop i) = idL (s.data.toList.drop (i + 1)) + 1 := by
  rw [drop_at s i h, idL, if_pos hc]
theorem idL_miss (s : ByteArray) (i : Nat) (h : i < s.size) (hc : isId s[i] = false) : idL (s.data.toList.drop i) = 0 := by
  rw [drop_at s i h, idL, if_neg (by simp [hc])]
theorem idL_end (s : ByteArray) (i : Nat) (h : s.size ≤ i) : idL (s.data.toList.drop i) = 0 := by
  rw [drop_end s i h, idL]
theorem idL_drop_le (s : ByteArray) (a : Nat) (h : a ≤ s.size) : a + idL (s.data.toList.drop a) ≤ s.size := by
  have := idL_le (s.data.toList.drop a)
  rw [List.length_drop, len_data] at this
  omega
theorem runL_drop_le (k : Int) (s : ByteArray) (a : Nat) (h : a ≤ s.size) : a + runL k (s.data.toList.drop a) ≤ s.size := by
  have := runL_le k (s.data.toList.drop a)
  rw [List.length_drop, len_data] at this
  omega

def wrongL (pre : Bool) (l : List UInt8) (x : List UInt8) (e : Nat) : Int :=
  if x = [] then misL l.length e else if !pre || !zeroB x then 0 else if l[e]? = some 46 ∨ l[e]? = some 43 then 14 else misL l.length e

def numR (l : List UInt8) (a : Nat) : Except (Int × Nat) Nat :=
  if runL 1 (l.drop a) = 0 then .error (misL l.length a, a) else if zeroB (seg l a (a + runL 1 (l.drop a))) then .error (14, a + 1) else .ok (a + runL 1 (l.drop a))
def dotR (l : List UInt8) (a : Nat) : Except (Int × Nat) Nat := if l[a]? = some 46 then .ok (a + 1) else .error (misL l.length a, a)
def numsR (l : List UInt8) : Except (Int × Nat) (Nat × Nat × Nat × Nat × Nat) :=
  match numR l 0 with
  | .error x => .error x
  | .ok a => match dotR l a with
    | .error x => .error x
    | .ok b => match numR l b with
      | .error x => .error x
      | .ok c => match dotR l c with
        | .error x => .error x
        | .ok d => match numR l d with
          | .error x => .error x
          | .ok e => .ok (a, b, c, d, e)

def segs (l : List UInt8) (a : Nat) : List (Nat × Nat) :=
  (a, a + idL (l.drop a)) :: if h : l[a + idL (l.drop a)]? = some 46 then segs l (a + idL (l.drop a) + 1) else []
  termination_by l.length - a
  decreasing_by
    have := (List.getElem?_eq_some_iff.1 h).1
    omega
theorem segs_dot (l : List UInt8) (a e : Nat) (he : a + idL (l.drop a) = e) (h : l[e]? = some 46) : segs l a = (a, e) :: segs l (e + 1) := by
  rw [segs]
  subst he
  rw [dif_pos h]
theorem segs_last (l : List UInt8) (a e : Nat) (he : a + idL (l.drop a) = e) (h : ¬ l[e]? = some 46) : segs l a = [(a, e)] := by
  rw [segs]
  subst he
  rw [dif_neg h]
theorem segs_len (l : List UInt8) : ∀ (n a : Nat), l.length - a = n → (segs l a).length ≤ l.length - a + 1 := by
  intro n
  induction n using Nat.strongRecOn with
  | _ n ih =>
    intro a hn
    by_cases h : l[a + idL (l.drop a)]? = some 46
    · rw [segs_dot l a _ rfl h]
      have hlt := (List.getElem?_eq_some_iff.1 h).1
      have := ih (l.length - (a + idL (l.drop a) + 1)) (by omega) (a + idL (l.drop a) + 1) rfl
      simp only [List.length_cons]
      omega
    · rw [segs_last l a _ rfl h]
      simp

def lastE (z : Nat) (xs : List (Nat × Nat)) : Nat := match xs.getLast? with | some x => x.2 | none => z
theorem lastE_snoc (z : Nat) (xs : List (Nat × Nat)) (x : Nat × Nat) : lastE z (xs ++ [x]) = x.2 := by simp [lastE]
def badOf (p : Bool) (l : List UInt8) : List (Nat × Nat) → Option (Int × Nat)
  | [] => none
  | x :: r => if wrongL p l (seg l x.1 x.2) x.2 = 0 then badOf p l r else some (wrongL p l (seg l x.1 x.2) x.2, x.2)
theorem badOf_app (p : Bool) (l : List UInt8) : ∀ xs ys : List (Nat × Nat), badOf p l xs = none → badOf p l (xs ++ ys) = badOf p l ys
  | [], ys, _ => rfl
  | x :: r, ys, h => by
    by_cases hx : wrongL p l (seg l x.1 x.2) x.2 = 0
    · rw [badOf, if_pos hx] at h
      rw [List.cons_append, badOf, if_pos hx]
      exact badOf_app p l r ys h
    · rw [badOf, if_neg hx] at h; cases h
def idsR (p : Bool) (l : List UInt8) (a : Nat) : Except (Int × Nat) (List (Nat × Nat) × Nat) :=
  match badOf p l (segs l a) with
  | some x => .error x
  | none => .ok (segs l a, lastE a (segs l a))
theorem idsR_bad (p : Bool) (l : List UInt8) (a : Nat) (pre : List (Nat × Nat)) (x : Nat × Nat) (hb : badOf p l pre = none) (hx : wrongL p l (seg l x.1 x.2) x.2 ≠ 0) (h : pre ++ [x] <+: segs l a) : idsR p l a = .error (wrongL p l (seg l x.1 x.2) x.2, x.2) := by
  obtain ⟨r, hr⟩ := h
  unfold idsR
  rw [← hr, List.append_assoc, badOf_app p l pre _ hb]
  simp [badOf, hx]
theorem idsR_ok (p : Bool) (l : List UInt8) (a : Nat) (hb : badOf p l (segs l a) = none) : idsR p l a = .ok (segs l a, lastE a (segs l a)) := by
  unfold idsR; rw [hb]
def buildR (l : List UInt8) (p : Nat) (pre : List (Nat × Nat)) : Except (Int × Nat) (List (Nat × Nat) × List (Nat × Nat)) :=
  if l[p]? = some 43 then
    match idsR false l (p + 1) with
    | .error x => .error x
    | .ok (b, q) => if q < l.length then .error (10, q) else .ok (pre, b)
  else if p < l.length then .error (10, p) else .ok (pre, [])
def tailR (l : List UInt8) (e : Nat) : Except (Int × Nat) (List (Nat × Nat) × List (Nat × Nat)) :=
  if l[e]? = some 45 then
    match idsR true l (e + 1) with
    | .error x => .error x
    | .ok (pre, p) => buildR l p pre
  else buildR l e []
structure Cuts where
  a : Nat
  b : Nat
  c : Nat
  d : Nat
  e : Nat
  pre : List (Nat × Nat)
  bld : List (Nat × Nat)
def parseR (l : List UInt8) : Except (Int × Nat) Cuts :=
  if 64 < l.length then .error (12, 64) else
    match numsR l with
    | .error x => .error x
    | .ok (a, b, c, d, e) =>
      match tailR l e with
      | .error x => .error x
      | .ok (pre, bld) => .ok ⟨a, b, c, d, e, pre, bld⟩

theorem segs_ends (l : List UInt8) : ∀ (n a : Nat), l.length - a = n → a ≤ l.length → ∀ x ∈ segs l a, x.1 ≤ x.2 ∧ x.2 ≤ l.length ∧ idL (l.drop x.2) = 0 := by
  have hz : ∀ m : List UInt8, idL (m.drop (idL m)) = 0 := by
    intro m
    induction m with
    | nil => rfl
    | cons c r ih =>
      by_cases hc : isId c = true
      · rw [idL, if_pos hc, List.drop_succ_cons]; exact ih
      · have : idL (c :: r) = 0 := by rw [idL, if_neg hc]
        rw [this, List.drop_zero, this]
  intro n
  induction n using Nat.strongRecOn with
  | _ n ih =>
    intro a hn ha x hx
    have he := idL_le (l.drop a)
    rw [List.length_drop] at he
    have h0 : (a, a + idL (l.drop a)).1 ≤ (a, a + idL (l.drop a)).2 ∧ (a, a + idL (l.drop a)).2 ≤ l.length ∧ idL (l.drop (a, a + idL (l.drop a)).2) = 0 := by
      refine ⟨by simp, by simp; omega, ?_⟩
      have := hz (l.drop a)
      rw [List.drop_drop] at this
      exact this
    by_cases h : l[a + idL (l.drop a)]? = some 46
    · rw [segs_dot l a _ rfl h] at hx
      have hlt := (List.getElem?_eq_some_iff.1 h).1
      rcases List.mem_cons.1 hx with rfl | hx
      · exact h0
      · exact ih (l.length - (a + idL (l.drop a) + 1)) (by omega) (a + idL (l.drop a) + 1) rfl (by omega) x hx
    · rw [segs_last l a _ rfl h] at hx
      obtain rfl : x = _ := List.mem_singleton.1 hx
      exact h0
theorem segs_ne (l : List UInt8) (a : Nat) : segs l a ≠ [] := by
  rw [segs]; simp
theorem segs_lastE (l : List UInt8) (z a : Nat) : lastE z (segs l a) = lastE a (segs l a) := by
  unfold lastE
  cases h : (segs l a).getLast? with
  | none => exact absurd (List.getLast?_eq_none_iff.1 h) (segs_ne l a)
  | some x => rfl
theorem lastE_ends (l : List UInt8) (a : Nat) (ha : a ≤ l.length) : lastE a (segs l a) ≤ l.length ∧ idL (l.drop (lastE a (segs l a))) = 0 := by
  have hm : ∃ x ∈ segs l a, lastE a (segs l a) = x.2 := by
    unfold lastE
    cases h : (segs l a).getLast? with
    | none => exact absurd (List.getLast?_eq_none_iff.1 h) (segs_ne l a)
    | some x => exact ⟨x, List.mem_of_getLast? h, rfl⟩
  obtain ⟨x, hx, e⟩ := hm
  have := segs_ends l _ a rfl ha x hx
  rw [e]
  exact ⟨this.2.1, this.2.2⟩

end Go.Proofs.YtpdlgiioahjhiaaGreat
