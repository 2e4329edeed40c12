/-
  The plain functions that the walks of this seat answer with (bytes as numbers, texts as lists of bytes), and their laws: no program is named here. · Walks: the classes of bytes, within, inside. · Walks: Run, Trim, the order of texts of digits, in the program and in the document's answer. · A row of bytes that the call itself has made: what '[]byte(s)' lays, what a store leaves, what 'string(b)' gives: for whatever program. · Walks: small letters, and digits out of any bytes. · Plain laws: texts of digits stand in the order of their numbers.
-/
import Derived.WalkKit
import Derived.Lib.Bytealg
import Derived.Test.YtabmfdedbpmfmaaGreatRows
import Derived.WalkSpells
import Derived.WalkLawsBesides
import Derived.Lib.Strings
import Derived.Laws.IdiomStrings
import Derived.Lib.ConvBytes
namespace Go.Proofs.YtabmfdedbpmfmaaGreat

def isC (c k : Int) : Bool :=
  if k = 1 then decide (48 ≤ c) && decide (c ≤ 57)
  else if k = 2 then decide (97 ≤ c) && decide (c ≤ 122)
  else if k = 3 then decide (65 ≤ c) && decide (c ≤ 90)
  else if k = 4 then (decide (97 ≤ c) && decide (c ≤ 122)) || (decide (65 ≤ c) && decide (c ≤ 90))
  else if k = 5 then (decide (97 ≤ c) && decide (c ≤ 122)) || (decide (65 ≤ c) && decide (c ≤ 90)) || (decide (48 ≤ c) && decide (c ≤ 57))
  else if k = 6 then decide (c = 32) || decide (c = 9)
  else if k = 7 then decide (c = 32) || decide (c = 9) || decide (c = 10) || decide (c = 13)
  else false

def runL (k : Int) : List UInt8 → Nat
  | [] => 0
  | c :: r => if isC (c.toNat : Int) k then runL k r + 1 else 0

theorem runL_le (k : Int) : ∀ l : List UInt8, runL k l ≤ l.length
  | [] => Nat.le_refl _
  | c :: r => by
    unfold runL
    have := runL_le k r
    split <;> simp <;> omega

def runI (l : List UInt8) (at' k : Int) : Int :=
  if 0 ≤ at' ∧ at' ≤ (l.length : Int) then at' + (runL k (l.drop at'.toNat) : Int) else at'

def trimL : List UInt8 → List UInt8
  | [] => [48]
  | c :: r => if c = 48 then trimL r else c :: r

def cmpD (a b : List UInt8) : Int :=
  if (trimL a).length < (trimL b).length then -1 else if (trimL b).length < (trimL a).length then 1 else Lib.compareBytes (trimL a) (trimL b)

def ofL (l : List UInt8) : ByteArray := ⟨l.toArray⟩
theorem ofL_data (l : List UInt8) : (ofL l).data.toList = l := by simp [ofL]
theorem ofL_size (l : List UInt8) : (ofL l).size = l.length := by simp [ofL, ByteArray.size]
theorem ofL_self (s : ByteArray) : ofL s.data.toList = s := by cases s; simp [ofL]
theorem len_data (s : ByteArray) : s.data.toList.length = s.size := by rw [Array.length_toList]; rfl
theorem ba_ext {a b : ByteArray} (h : a.data.toList = b.data.toList) : a = b := by rw [← ofL_self a, ← ofL_self b, h]

theorem drop_at (s : ByteArray) (i : Nat) (h : i < s.size) : s.data.toList.drop i = s[i] :: s.data.toList.drop (i + 1) := by
  rw [List.drop_eq_getElem_cons (by rw [len_data]; exact h)]; rfl
theorem drop_end (s : ByteArray) (i : Nat) (h : s.size ≤ i) : s.data.toList.drop i = [] := List.drop_eq_nil_of_le (by rw [len_data]; exact h)
theorem extract_ofL (s : ByteArray) (i j : Nat) : s.extract i j = ofL ((s.data.toList.take j).drop i) := by
  apply ba_ext
  rw [ofL_data]
  simp [ByteArray.data_extract, List.drop_take, List.extract_eq_take_drop]
theorem extract_end (s : ByteArray) (i : Nat) : s.extract i s.size = ofL (s.data.toList.drop i) := by
  rw [extract_ofL, List.take_of_length_le (by rw [len_data]; exact Nat.le_refl _)]

theorem runL_hit (k : Int) (s : ByteArray) (i : Nat) (h : i < s.size) (hc : isC (s[i].toNat : Int) k = true) : runL k (s.data.toList.drop i) = runL k (s.data.toList.drop (i + 1)) + 1 := by
  rw [drop_at s i h, runL, if_pos hc]
theorem runL_miss (k : Int) (s : ByteArray) (i : Nat) (h : i < s.size) (hc : isC (s[i].toNat : Int) k = false) : runL k (s.data.toList.drop i) = 0 := by
  rw [drop_at s i h, runL, if_neg (by simp [hc])]
theorem runL_end (k : Int) (s : ByteArray) (i : Nat) (h : s.size ≤ i) : runL k (s.data.toList.drop i) = 0 := by
  rw [drop_end s i h, runL]
theorem runI_in (s : ByteArray) (m : Nat) (k : Int) (h : m ≤ s.size) : runI s.data.toList m k = m + (runL k (s.data.toList.drop m) : Int) := by
  unfold runI
  rw [if_pos (by rw [len_data]; omega)]; simp
theorem runI_out (s : ByteArray) (n : Int) (k : Int) (h : ¬ (0 ≤ n ∧ n ≤ (s.size : Int))) : runI s.data.toList n k = n := by
  unfold runI
  rw [if_neg (by rw [len_data]; exact h)]

theorem trimL_hit (s : ByteArray) (i : Nat) (h : i < s.size) (hc : (s[i].toNat : Int) = 48) : trimL (s.data.toList.drop i) = trimL (s.data.toList.drop (i + 1)) := by
  rw [drop_at s i h, trimL, if_pos (UInt8.toNat_inj.1 (by show _ = 48; omega))]
theorem trimL_miss (s : ByteArray) (i : Nat) (h : i < s.size) (hc : (s[i].toNat : Int) ≠ 48) : trimL (s.data.toList.drop i) = s.data.toList.drop i := by
  rw [drop_at s i h, trimL, if_neg (fun e => hc (by rw [e]; rfl))]
theorem trimL_end (s : ByteArray) (i : Nat) (h : s.size ≤ i) : trimL (s.data.toList.drop i) = [48] := by
  rw [drop_end s i h, trimL]
theorem trimL_le (l : List UInt8) : (trimL l).length ≤ l.length + 1 := by
  induction l with
  | nil => simp [trimL]
  | cons c r ih => unfold trimL; split <;> simp <;> omega
end Go.Proofs.YtabmfdedbpmfmaaGreat

namespace Go.Proofs.YtabmfdedbpmfmaaGreat
open Go.RowKit

set_option maxHeartbeats 400000 in
theorem within_any (c lo hi : Int) (w : World) :
    Calls Tryz.prog 114 #[.int .u8 c, .int .u8 lo, .int .u8 hi] w fun e w' => e = .returned (.bool (decide (lo ≤ c) && decide (c ≤ hi))) ∧ w' = w := by
  by_cases h1 : lo ≤ c
  · by_cases h2 : c ≤ hi
    · go_enter Tryz.func114, Tryz.ntmps114
      go_wp2
      go_ret
      exact ⟨by simp [h1, h2], rfl⟩
    · go_enter Tryz.func114, Tryz.ntmps114
      go_wp2
      go_ret
      exact ⟨by simp [h2], rfl⟩
  · go_enter Tryz.func114, Tryz.ntmps114
    go_wp2
    go_ret
    exact ⟨by simp; omega, rfl⟩

set_option maxHeartbeats 400000 in
theorem inside_any (s : ByteArray) (n : Int) (w : World) :
    Calls Tryz.prog 85 #[.string s, .int .i64 n] w fun e w' => e = .returned (.bool (decide (0 ≤ n) && decide (n ≤ (s.size : Int)))) ∧ w' = w := by
  by_cases h1 : 0 ≤ n
  · by_cases h2 : n ≤ (s.size : Int)
    · go_enter Tryz.func85, Tryz.ntmps85
      go_wp2
      go_ret
      exact ⟨by simp [h1, h2], rfl⟩
    · go_enter Tryz.func85, Tryz.ntmps85
      go_wp2
      go_ret
      exact ⟨by simp [h2], rfl⟩
  · go_enter Tryz.func85, Tryz.ntmps85
    go_wp2
    go_ret
    exact ⟨by simp; omega, rfl⟩

theorem ret_b {a b : Bool} (h : a = b) : Ending.returned (.bool a) = .returned (.bool b) := by rw [h]

set_option maxHeartbeats 1000000 in
theorem Is_any (c k : Int) (w : World) :
    Calls Tryz.prog 86 #[.int .u8 c, .int .i64 k] w fun e w' => e = .returned (.bool (isC c k)) ∧ w' = w := by
  by_cases k1 : k = 1
  · subst k1
    go_enter Tryz.func86, Tryz.ntmps86
    go_wp2_with (go_at_call 114; refine (within_any _ _ _ _).mono ?_; rintro e w' ⟨rfl, rfl⟩)
    go_ret
    exact ⟨rfl, rfl⟩
  by_cases k2 : k = 2
  · subst k2
    go_enter Tryz.func86, Tryz.ntmps86
    go_wp2_with (go_at_call 114; refine (within_any _ _ _ _).mono ?_; rintro e w' ⟨rfl, rfl⟩)
    go_ret
    exact ⟨rfl, rfl⟩
  by_cases k3 : k = 3
  · subst k3
    go_enter Tryz.func86, Tryz.ntmps86
    go_wp2_with (go_at_call 114; refine (within_any _ _ _ _).mono ?_; rintro e w' ⟨rfl, rfl⟩)
    go_ret
    exact ⟨rfl, rfl⟩
  by_cases k4 : k = 4
  · subst k4
    go_enter Tryz.func86, Tryz.ntmps86
    go_wp2_with (go_at_call 114; refine (within_any _ _ _ _).mono ?_; rintro e w' ⟨rfl, rfl⟩)
    all_goals go_ret
    all_goals exact ⟨ret_b (by rw [Bool.eq_iff_iff]; simp_all [isC]), rfl⟩
  by_cases k5 : k = 5
  · subst k5
    go_enter Tryz.func86, Tryz.ntmps86
    go_wp2_with (go_at_call 114; refine (within_any _ _ _ _).mono ?_; rintro e w' ⟨rfl, rfl⟩)
    all_goals go_ret
    all_goals exact ⟨ret_b (by rw [Bool.eq_iff_iff]; simp_all [isC]), rfl⟩
  by_cases k6 : k = 6
  · subst k6
    go_enter Tryz.func86, Tryz.ntmps86
    go_wp2
    all_goals go_ret
    all_goals exact ⟨ret_b (by rw [Bool.eq_iff_iff]; simp_all [isC]), rfl⟩
  by_cases k7 : k = 7
  · subst k7
    go_enter Tryz.func86, Tryz.ntmps86
    go_wp2
    all_goals go_ret
    all_goals exact ⟨ret_b (by rw [Bool.eq_iff_iff]; simp_all [isC]), rfl⟩
  have H : Hid (∀ c, isC c k = false) := by simp [Hid, isC, k1, k2, k3, k4, k5, k6, k7]
  have b1 : (k == 1) = false := by simpa using k1
  have b2 : (k == 2) = false := by simpa using k2
  have b3 : (k == 3) = false := by simpa using k3
  have b4 : (k == 4) = false := by simpa using k4
  have b5 : (k == 5) = false := by simpa using k5
  have b6 : (k == 6) = false := by simpa using k6
  have b7 : (k == 7) = false := by simpa using k7
  clear k1 k2 k3 k4 k5 k6 k7
  go_enter Tryz.func86, Tryz.ntmps86
  go_wp2
  go_ret
  exact ⟨ret_b (H.out _).symm, rfl⟩

end Go.Proofs.YtabmfdedbpmfmaaGreat

namespace Go.Proofs.YtabmfdedbpmfmaaGreat
open Go.RowKit

theorem hide {p : Prop} (h : p) : Hid p := h
theorem ret_i {k : IntKind} {a b : Int} (h : a = b) : Ending.returned (.int k a) = .returned (.int k b) := by rw [h]
theorem ret_s {a b : ByteArray} (h : a = b) : Ending.returned (.string a) = .returned (.string b) := by rw [h]

set_option maxHeartbeats 400000 in
theorem Run_any (s : ByteArray) (n k : Int) (w : World) (hs : s.size ≤ maxLen) :
    Calls Tryz.prog 60 #[.string s, .int .i64 n, .int .i64 k] w fun e w' => e = .returned (.int .i64 (runI s.data.toList n k)) ∧ w' = w := by
  unfold maxLen at hs
  by_cases hin : 0 ≤ n ∧ n ≤ (s.size : Int)
  · obtain ⟨h0, h1⟩ := hin
    obtain ⟨m, rfl⟩ := Int.eq_ofNat_of_zero_le h0
    have hb : (decide (0 ≤ (m : Int)) && decide ((m : Int) ≤ (s.size : Int))) = true := by simp; omega
    have hm : m ≤ s.size := by omega
    have HI : Hid (runI s.data.toList m k = m + (runL k (s.data.toList.drop m) : Int)) := runI_in s m k hm
    go_enter Tryz.func60, Tryz.ntmps60
    go_wp2_with (go_at_call 85; refine (inside_any _ _ _).mono ?_; rintro e w' ⟨rfl, rfl⟩)
    go_loop [17] (fun i => ∃ j : Nat, m + j ≤ s.size ∧ i = .int .i64 j ∧ Hid (runL k (s.data.toList.drop m) = j + runL k (s.data.toList.drop (m + j)))) (fun i => s.size - (intOf i).toNat)
    case atStart => exact ⟨0, by omega, rfl, by simp [Hid]⟩
    case round =>
      obtain ⟨j, hj, rfl, HR⟩ := hrel
      by_cases hlt : m + j < s.size
      · by_cases hc : isC (s[m + j].toNat : Int) k = true
        · have H1 : Hid _ := runL_hit k s (m + j) hlt hc
          go_wp2_with (go_at_call 86; refine (Is_any _ _ _).mono ?_; rintro e w' ⟨rfl, rfl⟩)
          go_round
          case rel => exact ⟨j + 1, by omega, by go_num, by have a := HR.out; have b := H1.out; show _ = _; rw [Nat.add_assoc] at b; omega⟩
          case measure => simp [intOf]; omega
        · have hc' : isC (s[m + j].toNat : Int) k = false := by simpa using hc
          have H1 : Hid _ := runL_miss k s (m + j) hlt hc'
          go_wp2_with (go_at_call 86; refine (Is_any _ _ _).mono ?_; rintro e w' ⟨rfl, rfl⟩)
          go_ret
          exact ⟨ret_i (by have a := HR.out; have b := H1.out; rw [HI.out]; omega), rfl⟩
      · have H1 : Hid _ := runL_end k s (m + j) (by omega)
        go_wp2_with fail
        go_ret
        exact ⟨ret_i (by have a := HR.out; have b := H1.out; rw [HI.out]; omega), rfl⟩
  · have hb : (decide (0 ≤ n) && decide (n ≤ (s.size : Int))) = false := by simp; omega
    have HI : Hid _ := runI_out s n k hin
    clear hin
    go_enter Tryz.func60, Tryz.ntmps60
    go_wp2_with (go_at_call 85; refine (inside_any _ _ _).mono ?_; rintro e w' ⟨rfl, rfl⟩)
    go_ret
    exact ⟨ret_i HI.out.symm, rfl⟩

set_option maxHeartbeats 400000 in
theorem Trim_any (s : ByteArray) (w : World) (hs : s.size ≤ maxLen) :
    Calls Tryz.prog 127 #[.string s] w fun e w' => e = .returned (.string (ofL (trimL s.data.toList))) ∧ w' = w := by
  unfold maxLen at hs
  go_enter Tryz.func127, Tryz.ntmps127
  go_wp2_with fail
  go_loop [6] (fun i => ∃ j : Nat, j ≤ s.size ∧ i = .int .i64 j ∧ Hid (trimL s.data.toList = trimL (s.data.toList.drop j))) (fun i => s.size - (intOf i).toNat)
  case atStart => exact ⟨0, by omega, rfl, by simp [Hid]⟩
  case round =>
    obtain ⟨j, hj, rfl, HR⟩ := hrel
    by_cases hlt : j < s.size
    · by_cases hc : (s[j].toNat : Int) = 48
      · have H1 : Hid _ := trimL_hit s j hlt hc
        have hb : ((s[j].toNat : Int) != 48) = false := by simpa using hc
        clear hc
        go_wp2_with fail
        go_round
        case rel => exact ⟨j + 1, by omega, by go_num, HR.out.trans H1.out⟩
        case measure => simp [intOf]; omega
      · have H1 : Hid _ := trimL_miss s j hlt hc
        have hb : ((s[j].toNat : Int) != 48) = true := by simpa using hc
        clear hc
        go_wp2_with fail
        go_ret
        exact ⟨ret_s (by rw [extract_end, HR.out, H1.out]), rfl⟩
    · have H1 : Hid _ := trimL_end s j (by omega)
      go_wp2_with fail
      go_ret
      exact ⟨ret_s (by rw [HR.out, H1.out]; rfl), rfl⟩

set_option maxHeartbeats 400000 in
theorem Compare_any (x y : Int) (w : World) :
    Calls Tryz.prog 128 #[.int .i64 x, .int .i64 y] w fun e w' => e = .returned (.int .i64 (if x < y then -1 else if y < x then 1 else 0)) ∧ w' = w := by
  by_cases h1 : x < y
  · go_enter Tryz.func128, Tryz.ntmps128
    go_wp2
    go_ret
    exact ⟨ret_i (by first | rfl | ((repeat' split) <;> omega)), rfl⟩
  · by_cases h2 : y < x
    · go_enter Tryz.func128, Tryz.ntmps128
      go_wp2
      go_ret
      exact ⟨ret_i (by first | rfl | ((repeat' split) <;> omega)), rfl⟩
    · go_enter Tryz.func128, Tryz.ntmps128
      go_wp2
      go_ret
      exact ⟨ret_i (by first | rfl | ((repeat' split) <;> omega)), rfl⟩

set_option maxRecDepth 100000 in
set_option maxHeartbeats 400000 in
theorem CompareString_any (a b : ByteArray) (w : World) :
    Calls Tryz.prog 147 #[.string a, .string b] w fun e w' => e = .returned (.int .i64 (Lib.compareBytes a.data.toList b.data.toList)) ∧ w' = w := by
  go_enter Tryz.func147, Tryz.ntmps147
  go_wp2
  rw [run_callFunc_extern Tryz.func167 (by kernel_rfl) (by kernel_rfl) (by kernel_rfl) (e := Extern.BytealgCompare.compare) (by kernel_rfl), Lib.run_compareString]
  simp only [Result.andThen]
  rw [Oper.upon_value]
  go_wp2
  go_ret
  exact ⟨rfl, rfl⟩

set_option maxHeartbeats 400000 in
theorem StrCompare_any (a b : ByteArray) (w : World) :
    Calls Tryz.prog 129 #[.string a, .string b] w fun e w' => e = .returned (.int .i64 (Lib.compareBytes a.data.toList b.data.toList)) ∧ w' = w := by
  go_enter Tryz.func129, Tryz.ntmps129
  go_wp2_with (go_at_call 147; refine (CompareString_any _ _ _).mono ?_; rintro e w' ⟨rfl, rfl⟩)
  go_ret
  exact ⟨rfl, rfl⟩

set_option maxHeartbeats 400000 in
theorem Cmp_any (a b : ByteArray) (w : World) (ha : a.size ≤ 9223372036854775806) (hb : b.size ≤ 9223372036854775806) :
    Calls Tryz.prog 106 #[.string a, .string b] w fun e w' => e = .returned (.int .i64 (cmpD a.data.toList b.data.toList)) ∧ w' = w := by
  have la := trimL_le a.data.toList
  have lb := trimL_le b.data.toList
  rw [len_data] at la lb
  have ea := ofL_size (trimL a.data.toList)
  have eb := ofL_size (trimL b.data.toList)
  have da := ofL_data (trimL a.data.toList)
  have db := ofL_data (trimL b.data.toList)
  have hC : cmpD a.data.toList b.data.toList = if (trimL a.data.toList).length < (trimL b.data.toList).length then -1 else if (trimL b.data.toList).length < (trimL a.data.toList).length then 1 else Lib.compareBytes (trimL a.data.toList) (trimL b.data.toList) := rfl
  have HC := hide hC
  clear hC
  generalize cmpD a.data.toList b.data.toList = C at *
  go_enter Tryz.func106, Tryz.ntmps106
  go_wp2_with fail
  refine (Trim_any _ _ (by unfold maxLen; omega)).mono ?_
  rintro e w' ⟨rfl, rfl⟩
  go_wp2_with fail
  refine (Trim_any _ _ (by unfold maxLen; omega)).mono ?_
  rintro e w' ⟨rfl, rfl⟩
  generalize trimL a.data.toList = A at *
  generalize trimL b.data.toList = B at *
  by_cases hl : A.length = B.length
  · have hn : ((A.length : Int) != (B.length : Int)) = false := by simp; omega
    have hle : A.length ≤ B.length := by omega
    have hge : B.length ≤ A.length := by omega
    clear hl
    go_wp2_with fail
    refine (StrCompare_any _ _ _).mono ?_
    rintro e w' ⟨rfl, rfl⟩
    go_wp2_with fail
    go_ret
    exact ⟨ret_i (by rw [HC.out, if_neg (by omega), if_neg (by omega)]), rfl⟩
  · have hn : ((A.length : Int) != (B.length : Int)) = true := by simp; omega
    clear hl
    have hl : A.length < B.length ∨ B.length < A.length := by simp at hn; omega
    rcases hl with hl | hl
    · go_wp2_with fail
      refine (Compare_any _ _ _).mono ?_
      rintro e w' ⟨rfl, rfl⟩
      go_wp2_with fail
      go_ret
      exact ⟨ret_i (by rw [HC.out, if_pos hl]), rfl⟩
    · go_wp2_with fail
      refine (Compare_any _ _ _).mono ?_
      rintro e w' ⟨rfl, rfl⟩
      go_wp2_with fail
      go_ret
      exact ⟨ret_i (by rw [HC.out, if_neg (by omega), if_pos hl]), rfl⟩

theorem toL (s : ByteArray) : s.toList = s.data.toList := Lib.toList_data s

end Go.Proofs.YtabmfdedbpmfmaaGreat

namespace Go.Proofs.YtabmfdedbpmfmaaGreat
open Go.RowKit

structure Bys (W : World) (b : Nat) (l : List UInt8) : Prop where
  cell : ∀ i, i < l.length → W.cell? ⟨b, i, none⟩ = some (.int .u8 ((l.getD i 0).toNat : Int))
  free : ∀ i, i < l.length → W.frozen? ⟨b, i, none⟩ = false

theorem bytesWorld_frozen (w : World) (e : TypeId) (s : ByteArray) (j : Nat) (hj : j < s.size) : (Lib.bytesWorld w e s).frozen? ⟨w.heap.size, j, none⟩ = false := by
  unfold World.frozen?
  rw [Lib.bytesWorld_at_new]
  have : s.size ≤ (Lib.bytesCells w e s).size := by
    unfold Lib.bytesCells
    rw [Array.size_append, Array.size_map]
    exact Nat.le_add_right _ _
  simp; omega

theorem Bys.conv (w : World) (e : TypeId) (s : ByteArray) : Bys (Lib.bytesWorld w e s) w.heap.size s.data.toList :=
  ⟨fun i hi => Lib.bytesWorld_cell w e s i (by rwa [len_data] at hi), fun i hi => bytesWorld_frozen w e s i (by rwa [len_data] at hi)⟩

theorem below_conv (w : World) (e : TypeId) (s : ByteArray) : Below w.heap.size w (Lib.bytesWorld w e s) := by
  refine ⟨rfl, rfl, rfl, ?_, fun k hk => Lib.bytesWorld_at_old w e s k hk⟩
  rw [Lib.bytesWorld_size]; omega

theorem Bys.set {W : World} {b : Nat} {l : List UInt8} (h : Bys W b l) (i : Nat) (hi : i < l.length) (v : Int) (c : UInt8) (hv : v = (c.toNat : Int)) :
    Bys (W.setCell ⟨b, i, none⟩ (.int .u8 v)) b (l.set i c) := by
  subst hv
  refine ⟨fun j hj => ?_, fun j hj => ?_⟩
  · rw [List.length_set] at hj
    by_cases e : j = i
    · subst e
      rw [World.cell?_setCell_same' _ _ _ (by rw [h.cell j hj]; rfl)]
      simp [List.getD, hj]
    · rw [World.cell?_setCell_other _ _ _ _ (by intro q; cases q; exact e rfl), h.cell j hj]
      simp [List.getD, Ne.symm e]
  · rw [List.length_set] at hj
    rw [World.frozen?_setCell]; exact h.free j hj

theorem Bys.drew {W : World} {b : Nat} {l : List UInt8} (h : Bys W b l) : Bys W.drew b l := ⟨h.cell, h.free⟩

theorem Bys.back {P : Program} {W : World} {b : Nat} {l : List UInt8} (h : Bys W b l) (src dst e : TypeId) (cap : Nat) (hs : P.underlying src = some (.slice e)) (he : P.underlying e = some (.int .u8)) (hd : P.underlying dst = some .string) :
    (convert src dst (.slice (some ⟨b, 0, none⟩) l.length cap)).run P W = .ok (.string (ofL l)) W := by
  refine run_convert_bytes_back W src dst e ⟨b, 0, none⟩ cap l hs he hd (fun j hj => ?_)
  have := h.cell j hj
  have ea : (Addr.add ⟨b, 0, none⟩ j) = ⟨b, j, none⟩ := by
    by_cases e0 : j = 0
    · subst e0; rfl
    · simp [Addr.add, e0]
  rw [ea, this]
  simp [List.getD, hj]

def upTo (f : UInt8 → UInt8) (l : List UInt8) (j : Nat) : List UInt8 := (l.take j).map f ++ l.drop j
theorem upTo_len (f : UInt8 → UInt8) (l : List UInt8) (j : Nat) : (upTo f l j).length = l.length := by simp [upTo]; omega
theorem upTo_zero (f : UInt8 → UInt8) (l : List UInt8) : upTo f l 0 = l := by simp [upTo]
theorem upTo_all (f : UInt8 → UInt8) (l : List UInt8) : upTo f l l.length = l.map f := by simp [upTo]
theorem upTo_at (f : UInt8 → UInt8) (l : List UInt8) (j : Nat) (h : j < l.length) : (upTo f l j).getD j 0 = l.getD j 0 := by
  have e : ((l.take j).map f).length = j := by simp; omega
  simp only [upTo, List.getD]
  rw [List.getElem?_append_right (by omega), e]
  simp
theorem upTo_set (f : UInt8 → UInt8) (l : List UInt8) (j : Nat) (h : j < l.length) : (upTo f l j).set j (f (l.getD j 0)) = upTo f l (j + 1) := by
  have e : ((l.take j).map f).length = j := by simp; omega
  unfold upTo
  rw [List.set_append_right _ _ (by omega), e, Nat.sub_self, List.drop_eq_getElem_cons h, List.set_cons_zero, List.take_succ_eq_append_getElem h, List.map_append]
  simp [List.getD, h, -List.map_take]
theorem upTo_keep (f : UInt8 → UInt8) (l : List UInt8) (j : Nat) (h : j < l.length) (hf : f (l.getD j 0) = l.getD j 0) : upTo f l (j + 1) = upTo f l j := by
  rw [← upTo_set f l j h, hf, ← upTo_at f l j h]
  have hl : j < (upTo f l j).length := by rw [upTo_len]; exact h
  simp [List.getD, hl]

def lowC (c : UInt8) : UInt8 := if isC (c.toNat : Int) 3 then c + 32 else c
end Go.Proofs.YtabmfdedbpmfmaaGreat

namespace Go.Proofs.YtabmfdedbpmfmaaGreat
open Go.RowKit

theorem add32 (c : UInt8) (h : (c.toNat : Int) ≤ 90) : ((c.toNat : Int) - 65 + 97) = ((c + 32).toNat : Int) := by
  have : (c + 32).toNat = (c.toNat + 32) % 256 := UInt8.toNat_add c 32
  omega
set_option maxHeartbeats 400000 in
theorem Lower_any (s : ByteArray) (w : World) (hs : s.size ≤ maxLen) :
    Calls Tryz.prog 95 #[.string s] w fun e w' => e = .returned (.string (ofL (s.data.toList.map lowC))) ∧ Below w.heap.size w w' := by
  unfold maxLen at hs
  have hconv := fun (w : World) => Lib.run_convert_string_bytes (P := Tryz.prog) w 9 97 5 s Tryz.underlying9 Tryz.underlying97 Tryz.underlying5
  obtain ⟨W1, hW1⟩ : ∃ W1, Lib.bytesWorld w 5 s = W1 := ⟨_, rfl⟩
  have hb0 := below_conv w 5 s
  have hy0 := Bys.conv w 5 s
  rw [hW1] at hb0 hy0
  go_enter Tryz.func95, Tryz.ntmps95
  go_wp2_with fail
  go_loopw [10] (fun i wr => ∃ j : Nat, j ≤ s.size ∧ i = .int .i64 j ∧ Bys wr w.heap.size (upTo lowC s.data.toList j) ∧ Below w.heap.size w wr) (fun i _ => s.size - (intOf i).toNat)
  case atStart => exact ⟨0, by omega, rfl, by rw [upTo_zero]; exact hy0, hb0⟩
  case round =>
    obtain ⟨j, hj, rfl, hy, hbel⟩ := hrel
    by_cases hlt : j < s.size
    · have hcell := hy.cell j (by rw [upTo_len, len_data]; exact hlt)
      have hfree := hy.free j (by rw [upTo_len, len_data]; exact hlt)
      rw [upTo_at _ _ _ (by rw [len_data]; exact hlt)] at hcell
      have HS : Hid _ := upTo_set lowC s.data.toList j (by rw [len_data]; exact hlt)
      have HK : Hid _ := upTo_keep lowC s.data.toList j (by rw [len_data]; exact hlt)
      have HL : Hid _ := upTo_len lowC s.data.toList j
      generalize s.data.toList.getD j 0 = c at *
      have hcb : c.toNat < 256 := c.toNat_lt
      by_cases hc : isC (c.toNat : Int) 3 = true
      · have hbd : (65 ≤ (c.toNat : Int)) ∧ (c.toNat : Int) ≤ 90 := by simpa [isC] using hc
        have HV : Hid (lowC c = c + 32) := by simp [Hid, lowC, hc]
        go_wp2_with (go_at_call 86; refine (Is_any _ _ _).mono ?_; rintro e w' ⟨rfl, rfl⟩)
        go_roundw
        case rel => exact ⟨j + 1, by omega, by go_num, by rw [← HS.out]; exact hy.set j (by rw [upTo_len, len_data]; exact hlt) _ _ (by rw [HV.out]; exact add32 c hbd.2), hbel.setCell (Nat.le_refl _) _⟩
        case measure => simp [intOf]; omega
      · have hc' : isC (c.toNat : Int) 3 = false := by simpa using hc
        have HV : Hid (lowC c = c) := by simp [Hid, lowC, hc]
        go_wp2_with (go_at_call 86; refine (Is_any _ _ _).mono ?_; rintro e w' ⟨rfl, rfl⟩)
        go_roundw
        case rel => exact ⟨j + 1, by omega, by go_num, by rw [HK.out HV.out]; exact hy, hbel⟩
        case measure => simp [intOf]; omega
    · obtain rfl : j = s.size := by omega
      have hback := fun cap => hy.back (P := Tryz.prog) 97 9 5 cap Tryz.underlying97 Tryz.underlying5 Tryz.underlying9
      rw [upTo_len, len_data] at hback
      have HA : Hid (upTo lowC s.data.toList s.size = s.data.toList.map lowC) := by have := upTo_all lowC s.data.toList; rw [len_data] at this; exact this
      go_wp2_with fail
      go_ret
      exact ⟨ret_s (by rw [HA.out]), hbel⟩

end Go.Proofs.YtabmfdedbpmfmaaGreat

namespace Go.Proofs.YtabmfdedbpmfmaaGreat

def vr : List UInt8 → Nat
  | [] => 0
  | c :: r => (c.toNat - 48) + 10 * vr r
end Go.Proofs.YtabmfdedbpmfmaaGreat
