/-
  Walks: the last place of a byte; what stands ahead of it and behind it; an epoch; the first wrong place.
-/
import Derived.Test.YthojcidbhojlhaaDa
namespace Go.Proofs.Ythojcidbhojlhaa
open Go.RowKit Go.Shelf
set_option linter.unusedVariables false

theorem getD_at (s : ByteArray) (j : Nat) (h : j < s.size) : s.data.toList.getD j 0 = s[j] := by
  have h' : j < s.data.toList.length := by rw [len_data]; exact h
  rw [List.getD, List.getElem?_eq_getElem h']; rfl

set_option maxHeartbeats 400000 in
theorem LastIdx_any (s : ByteArray) (c : UInt8) (w : World) (hs : s.size ≤ maxLen) :
    Calls Try.prog 68 #[.string s, .int .u8 (c.toNat : Int)] w fun e w' => e = .returned (.int .i64 (lastI s.data.toList c)) ∧ w' = w := by
  unfold maxLen at hs
  have HL : Hid (lastI s.data.toList c = lastN s.data.toList c s.size) := by show _ = _; unfold lastI; rw [len_data]
  go_enter Try.func68, Try.ntmps68
  go_wp2_with fail
  go_loop [5] (fun i => ∃ k : Nat, k ≤ s.size ∧ i = .int .i64 ((k : Int) - 1) ∧ Hid (lastN s.data.toList c s.size = lastN s.data.toList c k)) (fun i => (intOf i + 1).toNat)
  case atStart => exact ⟨s.size, Nat.le_refl _, rfl, rfl⟩
  case round =>
    obtain ⟨k, hk, rfl, HR⟩ := hrel
    cases k with
    | zero =>
      go_wp2_with fail
      go_ret
      exact ⟨ret_i (by rw [HL.out, HR.out]; rfl), rfl⟩
    | succ m =>
      have hm : m < s.size := by omega
      have hi : (((m + 1 : Nat) : Int) - 1) = (m : Int) := by omega
      rw [hi]
      clear hi
      have HX : Hid (lastN s.data.toList c (m + 1) = if s[m] = c then (m : Int) else lastN s.data.toList c m) := by show _ = _; rw [lastN, getD_at s m hm]
      by_cases hc : s[m] = c
      · have hb : ((s[m].toNat : Int) == (c.toNat : Int)) = true := by rw [hc]; simp
        have HY : Hid (lastN s.data.toList c (m + 1) = (m : Int)) := by show _ = _; rw [HX.out, if_pos hc]
        clear hc
        go_wp2_with fail
        go_ret
        exact ⟨ret_i (by rw [HL.out, HR.out, HY.out]), rfl⟩
      · have hb : ((s[m].toNat : Int) == (c.toNat : Int)) = false := by
          have : s[m].toNat ≠ c.toNat := fun e => hc (UInt8.toNat_inj.1 e)
          simp; omega
        have HY : Hid (lastN s.data.toList c (m + 1) = lastN s.data.toList c m) := by show _ = _; rw [HX.out, if_neg hc]
        clear hc
        go_wp2_with fail
        go_round
        case rel => exact ⟨m, by omega, by go_num, HR.out.trans HY.out⟩
        case measure => simp [intOf]

set_option maxHeartbeats 400000 in
theorem LastIdxS_any (s : ByteArray) (c : UInt8) (w : World) (hs : s.size ≤ maxLen) :
    Calls Try.prog 54 #[.string s, .int .u8 (c.toNat : Int)] w fun e w' => e = .returned (.int .i64 (lastI s.data.toList c)) ∧ w' = w := by
  go_enter Try.func54, Try.ntmps54
  go_wp2_with fail
  refine (LastIdx_any s c _ hs).mono ?_
  rintro e w' ⟨rfl, rfl⟩
  go_wp2_with fail
  go_ret
  exact ⟨rfl, rfl⟩

theorem lastN_lt (l : List UInt8) (c : UInt8) : ∀ n, -1 ≤ lastN l c n ∧ lastN l c n < n
  | 0 => by simp [lastN]
  | n + 1 => by
    have := lastN_lt l c n
    rw [lastN]
    split <;> omega

set_option maxHeartbeats 400000 in
theorem cutLast_any (s : ByteArray) (c : UInt8) (w : World) (hs : s.size ≤ maxLen) :
    Calls Try.prog 30 #[.string s, .int .u8 (c.toNat : Int)] w fun e w' => e = .returned (.tuple #[.string (ofL (cutU s.data.toList c)), .string (ofL (cutR s.data.toList c)), .bool (cutH s.data.toList c)]) ∧ Below w.heap.size w w' := by
  have hlt := lastN_lt s.data.toList c s.data.toList.length
  have hU : cutU s.data.toList c = if lastI s.data.toList c < 0 then s.data.toList else s.data.toList.take (lastI s.data.toList c).toNat := rfl
  have hR : cutR s.data.toList c = if lastI s.data.toList c < 0 then [] else s.data.toList.drop ((lastI s.data.toList c).toNat + 1) := rfl
  have hH : cutH s.data.toList c = decide (0 ≤ lastI s.data.toList c) := rfl
  have L := hide (LastIdxS_any s c w hs)
  change -1 ≤ lastI s.data.toList c ∧ lastI s.data.toList c < _ at hlt
  unfold maxLen at hs
  rw [len_data] at hlt
  generalize cutU s.data.toList c = U at *
  generalize cutR s.data.toList c = R at *
  generalize cutH s.data.toList c = H at *
  generalize lastI s.data.toList c = i at *
  by_cases h : i < 0
  · rw [if_pos h] at hU hR
    have hH' : H = false := by rw [hH]; simp; omega
    have HU := hide hU
    have HR := hide hR
    have HH := hide hH'
    clear hU hR hH hH'
    go_enter Try.func30, Try.ntmps30
    go_wp2_with fail
    refine L.out.mono ?_
    rintro e w' ⟨rfl, rfl⟩
    go_wp2_with fail
    go_ret3
    exact ⟨by rw [HU.out, HR.out, HH.out, ofL_self]; rfl, Below.refl _ _⟩
  · rw [if_neg h] at hU hR
    obtain ⟨k, rfl⟩ := Int.eq_ofNat_of_zero_le (show 0 ≤ i by omega)
    have hH' : H = true := by rw [hH]; simp
    have HU : Hid (ofL U = s.extract 0 k) := by show _ = _; rw [hU, extract_ofL]; simp
    have HR : Hid (ofL R = s.extract (k + 1) s.size) := by show _ = _; rw [hR, extract_end]; simp
    have HH := hide hH'
    have hk : (k : Int) < (s.size : Int) := hlt.2
    have h0 : (0 : Int) ≤ (k : Int) := by omega
    clear hU hR hH hH' h hlt
    go_enter Try.func30, Try.ntmps30
    go_wp2_with fail
    refine L.out.mono ?_
    rintro e w' ⟨rfl, rfl⟩
    go_wp2_with fail
    go_quiet (fail)
    go_wp2_with fail
    go_ret3
    exact ⟨by rw [HU.out, HR.out, HH.out]; rfl, below_drewN _ _ _⟩

set_option maxHeartbeats 400000 in
theorem isRevision_any (s : ByteArray) (w : World) (hs : s.size ≤ maxLen) :
    Calls Try.prog 31 #[.string s] w fun e w' => e = .returned (.bool (revB s.data.toList)) ∧ w' = w := by
  by_cases hp : 0 < s.size
  · have hb := eqE s hp
    have HE := hide (emp s hp)
    go_enter Try.func31, Try.ntmps31
    go_wp2_with fail
    refine (IndexByteS_any _ _ _).mono ?_
    rintro e w' ⟨rfl, rfl⟩
    go_wp2_with fail
    go_ret
    refine ⟨ret_b ?_, rfl⟩
    rw [revB, HE.out]
    rfl
  · have := size0 s hp
    subst this
    go_enter Try.func31, Try.ntmps31
    go_wp2_with fail
    go_ret
    exact ⟨rfl, rfl⟩


/-- An epoch by the digits ahead. -/
def epRB (l : List UInt8) : Bool := decide (0 < runL 1 l) && atB l (runL 1 l) 58
def epRE (l : List UInt8) : List UInt8 := if epRB l then trimL (l.take (runL 1 l)) else [48]
def epRS (l : List UInt8) : Nat := if epRB l then runL 1 l + 1 else 0
theorem hasC_cons (c : UInt8) (r : List UInt8) (h : c ≠ 58) : hasC (c :: r) = hasC r := by
  unfold hasC
  rw [Bool.eq_iff_iff, decide_eq_true_eq, decide_eq_true_eq, Lib.indexByte, if_neg (by simpa using h)]
  by_cases hi : (Lib.indexByte r 58 == -1) = true
  · rw [if_pos hi]
    have e : Lib.indexByte r 58 = -1 := by simpa using hi
    rw [e]
  · rw [if_neg hi]
    have hi' : ¬ Lib.indexByte r 58 = -1 := by simpa using hi
    have := Lib.indexByte_ge r 58
    exact ⟨fun _ => hi', fun _ => by omega⟩
theorem run_cut : ∀ l : List UInt8, (l[runL 1 l]? = some 58 ↔ hasC l = true ∧ runL 1 (cutC l) = (cutC l).length) ∧ (l[runL 1 l]? = some 58 → runL 1 l = (cutC l).length)
  | [] => ⟨⟨fun h => by simp at h, fun h => by have := h.1; revert this; decide⟩, fun h => by simp at h⟩
  | c :: r => by
    obtain ⟨i1, i2⟩ := run_cut r
    by_cases h58 : c = 58
    · subst h58
      have e0 : runL 1 (58 :: r) = 0 := by rw [runL, if_neg (by decide)]
      have ec : cutC (58 :: r) = [] := by simp [cutC]
      rw [e0, ec]
      exact ⟨⟨fun _ => ⟨by unfold hasC; rw [decide_eq_true_eq]; simp [Lib.indexByte], rfl⟩, fun _ => rfl⟩, fun _ => rfl⟩
    · have ec : cutC (c :: r) = c :: cutC r := by simp [cutC, h58]
      by_cases hd : isC (c.toNat : Int) 1 = true
      · have e1 : runL 1 (c :: r) = runL 1 r + 1 := by rw [runL, if_pos hd]
        have e2 : runL 1 (c :: cutC r) = runL 1 (cutC r) + 1 := by rw [runL, if_pos hd]
        rw [e1, ec, e2, List.getElem?_cons_succ, hasC_cons c r h58, List.length_cons]
        exact ⟨⟨fun h => ⟨(i1.1 h).1, by rw [(i1.1 h).2]⟩, fun h => i1.2 ⟨h.1, by omega⟩⟩, fun h => by rw [i2 h]⟩
      · have e1 : runL 1 (c :: r) = 0 := by rw [runL, if_neg hd]
        have e2 : runL 1 (c :: cutC r) = 0 := by rw [runL, if_neg hd]
        rw [e1, ec, e2]
        exact ⟨⟨fun h => by simp at h; exact absurd h h58, fun h => by have := h.2; simp at this⟩, fun h => by simp at h; exact absurd h h58⟩
theorem epR_B (l : List UInt8) : epRB l = epB l ∧ (epB l = true → runL 1 l = (cutC l).length) := by
  obtain ⟨h1, h2⟩ := run_cut l
  have key : epRB l = true ↔ epB l = true := by
    unfold epRB epB digB
    simp only [Bool.and_eq_true, decide_eq_true_eq, atB_iff, Bool.not_eq_true', beq_iff_eq]
    constructor
    · rintro ⟨a, b⟩
      have e := h2 b
      exact ⟨(h1.1 b).1, by cases hc : cutC l with | nil => rw [hc] at e; simp at e; omega | cons _ _ => rfl, (h1.1 b).2⟩
    · rintro ⟨a, b, c⟩
      have e := h1.2 ⟨a, c⟩
      refine ⟨?_, e⟩
      rw [h2 e]
      cases hc : cutC l with
      | nil => rw [hc] at b; simp at b
      | cons _ _ => simp
  refine ⟨Bool.eq_iff_iff.2 key, fun h => ?_⟩
  have := key.2 h
  unfold epRB at this
  simp only [Bool.and_eq_true, atB_iff] at this
  exact h2 this.2
theorem take_cut : ∀ l : List UInt8, l.take (cutC l).length = cutC l
  | [] => rfl
  | c :: r => by
    by_cases h : c = 58
    · subst h; simp [cutC]
    · have e : cutC (c :: r) = c :: cutC r := by simp [cutC, h]
      rw [e, List.length_cons, List.take_succ_cons, take_cut r]
theorem epR_E (l : List UInt8) : epRE l = epE l ∧ epRS l = epS l := by
  obtain ⟨h1, h2⟩ := epR_B l
  unfold epRE epRS epE epS
  rw [h1]
  cases h : epB l
  · exact ⟨rfl, rfl⟩
  · rw [if_pos rfl, if_pos rfl, if_pos rfl, if_pos rfl, h2 h, take_cut]
    exact ⟨rfl, rfl⟩
set_option maxHeartbeats 400000 in
theorem Epoch_any (s : ByteArray) (w : World) (hs : s.size ≤ 9223372036854775000) :
    Calls Try.prog 28 #[.string s] w fun e w' => e = .returned (.tuple #[.string (ofL (epRE s.data.toList)), .int .i64 (epRS s.data.toList : Int)]) ∧ w' = w := by
  have hrl := runL_le 1 s.data.toList
  rw [len_data] at hrl
  have R := fun w => Run_any s 0 1 w (by unfold maxLen; omega)
  have hrI : runI s.data.toList 0 1 = (runL 1 s.data.toList : Int) := by have := runI_in s 0 1 (Nat.zero_le _); simpa using this
  rw [hrI] at R
  have HA : Hid (∀ h : runL 1 s.data.toList < s.size, atB s.data.toList (runL 1 s.data.toList) 58 = decide ((s[runL 1 s.data.toList].toNat : Int) = 58)) := fun h => atB_in s _ 58 h
  have HO : Hid (¬ runL 1 s.data.toList < s.size → atB s.data.toList (runL 1 s.data.toList) 58 = false) := atB_out s _ 58
  have hE : epRE s.data.toList = if (decide (0 < runL 1 s.data.toList) && atB s.data.toList (runL 1 s.data.toList) 58) then trimL (s.data.toList.take (runL 1 s.data.toList)) else [48] := rfl
  have hS : epRS s.data.toList = if (decide (0 < runL 1 s.data.toList) && atB s.data.toList (runL 1 s.data.toList) 58) then runL 1 s.data.toList + 1 else 0 := rfl
  have HX : Hid (s.extract 0 (runL 1 s.data.toList) = ofL (s.data.toList.take (runL 1 s.data.toList))) := by show _ = _; rw [extract_ofL, List.drop_zero]
  have Tr := Trim_any (ofL (s.data.toList.take (runL 1 s.data.toList)))
  rw [ofL_data, ofL_size, List.length_take, len_data] at Tr
  have Tr := hide Tr
  have R := hide R
  generalize epRE s.data.toList = E at *
  generalize epRS s.data.toList = S at *
  clear hrI
  generalize atB s.data.toList (runL 1 s.data.toList) 58 = B at *
  generalize runL 1 s.data.toList = n at *
  by_cases h0 : n = 0
  · subst h0
    have HE : Hid (E = [48]) := by show _ = _; rw [hE]; rfl
    have HS : Hid (S = 0) := by show _ = _; rw [hS]; rfl
    clear hE hS HX Tr
    go_enter Try.func28, Try.ntmps28
    go_wp2_with fail
    refine (R.out _).mono ?_
    rintro e w' ⟨rfl, rfl⟩
    go_wp2_with fail
    go_ret2
    exact ⟨by rw [HE.out, HS.out]; rfl, rfl⟩
  · have hb0 : ((n : Int) == 0) = false := by simp; omega
    have hd0 : decide (0 < n) = true := by simp; omega
    rw [hd0, Bool.true_and] at hE hS
    clear hd0
    by_cases h1 : n < s.size
    · have hB := HA.out h1
      have hb1 : ((n : Int) == (s.size : Int)) = false := by simp; omega
      have hn0 : (0 : Int) ≤ (n : Int) := by omega
      have hn1 : (n : Int) < (s.size : Int) := by omega
      by_cases h2 : (s[n].toNat : Int) = 58
      · have hb2 : ((s[n].toNat : Int) != 58) = false := by simpa using h2
        have hBt : B = true := by rw [hB]; simpa using h2
        have HE : Hid (E = trimL (s.data.toList.take n)) := by show _ = _; rw [hE, hBt]; rfl
        have HS : Hid (S = n + 1) := by show _ = _; rw [hS, hBt]; rfl
        clear hE hS hB hBt h2 h0 HA HO
        go_enter Try.func28, Try.ntmps28
        go_wp2_with fail
        refine (R.out _).mono ?_
        rintro e w' ⟨rfl, rfl⟩
        go_wp2_with fail
        rw [HX.out]
        refine (Tr.out _ (by unfold maxLen; omega)).mono ?_
        rintro e w' ⟨rfl, rfl⟩
        go_wp2_with fail
        go_ret2
        exact ⟨by rw [HE.out, HS.out]; simp, rfl⟩
      · have hb2 : ((s[n].toNat : Int) != 58) = true := by simpa using h2
        have hBt : B = false := by rw [hB]; simpa using h2
        have HE : Hid (E = [48]) := by show _ = _; rw [hE, hBt]; rfl
        have HS : Hid (S = 0) := by show _ = _; rw [hS, hBt]; rfl
        clear hE hS hB hBt h2 h0 HA HO
        go_enter Try.func28, Try.ntmps28
        go_wp2_with fail
        refine (R.out _).mono ?_
        rintro e w' ⟨rfl, rfl⟩
        go_wp2_with fail
        go_ret2
        exact ⟨by rw [HE.out, HS.out]; rfl, rfl⟩
    · have hB := HO.out h1
      have hb1 : ((n : Int) == (s.size : Int)) = true := by simp; omega
      have HE : Hid (E = [48]) := by show _ = _; rw [hE, hB]; rfl
      have HS : Hid (S = 0) := by show _ = _; rw [hS, hB]; rfl
      clear hE hS hB h0 HA HO
      go_enter Try.func28, Try.ntmps28
      go_wp2_with fail
      refine (R.out _).mono ?_
      rintro e w' ⟨rfl, rfl⟩
      go_wp2_with fail
      go_ret2
      exact ⟨by rw [HE.out, HS.out]; rfl, rfl⟩


theorem readEpoch_any (s : ByteArray) (w : World) (hs : s.size ≤ 64) :
    Calls Try.prog 28 #[.string s] w fun e w' => e = .returned (.tuple #[.string (ofL (epE s.data.toList)), .int .i64 (epS s.data.toList : Int)]) ∧ Below w.heap.size w w' := by
  have h := Epoch_any s w (by omega)
  rw [(epR_E s.data.toList).1, (epR_E s.data.toList).2] at h
  refine h.mono ?_
  rintro e w' ⟨rfl, rfl⟩
  exact ⟨rfl, Below.refl _ _⟩

end Go.Proofs.Ythojcidbhojlhaa
