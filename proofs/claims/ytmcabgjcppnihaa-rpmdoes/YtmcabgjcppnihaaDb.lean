/-
  Walks: an epoch; the end of a version's bytes.
-/
import Derived.Test.YtmcabgjcppnihaaDa
namespace Go.Proofs.Ytmcabgjcppnihaa
open Go.RowKit Go.Shelf
set_option linter.unusedVariables false

theorem getD_at (s : ByteArray) (j : Nat) (h : j < s.size) : s.data.toList.getD j 0 = s[j] := by
  have h' : j < s.data.toList.length := by rw [len_data]; exact h
  rw [List.getD, List.getElem?_eq_getElem h']; rfl

set_option maxHeartbeats 400000 in
theorem Epoch_any (s : ByteArray) (w : World) (hs : s.size ≤ 9223372036854775000) :
    Calls Try.prog 21 #[.string s] w fun e w' => e = .returned (.tuple #[.string (ofL (epE s.data.toList)), .int .i64 (epS s.data.toList : Int)]) ∧ w' = w := by
  have hrl := runL_le 1 s.data.toList
  rw [len_data] at hrl
  have R := fun w => Run_any s 0 1 w (by unfold maxLen; omega)
  have hrI : runI s.data.toList 0 1 = (runL 1 s.data.toList : Int) := by have := runI_in s 0 1 (Nat.zero_le _); simpa using this
  rw [hrI] at R
  have HA : Hid (∀ h : runL 1 s.data.toList < s.size, atB s.data.toList (runL 1 s.data.toList) 58 = decide ((s[runL 1 s.data.toList].toNat : Int) = 58)) := fun h => atB_in s _ 58 h
  have HO : Hid (¬ runL 1 s.data.toList < s.size → atB s.data.toList (runL 1 s.data.toList) 58 = false) := atB_out s _ 58
  have hE : epE s.data.toList = if (decide (0 < runL 1 s.data.toList) && atB s.data.toList (runL 1 s.data.toList) 58) then trimL (s.data.toList.take (runL 1 s.data.toList)) else [48] := rfl
  have hS : epS s.data.toList = if (decide (0 < runL 1 s.data.toList) && atB s.data.toList (runL 1 s.data.toList) 58) then runL 1 s.data.toList + 1 else 0 := rfl
  have HX : Hid (s.extract 0 (runL 1 s.data.toList) = ofL (s.data.toList.take (runL 1 s.data.toList))) := by show _ = _; rw [extract_ofL, List.drop_zero]
  have Tr := Trim_any (ofL (s.data.toList.take (runL 1 s.data.toList)))
  rw [ofL_data, ofL_size, List.length_take, len_data] at Tr
  have Tr := hide Tr
  have R := hide R
  generalize epE s.data.toList = E at *
  generalize epS s.data.toList = S at *
  clear hrI
  generalize atB s.data.toList (runL 1 s.data.toList) 58 = B at *
  generalize runL 1 s.data.toList = n at *
  by_cases h0 : n = 0
  · subst h0
    have HE : Hid (E = [48]) := by show _ = _; rw [hE]; rfl
    have HS : Hid (S = 0) := by show _ = _; rw [hS]; rfl
    clear hE hS HX Tr
    go_enter Try.func21, Try.ntmps21
    go_wp2_with fail
    refine (R.out _).mono ?_
    rintro e w' ⟨rfl, rfl⟩
    go_wp2_with fail
    go_ret2
    exact ⟨by rw [HE.out, HS.out]; rfl, rfl⟩
  · have hb0 : ((n : Int) == 0) = false := by simp; omega
    have hd0 : decide (0 < n) = true := by simp; omega
    rw [hd0, Bool.true_and] at hE hS
    clear hd0
    by_cases h1 : n < s.size
    · have hB := HA.out h1
      have hb1 : ((n : Int) == (s.size : Int)) = false := by simp; omega
      have hn0 : (0 : Int) ≤ (n : Int) := by omega
      have hn1 : (n : Int) < (s.size : Int) := by omega
      by_cases h2 : (s[n].toNat : Int) = 58
      · have hb2 : ((s[n].toNat : Int) != 58) = false := by simpa using h2
        have hBt : B = true := by rw [hB]; simpa using h2
        have HE : Hid (E = trimL (s.data.toList.take n)) := by show _ = _; rw [hE, hBt]; rfl
        have HS : Hid (S = n + 1) := by show _ = _; rw [hS, hBt]; rfl
        clear hE hS hB hBt h2 h0 HA HO
        go_enter Try.func21, Try.ntmps21
        go_wp2_with fail
        refine (R.out _).mono ?_
        rintro e w' ⟨rfl, rfl⟩
        go_wp2_with fail
        rw [HX.out]
        refine (Tr.out _ (by unfold maxLen; omega)).mono ?_
        rintro e w' ⟨rfl, rfl⟩
        go_wp2_with fail
        go_ret2
        exact ⟨by rw [HE.out, HS.out]; simp, rfl⟩
      · have hb2 : ((s[n].toNat : Int) != 58) = true := by simpa using h2
        have hBt : B = false := by rw [hB]; simpa using h2
        have HE : Hid (E = [48]) := by show _ = _; rw [hE, hBt]; rfl
        have HS : Hid (S = 0) := by show _ = _; rw [hS, hBt]; rfl
        clear hE hS hB hBt h2 h0 HA HO
        go_enter Try.func21, Try.ntmps21
        go_wp2_with fail
        refine (R.out _).mono ?_
        rintro e w' ⟨rfl, rfl⟩
        go_wp2_with fail
        go_ret2
        exact ⟨by rw [HE.out, HS.out]; rfl, rfl⟩
    · have hB := HO.out h1
      have hb1 : ((n : Int) == (s.size : Int)) = true := by simp; omega
      have HE : Hid (E = [48]) := by show _ = _; rw [hE, hB]; rfl
      have HS : Hid (S = 0) := by show _ = _; rw [hS, hB]; rfl
      clear hE hS hB h0 HA HO
      go_enter Try.func21, Try.ntmps21
      go_wp2_with fail
      refine (R.out _).mono ?_
      rintro e w' ⟨rfl, rfl⟩
      go_wp2_with fail
      go_ret2
      exact ⟨by rw [HE.out, HS.out]; rfl, rfl⟩

theorem twV_hit (s : ByteArray) (i : Nat) (h : i < s.size) (hc : okV s[i] = true) : twV (s.data.toList.drop i) = twV (s.data.toList.drop (i + 1)) + 1 := by
  rw [drop_at s i h]; simp [twV, hc]
theorem twV_miss (s : ByteArray) (i : Nat) (h : i < s.size) (hc : okV s[i] = false) : twV (s.data.toList.drop i) = 0 := by
  rw [drop_at s i h]; simp [twV, hc]
theorem twV_end (s : ByteArray) (i : Nat) (h : s.size ≤ i) : twV (s.data.toList.drop i) = 0 := by
  rw [drop_end s i h]; simp [twV]
theorem idx5 (c : UInt8) : (Lib.indexByte [46, 95, 43, 126, 94] c < 0) ↔ (c == 46 || c == 95 || c == 43 || c == 126 || c == 94) = false := by
  simp only [Lib.indexByte]
  by_cases h1 : c = 46
  · subst h1; decide
  by_cases h2 : c = 95
  · subst h2; decide
  by_cases h3 : c = 43
  · subst h3; decide
  by_cases h4 : c = 126
  · subst h4; decide
  by_cases h5 : c = 94
  · subst h5; decide
  simp [h1, h2, h3, h4, h5, Ne.symm h1, Ne.symm h2, Ne.symm h3, Ne.symm h4, Ne.symm h5]
theorem ofByte (c : UInt8) : ((c.toNat : Int)).toNat.toUInt8 = c := by simp

set_option maxHeartbeats 1000000 in
theorem partEnd_any (s : ByteArray) (a : Nat) (w : World) (hs : s.size ≤ 9223372036854775000) (ha : a ≤ s.size) :
    Calls Try.prog 22 #[.string s, .int .i64 (a : Int)] w fun e w' => e = .returned (.int .i64 (endR s.data.toList a : Int)) ∧ w' = w := by
  have HW : Hid (endR s.data.toList a = a + twV (s.data.toList.drop a)) := rfl
  go_enter Try.func22, Try.ntmps22
  go_wp2_with fail
  go_loop [1] (fun i => ∃ j : Nat, j ≤ s.size ∧ i = .int .i64 j ∧ Hid (a + twV (s.data.toList.drop a) = j + twV (s.data.toList.drop j))) (fun i => s.size - (intOf i).toNat)
  case atStart => exact ⟨a, ha, rfl, rfl⟩
  case round =>
    obtain ⟨j, hjs, rfl, HR⟩ := hrel
    by_cases hlt : j < s.size
    · have hlt' : (j : Int) < (s.size : Int) := by omega
      have IX := idx5 s[j]
      by_cases h5 : isC (s[j].toNat : Int) 5 = true
      · have H1 : Hid _ := twV_hit s j hlt (by unfold okV; rw [h5]; rfl)
        clear IX
        go_wp2_with fail
        refine (Is_any _ _ _).mono ?_
        rintro e w' ⟨rfl, rfl⟩
        go_wp2_with fail
        go_round
        case rel => exact ⟨j + 1, by omega, by go_num, by have a := HR.out; have b := H1.out; show _ = _; omega⟩
        case measure => simp [intOf]; omega
      · have h5' : isC (s[j].toNat : Int) 5 = false := by simpa using h5
        clear h5
        have C := IndexByteS_any (ofL [46, 95, 43, 126, 94]) (s[j].toNat : Int)
        rw [ofL_data, ofByte] at C
        have HC := hide (show ∀ w, _ from C)
        clear C
        by_cases hm : Lib.indexByte [46, 95, 43, 126, 94] s[j] < 0
        · have H1 : Hid _ := twV_miss s j hlt (by unfold okV; rw [h5', IX.1 hm]; rfl)
          clear IX
          generalize Lib.indexByte [46, 95, 43, 126, 94] s[j] = I at *
          go_wp2_with fail
          refine (Is_any _ _ _).mono ?_
          rintro e w' ⟨rfl, rfl⟩
          go_wp2_with fail
          refine (HC.out _).mono ?_
          rintro e w' ⟨rfl, rfl⟩
          go_wp2_with fail
          go_ret
          exact ⟨ret_i (by have a := HR.out; have b := H1.out; rw [HW.out]; omega), rfl⟩
        · have H1 : Hid _ := twV_hit s j hlt (by
            unfold okV
            cases hx : (s[j] == 46 || s[j] == 95 || s[j] == 43 || s[j] == 126 || s[j] == 94)
            · exact absurd (IX.2 hx) hm
            · rw [Bool.or_true])
          clear IX
          generalize Lib.indexByte [46, 95, 43, 126, 94] s[j] = I at *
          go_wp2_with fail
          refine (Is_any _ _ _).mono ?_
          rintro e w' ⟨rfl, rfl⟩
          go_wp2_with fail
          refine (HC.out _).mono ?_
          rintro e w' ⟨rfl, rfl⟩
          go_wp2_with fail
          go_round
          case rel => exact ⟨j + 1, by omega, by go_num, by have a := HR.out; have b := H1.out; show _ = _; omega⟩
          case measure => simp [intOf]; omega
    · have H1 : Hid _ := twV_end s j (by omega)
      have hlt' : ¬ (j : Int) < (s.size : Int) := by omega
      go_wp2_with fail
      go_ret
      exact ⟨ret_i (by have a := HR.out; have b := H1.out; rw [HW.out]; omega), rfl⟩

end Go.Proofs.Ytmcabgjcppnihaa
