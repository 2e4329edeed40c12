/-
  Walks: classes of bytes, the first wrong place, a token's end.
-/
import Derived.Test.YtpedljmpobhimaaGreatDoorPl
import Derived.WalkSmall
namespace Go.Proofs.YtpedljmpobhimaaGreatDoor
open Go.RowKit Go.Shelf
set_option linter.unusedVariables false

theorem u8_beq (c : UInt8) (k : UInt8) : ((c.toNat : Int) == (k.toNat : Int)) = (c == k) := by
  by_cases h : c = k
  · subst h; simp
  · have : c.toNat ≠ k.toNat := fun e => h (UInt8.toNat_inj.1 e)
    rw [beq_eq_false_iff_ne.2 h, beq_eq_false_iff_ne]
    omega

set_option maxHeartbeats 400000 in
theorem isWord_any (c : UInt8) (w : World) :
    Calls Tryz.prog 93 #[.int .u8 (c.toNat : Int)] w fun e w' => e = .returned (.bool (wordB c)) ∧ w' = w := by
  have HW : Hid (wordB c = (isC (c.toNat : Int) 4 || ((c.toNat : Int) == 95) || ((c.toNat : Int) == 43))) := by
    show _ = _
    rw [show (95 : Int) = ((95 : UInt8).toNat : Int) from rfl, show (43 : Int) = ((43 : UInt8).toNat : Int) from rfl, u8_beq, u8_beq]
    rfl
  generalize wordB c = R at *
  cases h4 : isC (c.toNat : Int) 4
  · cases h5 : ((c.toNat : Int) == 95)
    · cases h6 : ((c.toNat : Int) == 43)
      · go_enter Tryz.func93, Tryz.ntmps93
        go_wp2_with fail
        refine (Is_any _ _ _).mono ?_
        rintro e w' ⟨rfl, rfl⟩
        go_wp2_with fail
        go_ret
        exact ⟨by rw [HW.out, h4, h5, h6]; rfl, rfl⟩
      · go_enter Tryz.func93, Tryz.ntmps93
        go_wp2_with fail
        refine (Is_any _ _ _).mono ?_
        rintro e w' ⟨rfl, rfl⟩
        go_wp2_with fail
        go_ret
        exact ⟨by rw [HW.out, h4, h5, h6]; rfl, rfl⟩
    · go_enter Tryz.func93, Tryz.ntmps93
      go_wp2_with fail
      refine (Is_any _ _ _).mono ?_
      rintro e w' ⟨rfl, rfl⟩
      go_wp2_with fail
      go_ret
      exact ⟨by rw [HW.out, h4, h5]; rfl, rfl⟩
  · go_enter Tryz.func93, Tryz.ntmps93
    go_wp2_with fail
    refine (Is_any _ _ _).mono ?_
    rintro e w' ⟨rfl, rfl⟩
    go_wp2_with fail
    go_ret
    exact ⟨by rw [HW.out, h4]; rfl, rfl⟩

set_option maxHeartbeats 400000 in
theorem isMark_any (c : UInt8) (w : World) :
    Calls Tryz.prog 94 #[.int .u8 (c.toNat : Int)] w fun e w' => e = .returned (.bool (markB c)) ∧ w' = w := by
  have HW : Hid (markB c = (((c.toNat : Int) == 46) || ((c.toNat : Int) == 45))) := by
    show _ = _
    rw [show (46 : Int) = ((46 : UInt8).toNat : Int) from rfl, show (45 : Int) = ((45 : UInt8).toNat : Int) from rfl, u8_beq, u8_beq]
    rfl
  generalize markB c = R at *
  cases h5 : ((c.toNat : Int) == 46)
  · cases h6 : ((c.toNat : Int) == 45)
    · go_enter Tryz.func94, Tryz.ntmps94
      go_wp2_with fail
      go_ret
      exact ⟨by rw [HW.out, h5, h6]; rfl, rfl⟩
    · go_enter Tryz.func94, Tryz.ntmps94
      go_wp2_with fail
      go_ret
      exact ⟨by rw [HW.out, h5, h6]; rfl, rfl⟩
  · go_enter Tryz.func94, Tryz.ntmps94
    go_wp2_with fail
    go_ret
    exact ⟨by rw [HW.out, h5]; rfl, rfl⟩

theorem okN_hit (s : ByteArray) (i : Nat) (h : i < s.size) (hc : okM s[i] = true) : okN (s.data.toList.drop i) = okN (s.data.toList.drop (i + 1)) + 1 := by
  rw [drop_at s i h]; simp [okN, hc]
theorem okN_miss (s : ByteArray) (i : Nat) (h : i < s.size) (hc : okM s[i] = false) : okN (s.data.toList.drop i) = 0 := by
  rw [drop_at s i h]; simp [okN, hc]
theorem okN_end (s : ByteArray) (i : Nat) (h : s.size ≤ i) : okN (s.data.toList.drop i) = 0 := by
  rw [drop_end s i h]; simp [okN]
theorem wdN_hit (s : ByteArray) (i : Nat) (h : i < s.size) (hc : wordB s[i] = true) : wdN (s.data.toList.drop i) = wdN (s.data.toList.drop (i + 1)) + 1 := by
  rw [drop_at s i h]; simp [wdN, hc]
theorem wdN_miss (s : ByteArray) (i : Nat) (h : i < s.size) (hc : wordB s[i] = false) : wdN (s.data.toList.drop i) = 0 := by
  rw [drop_at s i h]; simp [wdN, hc]
theorem wdN_end (s : ByteArray) (i : Nat) (h : s.size ≤ i) : wdN (s.data.toList.drop i) = 0 := by
  rw [drop_end s i h]; simp [wdN]

set_option maxHeartbeats 1000000 in
theorem wrongAt_any (s : ByteArray) (w : World) (hs : s.size ≤ 64) :
    Calls Tryz.prog 78 #[.string s] w fun e w' => e = .returned (.int .i64 (okN s.data.toList : Int)) ∧ w' = w := by
  go_enter Tryz.func78, Tryz.ntmps78
  go_wp2_with fail
  go_loop [3] (fun i => ∃ j : Nat, j ≤ s.size ∧ i = .int .i64 j ∧ Hid (okN s.data.toList = j + okN (s.data.toList.drop j))) (fun i => s.size - (intOf i).toNat)
  case atStart => exact ⟨0, by omega, rfl, by show _ = _; rw [List.drop_zero]; omega⟩
  case round =>
    obtain ⟨j, hjs, rfl, HR⟩ := hrel
    by_cases hlt : j < s.size
    · have hlt' : (j : Int) < (s.size : Int) := by omega
      have HH := hide (okN_hit s j hlt)
      have HM := hide (okN_miss s j hlt)
      have HO : Hid (okM s[j] = (isC (s[j].toNat : Int) 1 || wordB s[j] || markB s[j])) := rfl
      cases h1 : isC (s[j].toNat : Int) 1
      · cases h2 : wordB s[j]
        · cases h3 : markB s[j]
          · have HX := hide (HM.out (by rw [HO.out, h1, h2, h3]; rfl))
            clear HH HM HO
            go_wp2_with fail
            refine (Is_any _ _ _).mono ?_
            rintro e w' ⟨rfl, rfl⟩
            go_wp2_with fail
            refine (isWord_any _ _).mono ?_
            rintro e w' ⟨rfl, rfl⟩
            go_wp2_with fail
            refine (isMark_any _ _).mono ?_
            rintro e w' ⟨rfl, rfl⟩
            go_wp2_with fail
            go_ret
            exact ⟨ret_i (by rw [HR.out, HX.out]; omega), rfl⟩
          · have HX := hide (HH.out (by rw [HO.out, h1, h2, h3]; rfl))
            clear HH HM HO
            go_wp2_with fail
            refine (Is_any _ _ _).mono ?_
            rintro e w' ⟨rfl, rfl⟩
            go_wp2_with fail
            refine (isWord_any _ _).mono ?_
            rintro e w' ⟨rfl, rfl⟩
            go_wp2_with fail
            refine (isMark_any _ _).mono ?_
            rintro e w' ⟨rfl, rfl⟩
            go_wp2_with fail
            go_round
            case rel => exact ⟨j + 1, by omega, by go_num, by have a := HR.out; have b := HX.out; show _ = _; omega⟩
            case measure => simp [intOf]; omega
        · have HX := hide (HH.out (by rw [HO.out, h1, h2]; rfl))
          clear HH HM HO
          go_wp2_with fail
          refine (Is_any _ _ _).mono ?_
          rintro e w' ⟨rfl, rfl⟩
          go_wp2_with fail
          refine (isWord_any _ _).mono ?_
          rintro e w' ⟨rfl, rfl⟩
          go_wp2_with fail
          go_round
          case rel => exact ⟨j + 1, by omega, by go_num, by have a := HR.out; have b := HX.out; show _ = _; omega⟩
          case measure => simp [intOf]; omega
      · have HX := hide (HH.out (by rw [HO.out, h1]; rfl))
        clear HH HM HO
        go_wp2_with fail
        refine (Is_any _ _ _).mono ?_
        rintro e w' ⟨rfl, rfl⟩
        go_wp2_with fail
        go_round
        case rel => exact ⟨j + 1, by omega, by go_num, by have a := HR.out; have b := HX.out; show _ = _; omega⟩
        case measure => simp [intOf]; omega
    · have hlt' : ¬ (j : Int) < (s.size : Int) := by omega
      have HX := hide (okN_end s j (by omega))
      go_wp2_with fail
      go_ret
      exact ⟨ret_i (by rw [HR.out, HX.out]; omega), rfl⟩

theorem wdN_le (l : List UInt8) : wdN l ≤ l.length := (List.takeWhile_sublist _).length_le
theorem tkN_le (l : List UInt8) : tkN l ≤ l.length := by
  unfold tkN
  split
  · exact runL_le 1 l
  · exact wdN_le l

set_option maxHeartbeats 1000000 in
theorem tokenEnd_any (s : ByteArray) (a : Nat) (w : World) (hs : s.size ≤ maxLen) (ha : a ≤ s.size) :
    Calls Tryz.prog 96 #[.string s, .int .i64 (a : Int)] w fun e w' => e = .returned (.int .i64 ((a + tkN (s.data.toList.drop a) : Nat) : Int)) ∧ w' = w := by
  unfold maxLen at hs
  have C := fun w => Run_any s (a : Int) 1 w (by unfold maxLen; omega)
  rw [runI_in s a 1 ha] at C
  have C := hide C
  have hle := runL_drop_le 1 s a ha
  by_cases h0 : 0 < runL 1 (s.data.toList.drop a)
  · have HT : Hid (tkN (s.data.toList.drop a) = runL 1 (s.data.toList.drop a)) := by show _ = _; unfold tkN; rw [if_pos h0]
    generalize runL 1 (s.data.toList.drop a) = r at *
    have hg : decide ((a : Int) < (a : Int) + (r : Int)) = true := by simp; omega
    go_enter Tryz.func96, Tryz.ntmps96
    go_wp2_with fail
    refine (C.out _).mono ?_
    rintro e w' ⟨rfl, rfl⟩
    go_wp2_with fail
    go_ret
    exact ⟨ret_i (by rw [HT.out]; omega), rfl⟩
  · have HT : Hid (tkN (s.data.toList.drop a) = wdN (s.data.toList.drop a)) := by show _ = _; unfold tkN; rw [if_neg h0]
    generalize runL 1 (s.data.toList.drop a) = r at *
    obtain rfl : r = 0 := by omega
    have e0 : (a : Int) + ((0 : Nat) : Int) = (a : Int) := by simp
    rw [e0] at C
    clear e0
    go_enter Tryz.func96, Tryz.ntmps96
    go_wp2_with fail
    refine (C.out _).mono ?_
    rintro e w' ⟨rfl, rfl⟩
    go_wp2_with fail
    go_loop [1] (fun i => ∃ j : Nat, j ≤ s.size ∧ i = .int .i64 j ∧ Hid (a + wdN (s.data.toList.drop a) = j + wdN (s.data.toList.drop j))) (fun i => s.size - (intOf i).toNat)
    case atStart => exact ⟨a, ha, rfl, rfl⟩
    case round =>
      obtain ⟨j, hjs, rfl, HR⟩ := hrel
      by_cases hlt : j < s.size
      · have hlt' : (j : Int) < (s.size : Int) := by omega
        have HH := hide (wdN_hit s j hlt)
        have HM := hide (wdN_miss s j hlt)
        cases h2 : wordB s[j]
        · have HX := hide (HM.out h2)
          clear HH HM
          go_wp2_with fail
          refine (isWord_any _ _).mono ?_
          rintro e w' ⟨rfl, rfl⟩
          go_wp2_with fail
          go_ret
          exact ⟨ret_i (by rw [HT.out]; have a := HR.out; have b := HX.out; omega), rfl⟩
        · have HX := hide (HH.out h2)
          clear HH HM
          go_wp2_with fail
          refine (isWord_any _ _).mono ?_
          rintro e w' ⟨rfl, rfl⟩
          go_wp2_with fail
          go_round
          case rel => exact ⟨j + 1, by omega, by go_num, by have a := HR.out; have b := HX.out; show _ = _; omega⟩
          case measure => simp [intOf]; omega
      · have hlt' : ¬ (j : Int) < (s.size : Int) := by omega
        have HX := hide (wdN_end s j (by omega))
        go_wp2_with fail
        go_ret
        exact ⟨ret_i (by rw [HT.out]; have a := HR.out; have b := HX.out; omega), rfl⟩

end Go.Proofs.YtpedljmpobhimaaGreatDoor
