/-
  Walks: the first wrong place of a text.
-/
import Derived.Test.YthojcidbhojlhaaDb
namespace Go.Proofs.Ythojcidbhojlhaa
open Go.RowKit Go.Shelf
set_option linter.unusedVariables false

/-- How many bytes of a version a list begins with. -/
def twL (b : Bool) (l : List UInt8) : Nat := (l.takeWhile (okB b)).length
theorem twL_hit (b : Bool) (s : ByteArray) (i : Nat) (h : i < s.size) (hc : okB b s[i] = true) : twL b (s.data.toList.drop i) = twL b (s.data.toList.drop (i + 1)) + 1 := by
  rw [drop_at s i h]; simp [twL, hc]
theorem twL_miss (b : Bool) (s : ByteArray) (i : Nat) (h : i < s.size) (hc : okB b s[i] = false) : twL b (s.data.toList.drop i) = 0 := by
  rw [drop_at s i h]; simp [twL, hc]
theorem twL_end (b : Bool) (s : ByteArray) (i : Nat) (h : s.size ≤ i) : twL b (s.data.toList.drop i) = 0 := by
  rw [drop_end s i h]; simp [twL]
theorem idx4 (c : UInt8) : (Lib.indexByte [46, 43, 126, 45] c < 0) ↔ (c == 46 || c == 43 || c == 126 || c == 45 || (false && c == 58)) = false := by
  simp only [Lib.indexByte]
  by_cases h1 : c = 46
  · subst h1; decide
  by_cases h2 : c = 43
  · subst h2; decide
  by_cases h3 : c = 126
  · subst h3; decide
  by_cases h4 : c = 45
  · subst h4; decide
  simp [h1, h2, h3, h4, Ne.symm h1, Ne.symm h2, Ne.symm h3, Ne.symm h4]
theorem idx5 (c : UInt8) : (Lib.indexByte [46, 43, 126, 45, 58] c < 0) ↔ (c == 46 || c == 43 || c == 126 || c == 45 || (true && c == 58)) = false := by
  simp only [Lib.indexByte]
  by_cases h1 : c = 46
  · subst h1; decide
  by_cases h2 : c = 43
  · subst h2; decide
  by_cases h3 : c = 126
  · subst h3; decide
  by_cases h4 : c = 45
  · subst h4; decide
  by_cases h5 : c = 58
  · subst h5; decide
  simp [h1, h2, h3, h4, h5, Ne.symm h1, Ne.symm h2, Ne.symm h3, Ne.symm h4, Ne.symm h5]
theorem ofByte (c : UInt8) : ((c.toNat : Int)).toNat.toUInt8 = c := by simp

set_option maxHeartbeats 1000000 in
theorem wrongAt_0 (s : ByteArray) (w : World) (hs : s.size ≤ 64) (hst : 0 ≤ s.size) :
    Calls Try.prog 29 #[.string s, .int .i64 ((0 : Nat) : Int)] w fun e w' => e = .returned (.int .i64 (wrongR s.data.toList 0 : Int)) ∧ w' = w := by
  by_cases hd : 0 < s.size ∧ isC (((s.data.toList.getD 0 0).toNat : Int)) 1 = false
  · have HW : Hid (wrongR s.data.toList 0 = 0) := by show _ = _; unfold wrongR; rw [if_pos (by rw [len_data]; exact hd)]
    obtain ⟨hd1, hd2⟩ := hd
    rw [getD_at s _ hd1] at hd2
    have hd1' : ((0 : Nat) : Int) < (s.size : Int) := by omega
    go_enter Try.func29, Try.ntmps29
    go_wp2_with fail
    refine (Is_any _ _ _).mono ?_
    rintro e w' ⟨rfl, rfl⟩
    go_wp2_with fail
    go_ret
    exact ⟨ret_i (by rw [HW.out]; first | rfl | omega), rfl⟩
  · have HW : Hid (wrongR s.data.toList 0 = 0 + twL false (s.data.toList.drop 0)) := by show _ = _; unfold wrongR twL; rw [if_neg (by rw [len_data]; exact hd)]; rfl
    have HD : Hid (∀ h : 0 < s.size, isC (s[0].toNat : Int) 1 = true) := fun h => by
      rw [getD_at s _ h] at hd
      cases hx : isC (s[0].toNat : Int) 1
      · exact absurd ⟨h, hx⟩ hd
      · rfl
    clear hd
    by_cases h0 : 0 < s.size
    · have hd1 := HD.out h0
      have h0' : ((0 : Nat) : Int) < (s.size : Int) := by omega
      go_enter Try.func29, Try.ntmps29
      go_wp2_with fail
      refine (Is_any _ _ _).mono ?_
      rintro e w' ⟨rfl, rfl⟩
      go_wp2_with fail
      go_loop [6] (fun i => ∃ j : Nat, 0 ≤ j ∧ j ≤ s.size ∧ i = .int .i64 j ∧ Hid (0 + twL false (s.data.toList.drop 0) = j + twL false (s.data.toList.drop j))) (fun i => s.size - (intOf i).toNat)
      case atStart => exact ⟨0, Nat.le_refl _, by omega, by first | rfl | go_num, rfl⟩
      case round =>
        obtain ⟨j, hj, hjs, rfl, HR⟩ := hrel
        by_cases hlt : j < s.size
        · have hlt' : (j : Int) < (s.size : Int) := by omega
          have IX := idx4 s[j]
          by_cases h5 : isC (s[j].toNat : Int) 5 = true
          · have H1 : Hid _ := twL_hit false s j hlt (by unfold okB; rw [h5]; rfl)
            clear IX
            go_wp2_with fail
            refine (Is_any _ _ _).mono ?_
            rintro e w' ⟨rfl, rfl⟩
            go_wp2_with fail
            go_round
            case rel => exact ⟨j + 1, by omega, by omega, by go_num, by have a := HR.out; have b := H1.out; show _ = _; omega⟩
            case measure => simp [intOf]; omega
          · have h5' : isC (s[j].toNat : Int) 5 = false := by simpa using h5
            clear h5
            have C := IndexByteS_any (ofL [46, 43, 126, 45]) (s[j].toNat : Int)
            rw [ofL_data, ofByte] at C
            have HC := hide (show ∀ w, _ from C)
            clear C
            by_cases hm : Lib.indexByte [46, 43, 126, 45] s[j] < 0
            · have H1 : Hid _ := twL_miss false s j hlt (by unfold okB; rw [h5', IX.1 hm]; rfl)
              clear IX
              generalize Lib.indexByte [46, 43, 126, 45] s[j] = I at *
              go_wp2_with fail
              refine (Is_any _ _ _).mono ?_
              rintro e w' ⟨rfl, rfl⟩
              go_wp2_with fail
              refine (HC.out _).mono ?_
              rintro e w' ⟨rfl, rfl⟩
              go_wp2_with fail
              go_ret
              exact ⟨ret_i (by have a := HR.out; have b := H1.out; rw [HW.out]; omega), rfl⟩
            · have H1 : Hid _ := twL_hit false s j hlt (by
                unfold okB
                cases hx : (s[j] == 46 || s[j] == 43 || s[j] == 126 || s[j] == 45 || (false && s[j] == 58))
                · exact absurd (IX.2 hx) hm
                · rw [Bool.or_true])
              clear IX
              generalize Lib.indexByte [46, 43, 126, 45] s[j] = I at *
              go_wp2_with fail
              refine (Is_any _ _ _).mono ?_
              rintro e w' ⟨rfl, rfl⟩
              go_wp2_with fail
              refine (HC.out _).mono ?_
              rintro e w' ⟨rfl, rfl⟩
              go_wp2_with fail
              go_round
              case rel => exact ⟨j + 1, by omega, by omega, by go_num, by have a := HR.out; have b := H1.out; show _ = _; omega⟩
              case measure => simp [intOf]; omega
        · have H1 : Hid _ := twL_end false s j (by omega)
          have hlt' : ¬ (j : Int) < (s.size : Int) := by omega
          go_wp2_with fail
          go_ret
          exact ⟨ret_i (by have a := HR.out; have b := H1.out; rw [HW.out]; omega), rfl⟩
    · have h0' : ¬ ((0 : Nat) : Int) < (s.size : Int) := by omega
      have H1 : Hid _ := twL_end false s (0) (by omega)
      go_enter Try.func29, Try.ntmps29
      go_wp2_with fail
      go_loop [6] (fun i => i = .int .i64 ((0 : Nat) : Int)) (fun i => 0)
      case atStart => first | rfl | go_num
      case round =>
        obtain rfl := hrel
        go_wp2_with fail
        go_ret
        exact ⟨ret_i (by have b := H1.out; rw [HW.out]; omega), rfl⟩

set_option maxHeartbeats 1000000 in
theorem wrongAt_s (s : ByteArray) (k : Nat) (w : World) (hs : s.size ≤ 64) (hst : (k + 1) ≤ s.size) :
    Calls Try.prog 29 #[.string s, .int .i64 (((k + 1) : Nat) : Int)] w fun e w' => e = .returned (.int .i64 (wrongR s.data.toList (k + 1) : Int)) ∧ w' = w := by
  have hk0 : ((0 : Int) < (((k + 1 : Nat)) : Int)) := by omega
  by_cases hd : (k + 1) < s.size ∧ isC (((s.data.toList.getD (k + 1) 0).toNat : Int)) 1 = false
  · have HW : Hid (wrongR s.data.toList (k + 1) = (k + 1)) := by show _ = _; unfold wrongR; rw [if_pos (by rw [len_data]; exact hd)]
    obtain ⟨hd1, hd2⟩ := hd
    rw [getD_at s _ hd1] at hd2
    have hd1' : (((k + 1) : Nat) : Int) < (s.size : Int) := by omega
    go_enter Try.func29, Try.ntmps29
    go_wp2_with fail
    refine (Is_any _ _ _).mono ?_
    rintro e w' ⟨rfl, rfl⟩
    go_wp2_with fail
    go_ret
    exact ⟨ret_i (by rw [HW.out]; first | rfl | omega), rfl⟩
  · have HW : Hid (wrongR s.data.toList (k + 1) = (k + 1) + twL true (s.data.toList.drop (k + 1))) := by show _ = _; unfold wrongR twL; rw [if_neg (by rw [len_data]; exact hd)]; rfl
    have HD : Hid (∀ h : (k + 1) < s.size, isC (s[(k + 1)].toNat : Int) 1 = true) := fun h => by
      rw [getD_at s _ h] at hd
      cases hx : isC (s[(k + 1)].toNat : Int) 1
      · exact absurd ⟨h, hx⟩ hd
      · rfl
    clear hd
    by_cases h0 : (k + 1) < s.size
    · have hd1 := HD.out h0
      have h0' : (((k + 1) : Nat) : Int) < (s.size : Int) := by omega
      go_enter Try.func29, Try.ntmps29
      go_wp2_with fail
      refine (Is_any _ _ _).mono ?_
      rintro e w' ⟨rfl, rfl⟩
      go_wp2_with fail
      go_loop [6] (fun i => ∃ j : Nat, (k + 1) ≤ j ∧ j ≤ s.size ∧ i = .int .i64 j ∧ Hid ((k + 1) + twL true (s.data.toList.drop (k + 1)) = j + twL true (s.data.toList.drop j))) (fun i => s.size - (intOf i).toNat)
      case atStart => exact ⟨(k + 1), Nat.le_refl _, by omega, by first | rfl | go_num, rfl⟩
      case round =>
        obtain ⟨j, hj, hjs, rfl, HR⟩ := hrel
        by_cases hlt : j < s.size
        · have hlt' : (j : Int) < (s.size : Int) := by omega
          have IX := idx5 s[j]
          by_cases h5 : isC (s[j].toNat : Int) 5 = true
          · have H1 : Hid _ := twL_hit true s j hlt (by unfold okB; rw [h5]; rfl)
            clear IX
            go_wp2_with fail
            refine (Is_any _ _ _).mono ?_
            rintro e w' ⟨rfl, rfl⟩
            go_wp2_with fail
            go_round
            case rel => exact ⟨j + 1, by omega, by omega, by go_num, by have a := HR.out; have b := H1.out; show _ = _; omega⟩
            case measure => simp [intOf]; omega
          · have h5' : isC (s[j].toNat : Int) 5 = false := by simpa using h5
            clear h5
            have C := IndexByteS_any (ofL [46, 43, 126, 45, 58]) (s[j].toNat : Int)
            rw [ofL_data, ofByte] at C
            have HC := hide (show ∀ w, _ from C)
            clear C
            by_cases hm : Lib.indexByte [46, 43, 126, 45, 58] s[j] < 0
            · have H1 : Hid _ := twL_miss true s j hlt (by unfold okB; rw [h5', IX.1 hm]; rfl)
              clear IX
              generalize Lib.indexByte [46, 43, 126, 45, 58] s[j] = I at *
              go_wp2_with fail
              refine (Is_any _ _ _).mono ?_
              rintro e w' ⟨rfl, rfl⟩
              go_wp2_with fail
              refine (HC.out _).mono ?_
              rintro e w' ⟨rfl, rfl⟩
              go_wp2_with fail
              go_ret
              exact ⟨ret_i (by have a := HR.out; have b := H1.out; rw [HW.out]; omega), rfl⟩
            · have H1 : Hid _ := twL_hit true s j hlt (by
                unfold okB
                cases hx : (s[j] == 46 || s[j] == 43 || s[j] == 126 || s[j] == 45 || (true && s[j] == 58))
                · exact absurd (IX.2 hx) hm
                · rw [Bool.or_true])
              clear IX
              generalize Lib.indexByte [46, 43, 126, 45, 58] s[j] = I at *
              go_wp2_with fail
              refine (Is_any _ _ _).mono ?_
              rintro e w' ⟨rfl, rfl⟩
              go_wp2_with fail
              refine (HC.out _).mono ?_
              rintro e w' ⟨rfl, rfl⟩
              go_wp2_with fail
              go_round
              case rel => exact ⟨j + 1, by omega, by omega, by go_num, by have a := HR.out; have b := H1.out; show _ = _; omega⟩
              case measure => simp [intOf]; omega
        · have H1 : Hid _ := twL_end true s j (by omega)
          have hlt' : ¬ (j : Int) < (s.size : Int) := by omega
          go_wp2_with fail
          go_ret
          exact ⟨ret_i (by have a := HR.out; have b := H1.out; rw [HW.out]; omega), rfl⟩
    · have h0' : ¬ (((k + 1) : Nat) : Int) < (s.size : Int) := by omega
      have H1 : Hid _ := twL_end true s ((k + 1)) (by omega)
      go_enter Try.func29, Try.ntmps29
      go_wp2_with fail
      go_loop [6] (fun i => i = .int .i64 (((k + 1) : Nat) : Int)) (fun i => 0)
      case atStart => first | rfl | go_num
      case round =>
        obtain rfl := hrel
        go_wp2_with fail
        go_ret
        exact ⟨ret_i (by have b := H1.out; rw [HW.out]; omega), rfl⟩


theorem wrongAt_any (s : ByteArray) (st : Nat) (w : World) (hs : s.size ≤ 64) (hst : st ≤ s.size) :
    Calls Try.prog 29 #[.string s, .int .i64 (st : Int)] w fun e w' => e = .returned (.int .i64 (wrongR s.data.toList st : Int)) ∧ w' = w := by
  cases st with
  | zero => exact wrongAt_0 s w hs hst
  | succ k => exact wrongAt_s s k w hs hst

end Go.Proofs.Ythojcidbhojlhaa
