/-
  Walks: the document's reader.
-/
import Derived.Test.YthojcidbhojlhaaDd
import Derived.Test.YthojcidbhojlhaaLs
namespace Go.Proofs.Ythojcidbhojlhaa
open Go.RowKit Go.Shelf
set_option linter.unusedVariables false

set_option maxHeartbeats 400000 in
theorem Rdigit_any (c : Int) (w : World) : Calls Try.prog 36 #[.int .u8 c] w fun e w' => e = .returned (.bool (isC c 1)) ∧ w' = w := by
  by_cases h1 : 48 ≤ c
  · by_cases h2 : c ≤ 57
    · go_enter Try.func36, Try.ntmps36
      go_wp2
      go_ret
      exact ⟨ret_b (by simp [isC, h1, h2]), rfl⟩
    · go_enter Try.func36, Try.ntmps36
      go_wp2
      go_ret
      exact ⟨ret_b (by simp [isC, h2]), rfl⟩
  · go_enter Try.func36, Try.ntmps36
    go_wp2
    go_ret
    exact ⟨ret_b (by simp [isC]; omega), rfl⟩

set_option maxHeartbeats 1000000 in
theorem Rletter_any (c : Int) (w : World) : Calls Try.prog 55 #[.int .u8 c] w fun e w' => e = .returned (.bool (isC c 4)) ∧ w' = w := by
  go_enter Try.func55, Try.ntmps55
  go_wp2
  all_goals go_ret
  all_goals exact ⟨ret_b (by rw [Bool.eq_iff_iff]; simp [isC] <;> omega), rfl⟩

theorem partB_of (c : UInt8) (x y : Bool) (h1 : isC (c.toNat : Int) 1 = x) (h4 : isC (c.toNat : Int) 4 = y) : partB c = (x || y || ((c.toNat : Int) == 46) || ((c.toNat : Int) == 43) || ((c.toNat : Int) == 126)) := by
  have e : ∀ k : UInt8, (c == k) = ((c.toNat : Int) == (k.toNat : Int)) := fun k => by
    rw [Bool.eq_iff_iff]
    simp only [beq_iff_eq]
    exact ⟨fun h => by rw [h], fun h => UInt8.toNat_inj.1 (by omega)⟩
  unfold partB
  rw [h1, h4, e 46, e 43, e 126]
  rfl

set_option maxHeartbeats 1000000 in
theorem Rpart_any (c : UInt8) (w : World) : Calls Try.prog 37 #[.int .u8 (c.toNat : Int)] w fun e w' => e = .returned (.bool (partB c)) ∧ w' = w := by
  cases h1 : isC (c.toNat : Int) 1
  · cases h4 : isC (c.toNat : Int) 4
    · have HP := hide (partB_of c _ _ h1 h4)
      have D := hide (fun w => Rdigit_any (c.toNat : Int) w)
      have L := hide (fun w => Rletter_any (c.toNat : Int) w)
      rw [h1] at D
      rw [h4] at L
      clear h1 h4
      by_cases k1 : (c.toNat : Int) = 46
      · have b1 : ((c.toNat : Int) == 46) = true := by simpa using k1
        rw [b1] at HP
        clear k1
        go_enter Try.func37, Try.ntmps37
        go_wp2_with fail
        refine (D.out _).mono ?_
        rintro e w' ⟨rfl, rfl⟩
        go_wp2_with fail
        refine (L.out _).mono ?_
        rintro e w' ⟨rfl, rfl⟩
        go_wp2_with fail
        go_ret
        exact ⟨ret_b (by rw [HP.out]; rfl), rfl⟩
      · have b1 : ((c.toNat : Int) == 46) = false := by simpa using k1
        rw [b1] at HP
        clear k1
        by_cases k2 : (c.toNat : Int) = 43
        · have b2 : ((c.toNat : Int) == 43) = true := by simpa using k2
          rw [b2] at HP
          clear k2
          go_enter Try.func37, Try.ntmps37
          go_wp2_with fail
          refine (D.out _).mono ?_
          rintro e w' ⟨rfl, rfl⟩
          go_wp2_with fail
          refine (L.out _).mono ?_
          rintro e w' ⟨rfl, rfl⟩
          go_wp2_with fail
          go_ret
          exact ⟨ret_b (by rw [HP.out]; rfl), rfl⟩
        · have b2 : ((c.toNat : Int) == 43) = false := by simpa using k2
          rw [b2] at HP
          clear k2
          go_enter Try.func37, Try.ntmps37
          go_wp2_with fail
          refine (D.out _).mono ?_
          rintro e w' ⟨rfl, rfl⟩
          go_wp2_with fail
          refine (L.out _).mono ?_
          rintro e w' ⟨rfl, rfl⟩
          go_wp2_with fail
          go_ret
          exact ⟨ret_b (by rw [HP.out]; simp), rfl⟩
    · have HP : Hid (partB c = true) := by show _ = _; rw [partB_of c _ _ h1 h4]; rfl
      have D := hide (fun w => Rdigit_any (c.toNat : Int) w)
      have L := hide (fun w => Rletter_any (c.toNat : Int) w)
      rw [h1] at D
      rw [h4] at L
      clear h1 h4
      go_enter Try.func37, Try.ntmps37
      go_wp2_with fail
      refine (D.out _).mono ?_
      rintro e w' ⟨rfl, rfl⟩
      go_wp2_with fail
      refine (L.out _).mono ?_
      rintro e w' ⟨rfl, rfl⟩
      go_wp2_with fail
      go_ret
      exact ⟨ret_b HP.out.symm, rfl⟩
  · have HP : Hid (partB c = true) := by show _ = _; unfold partB; rw [h1]; rfl
    have D := hide (fun w => Rdigit_any (c.toNat : Int) w)
    rw [h1] at D
    clear h1
    go_enter Try.func37, Try.ntmps37
    go_wp2_with fail
    refine (D.out _).mono ?_
    rintro e w' ⟨rfl, rfl⟩
    go_wp2_with fail
    go_ret
    exact ⟨ret_b HP.out.symm, rfl⟩

theorem digB_run (s : ByteArray) : digB s.data.toList = (decide (0 < s.size) && (runL 1 s.data.toList == s.size)) := by
  unfold digB
  rw [len_data]
  congr 1
  rw [Bool.eq_iff_iff]
  simp only [Bool.not_eq_true', decide_eq_true_eq]
  rw [← len_data]
  cases s.data.toList <;> simp

set_option maxHeartbeats 400000 in
theorem Ralldigits_any (s : ByteArray) (w : World) (hs : s.size ≤ 9223372036854775000) :
    Calls Try.prog 34 #[.string s] w fun e w' => e = .returned (.bool (digB s.data.toList)) ∧ w' = w := by
  have HB := hide (digB_run s)
  have hle := runL_le 1 s.data.toList
  rw [len_data] at hle
  go_enter Try.func34, Try.ntmps34
  go_wp2_with fail
  go_loop [3] (fun i => ∃ j : Nat, j ≤ s.size ∧ i = .int .i64 j ∧ Hid (runL 1 s.data.toList = j + runL 1 (s.data.toList.drop j))) (fun i => s.size - (intOf i).toNat)
  case atStart => exact ⟨0, by omega, rfl, by simp [Hid]⟩
  case round =>
    obtain ⟨j, hj, rfl, HR⟩ := hrel
    by_cases hlt : j < s.size
    · have hlt' : (j : Int) < (s.size : Int) := by omega
      have D := hide (fun w => Rdigit_any (s[j].toNat : Int) w)
      cases hc : isC (s[j].toNat : Int) 1
      · rw [hc] at D
        have HX : Hid (digB s.data.toList = false) := by
          show _ = _
          rw [HB.out]
          have := HR.out
          have := runL_miss 1 s j hlt hc
          simp
          omega
        clear hc
        go_wp2_with fail
        refine (D.out _).mono ?_
        rintro e w' ⟨rfl, rfl⟩
        go_wp2_with fail
        go_ret
        exact ⟨ret_b HX.out.symm, rfl⟩
      · rw [hc] at D
        have H1 : Hid _ := runL_hit 1 s j hlt hc
        clear hc
        go_wp2_with fail
        refine (D.out _).mono ?_
        rintro e w' ⟨rfl, rfl⟩
        go_wp2_with fail
        go_round
        case rel => exact ⟨j + 1, by omega, by go_num, by have a := HR.out; have b := H1.out; show _ = _; omega⟩
        case measure => simp [intOf]; omega
    · have hlt' : ¬ (j : Int) < (s.size : Int) := by omega
      have HX : Hid (digB s.data.toList = decide (0 < s.size)) := by
        show _ = _
        rw [HB.out]
        have := HR.out
        have := runL_end 1 s j (by omega)
        have e : runL 1 s.data.toList = s.size := by omega
        rw [e]
        simp
      go_wp2_with fail
      go_ret
      exact ⟨ret_b HX.out.symm, rfl⟩


end Go.Proofs.Ythojcidbhojlhaa
