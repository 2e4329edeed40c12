/-
  Walks: the document's order of segments.
-/
import Derived.Test.YtmcabgjcppnihaaDr
import Derived.Test.YtmcabgjcppnihaaLr
namespace Go.Proofs.Ytmcabgjcppnihaa
open Go.RowKit Go.Shelf
set_option linter.unusedVariables false

set_option maxHeartbeats 1000000 in
theorem Ris_any (s : ByteArray) (j : Nat) (c : UInt8) (w : World) (hs : s.size ≤ 9223372036854775000) :
    Calls Try.prog 33 #[.string s, .int .i64 (j : Int), .int .u8 (c.toNat : Int)] w fun e w' => e = .returned (.bool (atB s.data.toList j c)) ∧ w' = w := by
  by_cases h : j < s.size
  · have h' : (j : Int) < (s.size : Int) := by omega
    have hA := atB_in s j c h
    by_cases hc : s[j] = c
    · have hb := u8_eq s[j] c hc
      have HA : Hid (atB s.data.toList j c = true) := by show _ = _; rw [hA, hc]; simp
      clear hA hc
      go_enter Try.func33, Try.ntmps33
      go_wp2_with fail
      go_ret
      exact ⟨ret_b (by rw [HA.out]), rfl⟩
    · have hb := u8_ne s[j] c hc
      have HA : Hid (atB s.data.toList j c = false) := by show _ = _; rw [hA]; simpa using hb
      clear hA hc
      go_enter Try.func33, Try.ntmps33
      go_wp2_with fail
      go_ret
      exact ⟨ret_b (by rw [HA.out]), rfl⟩
  · have h' : ¬ (j : Int) < (s.size : Int) := by omega
    have HA := hide (atB_out s j c h)
    go_enter Try.func33, Try.ntmps33
    go_wp2_with fail
    go_ret
    exact ⟨ret_b (by rw [HA.out]), rfl⟩

set_option maxHeartbeats 1000000 in
theorem Rskip_any (s : ByteArray) (a : Nat) (w : World) (hs : s.size ≤ 9223372036854775000) (ha : a ≤ s.size) :
    Calls Try.prog 32 #[.string s, .int .i64 (a : Int)] w fun e w' => e = .returned (.int .i64 (skP s a : Int)) ∧ w' = w := by
  have HW : Hid (skP s a = a + skN (s.data.toList.drop a)) := rfl
  go_enter Try.func32, Try.ntmps32
  go_wp2_with fail
  go_loop [1] (fun i => ∃ j : Nat, j ≤ s.size ∧ i = .int .i64 j ∧ Hid (a + skN (s.data.toList.drop a) = j + skN (s.data.toList.drop j))) (fun i => s.size - (intOf i).toNat)
  case atStart => exact ⟨a, ha, rfl, rfl⟩
  case round =>
    obtain ⟨j, hjs, rfl, HR⟩ := hrel
    by_cases hlt : j < s.size
    · have hlt' : (j : Int) < (s.size : Int) := by omega
      have hk := kind_one s[j]
      have IS := hide (fun w => RIs_any (s[j].toNat : Int) 5 w)
      cases h5 : isC (s[j].toNat : Int) 5
      · by_cases h1 : s[j] = 126
        · have g1 : ((s[j].toNat : Int) != 126) = false := by have := u8_eq s[j] 126 h1; simpa using this
          have e1 : (s[j] == 126) = true := by simpa using h1
          rw [h5, e1] at hk
          simp only [Bool.not_true, Bool.and_false, Bool.false_and] at hk
          clear h1 e1
          have H1 : Hid _ := skN_miss s j hlt hk
          clear hk
          go_wp2_with fail
          refine (IS.out _).mono ?_
          rintro e w' ⟨rfl, rfl⟩
          go_wp2_with fail
          go_ret
          exact ⟨ret_i (by have a := HR.out; have b := H1.out; rw [HW.out]; omega), rfl⟩
        have g1 : ((s[j].toNat : Int) != 126) = true := by have := u8_ne s[j] 126 h1; simpa using this
        have e1 : (s[j] == 126) = false := by simpa using h1
        by_cases h2 : s[j] = 94
        · have g2 : ((s[j].toNat : Int) != 94) = false := by have := u8_eq s[j] 94 h2; simpa using this
          have e2 : (s[j] == 94) = true := by simpa using h2
          rw [h5, e1, e2] at hk
          simp only [Bool.not_true, Bool.and_false] at hk
          clear h1 e1 h2 e2
          have H1 : Hid _ := skN_miss s j hlt hk
          clear hk
          go_wp2_with fail
          refine (IS.out _).mono ?_
          rintro e w' ⟨rfl, rfl⟩
          go_wp2_with fail
          go_ret
          exact ⟨ret_i (by have a := HR.out; have b := H1.out; rw [HW.out]; omega), rfl⟩
        have g2 : ((s[j].toNat : Int) != 94) = true := by have := u8_ne s[j] 94 h2; simpa using this
        have e2 : (s[j] == 94) = false := by simpa using h2
        rw [h5, e1, e2] at hk
        have H1 : Hid _ := skN_hit s j hlt hk
        clear hk h1 e1 h2 e2
        go_wp2_with fail
        refine (IS.out _).mono ?_
        rintro e w' ⟨rfl, rfl⟩
        go_wp2_with fail
        go_round
        case rel => exact ⟨j + 1, by omega, by go_num, by have a := HR.out; have b := H1.out; show _ = _; omega⟩
        case measure => simp [intOf]; omega
      · rw [h5] at hk
        simp only [Bool.not_true, Bool.false_and] at hk
        have H1 : Hid _ := skN_miss s j hlt hk
        clear hk
        go_wp2_with fail
        refine (IS.out _).mono ?_
        rintro e w' ⟨rfl, rfl⟩
        go_wp2_with fail
        go_ret
        exact ⟨ret_i (by have a := HR.out; have b := H1.out; rw [HW.out]; omega), rfl⟩
    · have H1 : Hid _ := skN_end s j (by omega)
      have hlt' : ¬ (j : Int) < (s.size : Int) := by omega
      go_wp2_with fail
      go_ret
      exact ⟨ret_i (by have a := HR.out; have b := H1.out; rw [HW.out]; omega), rfl⟩
end Go.Proofs.Ytmcabgjcppnihaa
