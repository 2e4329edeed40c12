/-
  The document's reader: digits, numbers, one byte.
-/
import Derived.Test.YtkngmgdcnplkgaaRa
namespace Go.Proofs.Ytkngmgdcnplkgaa
open Go.RowKit Go.Shelf
set_option linter.unusedVariables false

set_option maxHeartbeats 400000 in
theorem rdigits_any (s : ByteArray) (w : World) (hs : s.size ≤ maxLen) :
    Calls Try.prog 66 #[.string s] w fun e w' => e = .returned (.bool (digB s.data.toList)) ∧ w' = w := by
  unfold maxLen at hs
  have HD : Hid (digB s.data.toList = (decide (0 < s.size) && decide (runL 1 s.data.toList = s.size))) := by
    show _ = _
    by_cases hp : 0 < s.size
    · unfold digB
      rw [emp s hp, len_data, Bool.eq_iff_iff]
      simp [hp]
    · have := size0 s hp
      subst this
      rfl
  generalize digB s.data.toList = D at *
  go_enter Try.func66, Try.ntmps66
  go_wp2_with fail
  go_loop [3] (fun i => ∃ k : Nat, k ≤ s.size ∧ i = .int .i64 k ∧ Hid (runL 1 s.data.toList = k + runL 1 (s.data.toList.drop k))) (fun i => s.size - (intOf i).toNat)
  case atStart => exact ⟨0, by omega, rfl, by show _ = _; simp⟩
  case round =>
    obtain ⟨k, hk, rfl, HR⟩ := hrel
    by_cases hlt : k < s.size
    · cases hc : isC (s[k].toNat : Int) 1
      · have hC := rdigit_any s[k] w
        rw [hc] at hC
        have HC := hide hC
        have HM := hide (runL_miss 1 s k hlt hc)
        clear hC hc
        go_wp2_with fail
        refine HC.out.mono ?_
        rintro e w' ⟨rfl, rfl⟩
        go_wp2_with fail
        go_ret
        refine ⟨ret_b ?_, rfl⟩
        rw [HD.out, HR.out, HM.out]
        simp
        omega
      · have hC := rdigit_any s[k] w
        rw [hc] at hC
        have HC := hide hC
        have HM := hide (runL_hit 1 s k hlt hc)
        clear hC hc
        go_wp2_with fail
        refine HC.out.mono ?_
        rintro e w' ⟨rfl, rfl⟩
        go_wp2_with fail
        go_round
        case rel => exact ⟨k + 1, by omega, by go_num, by show _ = _; rw [HR.out, HM.out]; omega⟩
        case measure => simp [intOf]; omega
    · obtain rfl : k = s.size := by omega
      go_wp2_with fail
      go_ret
      refine ⟨ret_b ?_, rfl⟩
      rw [HD.out, HR.out, runL_end 1 s s.size (Nat.le_refl _)]
      simp

theorem rnumber_any (s : ByteArray) (w : World) (hs : s.size ≤ maxLen) :
    Calls Try.prog 40 #[.string s] w fun e w' => e = .returned (.bool (numB s.data.toList)) ∧ w' = w := by
  have hD := rdigits_any s w hs
  unfold maxLen at hs
  unfold numB
  cases hd : digB s.data.toList
  · rw [hd] at hD
    have HD := hide hD
    clear hD hd
    simp only [Bool.false_and]
    go_enter Try.func40, Try.ntmps40
    go_wp2_with fail
    refine HD.out.mono ?_
    rintro e w' ⟨rfl, rfl⟩
    go_wp2_with fail
    go_ret
    exact ⟨rfl, rfl⟩
  · rw [hd] at hD
    have HD := hide hD
    have hp : 0 < s.size := by
      rcases Nat.eq_zero_or_pos s.size with h | h
      · exfalso
        have := size0 s (by omega)
        subst this
        cases hd
      · exact h
    have HZ : Hid (zeroB s.data.toList = (decide (1 < s.size) && decide ((s[0].toNat : Int) = 48))) := by
      show _ = _
      unfold zeroB
      rw [hd, head_at s hp, len_data, Bool.eq_iff_iff]
      simp only [Bool.and_true, Bool.and_eq_true, decide_eq_true_eq, beq_iff_eq, Option.some.injEq]
      refine and_congr_right fun _ => ⟨fun h => by rw [h]; rfl, fun h => UInt8.toNat_inj.1 (by have : s[0].toNat = 48 := by omega
                                                                                               rw [this]; rfl)⟩
    clear hD hd
    generalize zeroB s.data.toList = Z at *
    by_cases h0 : (s[0].toNat : Int) = 48 <;> by_cases h1 : 1 < s.size
    all_goals
      go_enter Try.func40, Try.ntmps40
      go_wp2_with fail
      refine HD.out.mono ?_
      rintro e w' ⟨rfl, rfl⟩
      have hb0 : ((s[0].toNat : Int) == 48) = decide ((s[0].toNat : Int) = 48) := by by_cases h : (s[0].toNat : Int) = 48 <;> simp [h]
      simp only [h0, decide_true, decide_false] at hb0
      go_wp2_with fail
      go_ret
      refine ⟨ret_b ?_, rfl⟩
      rw [HZ.out]
      simp [h0, h1]
      try omega

theorem rbad_any (s : ByteArray) (w : World) (hs : s.size ≤ maxLen) :
    Calls Try.prog 67 #[.string s] w fun e w' => e = .returned (.bool (zeroB s.data.toList)) ∧ w' = w := by
  have hD := rdigits_any s w hs
  have hN := rnumber_any s w hs
  have hz : zeroB s.data.toList = (digB s.data.toList && !numB s.data.toList) := by
    unfold numB zeroB
    cases digB s.data.toList <;> simp
  rw [hz]
  clear hz
  cases hd : digB s.data.toList <;> cases hn : numB s.data.toList
  all_goals
    rw [hd] at hD
    rw [hn] at hN
    have HD := hide hD
    have HN := hide hN
    clear hD hd hN hn
    go_enter Try.func67, Try.ntmps67
    go_wp2_with fail
    refine HD.out.mono ?_
    rintro e w' ⟨rfl, hw⟩
    rw [hw]
    clear hw w'
    go_wp2_with fail
    try (refine HN.out.mono ?_; rintro e w' ⟨rfl, hw⟩; rw [hw]; clear hw w'; go_wp2_with fail)
    go_ret
    exact ⟨rfl, rfl⟩

/-- Does a byte stand at a place? -/
def atB (l : List UInt8) (a : Nat) (c : UInt8) : Bool := l[a]? == some c
theorem atB_in (s : ByteArray) (a : Nat) (c : UInt8) (h : a < s.size) : atB s.data.toList a c = decide ((s[a].toNat : Int) = (c.toNat : Int)) := by
  have hg : s.data.toList[a]? = some s[a] := by rw [List.getElem?_eq_getElem (by rw [len_data]; exact h)]; rfl
  unfold atB
  rw [hg, Bool.eq_iff_iff]
  simp only [beq_iff_eq, Option.some.injEq, decide_eq_true_eq]
  exact ⟨fun h => by rw [h], fun h => UInt8.toNat_inj.1 (by omega)⟩
theorem atB_out (s : ByteArray) (a : Nat) (c : UInt8) (h : ¬ a < s.size) : atB s.data.toList a c = false := by
  unfold atB
  rw [List.getElem?_eq_none (by rw [len_data]; omega)]
  rfl

theorem rIs_any (B : Nat) (s : ByteArray) (a : Nat) (e : Int) (c : UInt8) (w : World) (h : RdAt w B s a e) :
    Calls Try.prog 59 #[.pointer (some ⟨B, 0, none⟩), .int .u8 (c.toNat : Int)] w fun r w' => r = .returned (.bool (decide (e = 0) && atB s.data.toList a c)) ∧ ∃ n, w' = w.drewN n := by
  obtain ⟨c0, c1, c2, f1, f2⟩ := h.seen
  have HM := hide (fun n => rmore_any B s a e (w.drewN n) (h.drewN n))
  clear h
  by_cases he : e = 0
  · subst he
    by_cases ha : a < s.size
    · rw [show (decide ((0 : Int) = 0) && decide (a < s.size)) = true by simp [ha]] at HM
      rw [atB_in s a c ha]
      have hb : ((s[a].toNat : Int) == (c.toNat : Int)) = decide ((s[a].toNat : Int) = (c.toNat : Int)) := by by_cases h : (s[a].toNat : Int) = (c.toNat : Int) <;> simp [h]
      generalize decide ((s[a].toNat : Int) = (c.toNat : Int)) = D at *
      go_enter Try.func59, Try.ntmps59
      go_wp2_with fail
      go_quiet ((go_at_call 61; exact Calls.quiet_of (HM.out _)))
      go_wp2_with fail
      go_ret
      exact ⟨by simp, _, rfl⟩
    · rw [show (decide ((0 : Int) = 0) && decide (a < s.size)) = false by simp [ha]] at HM
      rw [atB_out s a c ha]
      go_enter Try.func59, Try.ntmps59
      go_wp2_with fail
      go_quiet ((go_at_call 61; exact Calls.quiet_of (HM.out _)))
      go_wp2_with fail
      go_ret
      exact ⟨rfl, _, rfl⟩
  · rw [show (decide (e = 0) && decide (a < s.size)) = false by simp [he]] at HM
    rw [show (decide (e = 0) && atB s.data.toList a c) = false by simp [he]]
    clear he
    go_enter Try.func59, Try.ntmps59
    go_wp2_with fail
    go_quiet ((go_at_call 61; exact Calls.quiet_of (HM.out _)))
    go_wp2_with fail
    go_ret
    exact ⟨rfl, _, rfl⟩

end Go.Proofs.Ytkngmgdcnplkgaa
