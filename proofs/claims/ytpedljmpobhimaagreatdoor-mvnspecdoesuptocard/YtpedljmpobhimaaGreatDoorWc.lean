/-
  Walks: small letters, and digits out of any bytes.
-/
import Derived.Test.YtpedljmpobhimaaGreatDoorWb
import Derived.Test.YtpedljmpobhimaaGreatDoorBys
namespace Go.Proofs.YtpedljmpobhimaaGreatDoor
open Go.RowKit

theorem add32 (c : UInt8) (h : (c.toNat : Int) ≤ 90) : ((c.toNat : Int) - 65 + 97) = ((c + 32).toNat : Int) := by
  have : (c + 32).toNat = (c.toNat + 32) % 256 := UInt8.toNat_add c 32
  omega
theorem add32' (c : UInt8) (h : (c.toNat : Int) ≤ 90) : ((c.toNat : Int) + 32) = ((c + 32).toNat : Int) := by
  have : (c + 32).toNat = (c.toNat + 32) % 256 := UInt8.toNat_add c 32
  omega
theorem dig10 (c : UInt8) : (48 + (c.toNat : Int) % 10) = ((digC c).toNat : Int) := by
  have h1 : (digC c).toNat = (48 + (c % 10).toNat) % 256 := UInt8.toNat_add 48 (c % 10)
  have h2 : (c % 10).toNat = c.toNat % 10 := UInt8.toNat_mod c 10
  omega

set_option maxHeartbeats 400000 in
theorem Lower_any (s : ByteArray) (w : World) (hs : s.size ≤ maxLen) :
    Calls Tryz.prog 111 #[.string s] w fun e w' => e = .returned (.string (ofL (s.data.toList.map lowC))) ∧ Below w.heap.size w w' := by
  unfold maxLen at hs
  have hconv := fun (w : World) => Lib.run_convert_string_bytes (P := Tryz.prog) w 9 101 5 s Tryz.underlying9 Tryz.underlying101 Tryz.underlying5
  obtain ⟨W1, hW1⟩ : ∃ W1, Lib.bytesWorld w 5 s = W1 := ⟨_, rfl⟩
  have hb0 := below_conv w 5 s
  have hy0 := Bys.conv w 5 s
  rw [hW1] at hb0 hy0
  go_enter Tryz.func111, Tryz.ntmps111
  go_wp2_with fail
  go_loopw [10] (fun i wr => ∃ j : Nat, j ≤ s.size ∧ i = .int .i64 j ∧ Bys wr w.heap.size (upTo lowC s.data.toList j) ∧ Below w.heap.size w wr) (fun i _ => s.size - (intOf i).toNat)
  case atStart => exact ⟨0, by omega, rfl, by rw [upTo_zero]; exact hy0, hb0⟩
  case round =>
    obtain ⟨j, hj, rfl, hy, hbel⟩ := hrel
    by_cases hlt : j < s.size
    · have hcell := hy.cell j (by rw [upTo_len, len_data]; exact hlt)
      have hfree := hy.free j (by rw [upTo_len, len_data]; exact hlt)
      rw [upTo_at _ _ _ (by rw [len_data]; exact hlt)] at hcell
      have HS : Hid _ := upTo_set lowC s.data.toList j (by rw [len_data]; exact hlt)
      have HK : Hid _ := upTo_keep lowC s.data.toList j (by rw [len_data]; exact hlt)
      have HL : Hid _ := upTo_len lowC s.data.toList j
      generalize s.data.toList.getD j 0 = c at *
      have hcb : c.toNat < 256 := c.toNat_lt
      by_cases hc : isC (c.toNat : Int) 3 = true
      · have hbd : (65 ≤ (c.toNat : Int)) ∧ (c.toNat : Int) ≤ 90 := by simpa [isC] using hc
        have HV : Hid (lowC c = c + 32) := by simp [Hid, lowC, hc]
        go_wp2_with (go_at_call 44; refine (Is_any _ _ _).mono ?_; rintro e w' ⟨rfl, rfl⟩)
        go_roundw
        case rel => exact ⟨j + 1, by omega, by go_num, by rw [← HS.out]; exact hy.set j (by rw [upTo_len, len_data]; exact hlt) _ _ (by rw [HV.out]; exact add32 c hbd.2), hbel.setCell (Nat.le_refl _) _⟩
        case measure => simp [intOf]; omega
      · have hc' : isC (c.toNat : Int) 3 = false := by simpa using hc
        have HV : Hid (lowC c = c) := by simp [Hid, lowC, hc]
        go_wp2_with (go_at_call 44; refine (Is_any _ _ _).mono ?_; rintro e w' ⟨rfl, rfl⟩)
        go_roundw
        case rel => exact ⟨j + 1, by omega, by go_num, by rw [HK.out HV.out]; exact hy, hbel⟩
        case measure => simp [intOf]; omega
    · obtain rfl : j = s.size := by omega
      have hback := fun cap => hy.back (P := Tryz.prog) 101 9 5 cap Tryz.underlying101 Tryz.underlying5 Tryz.underlying9
      rw [upTo_len, len_data] at hback
      have HA : Hid (upTo lowC s.data.toList s.size = s.data.toList.map lowC) := by have := upTo_all lowC s.data.toList; rw [len_data] at this; exact this
      go_wp2_with fail
      go_ret
      exact ⟨ret_s (by rw [HA.out]), hbel⟩

set_option maxHeartbeats 400000 in
theorem RLower_any (s : ByteArray) (w : World) (hs : s.size ≤ maxLen) :
    Calls Tryz.prog 105 #[.string s] w fun e w' => e = .returned (.string (ofL (s.data.toList.map lowC))) ∧ Below w.heap.size w w' := by
  unfold maxLen at hs
  have hconv := fun (w : World) => Lib.run_convert_string_bytes (P := Tryz.prog) w 9 101 5 s Tryz.underlying9 Tryz.underlying101 Tryz.underlying5
  obtain ⟨W1, hW1⟩ : ∃ W1, Lib.bytesWorld w 5 s = W1 := ⟨_, rfl⟩
  have hb0 := below_conv w 5 s
  have hy0 := Bys.conv w 5 s
  rw [hW1] at hb0 hy0
  go_enter Tryz.func105, Tryz.ntmps105
  go_wp2_with fail
  go_loopw [4] (fun i wr => ∃ j : Nat, j ≤ s.size ∧ i = .int .i64 j ∧ Bys wr w.heap.size (upTo lowC s.data.toList j) ∧ Below w.heap.size w wr) (fun i _ => s.size - (intOf i).toNat)
  case atStart => exact ⟨0, by omega, rfl, by rw [upTo_zero]; exact hy0, hb0⟩
  case round =>
    obtain ⟨j, hj, rfl, hy, hbel⟩ := hrel
    by_cases hlt : j < s.size
    · have hcell := hy.cell j (by rw [upTo_len, len_data]; exact hlt)
      have hfree := hy.free j (by rw [upTo_len, len_data]; exact hlt)
      rw [upTo_at _ _ _ (by rw [len_data]; exact hlt)] at hcell
      have HS : Hid _ := upTo_set lowC s.data.toList j (by rw [len_data]; exact hlt)
      have HK : Hid _ := upTo_keep lowC s.data.toList j (by rw [len_data]; exact hlt)
      have HL : Hid _ := upTo_len lowC s.data.toList j
      generalize s.data.toList.getD j 0 = c at *
      have hcb : c.toNat < 256 := c.toNat_lt
      by_cases hc : isC (c.toNat : Int) 3 = true
      · have hbd : (65 ≤ (c.toNat : Int)) ∧ (c.toNat : Int) ≤ 90 := by simpa [isC] using hc
        have HV : Hid (lowC c = c + 32) := by simp [Hid, lowC, hc]
        go_wp2_with (go_at_call 74; refine (RIs_any _ _ _).mono ?_; rintro e w' ⟨rfl, rfl⟩)
        go_roundw
        case rel => exact ⟨j + 1, by omega, by go_num, by rw [← HS.out]; exact hy.set j (by rw [upTo_len, len_data]; exact hlt) _ _ (by rw [HV.out]; exact add32' c hbd.2), hbel.setCell (Nat.le_refl _) _⟩
        case measure => simp [intOf]; omega
      · have hc' : isC (c.toNat : Int) 3 = false := by simpa using hc
        have HV : Hid (lowC c = c) := by simp [Hid, lowC, hc]
        go_wp2_with (go_at_call 74; refine (RIs_any _ _ _).mono ?_; rintro e w' ⟨rfl, rfl⟩)
        go_roundw
        case rel => exact ⟨j + 1, by omega, by go_num, by rw [HK.out HV.out]; exact hy, hbel⟩
        case measure => simp [intOf]; omega
    · obtain rfl : j = s.size := by omega
      have hback := fun cap => hy.back (P := Tryz.prog) 101 9 5 cap Tryz.underlying101 Tryz.underlying5 Tryz.underlying9
      rw [upTo_len, len_data] at hback
      have HA : Hid (upTo lowC s.data.toList s.size = s.data.toList.map lowC) := by have := upTo_all lowC s.data.toList; rw [len_data] at this; exact this
      go_wp2_with fail
      go_ret
      exact ⟨ret_s (by rw [HA.out]), hbel⟩

end Go.Proofs.YtpedljmpobhimaaGreatDoor
