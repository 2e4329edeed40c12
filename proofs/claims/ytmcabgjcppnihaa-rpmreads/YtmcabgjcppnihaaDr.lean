/-
  Walks: the document's bytes, runs, faults.
-/
import Derived.Test.YtmcabgjcppnihaaDk
import Derived.Test.YtmcabgjcppnihaaLu
namespace Go.Proofs.Ytmcabgjcppnihaa
open Go.RowKit Go.Shelf
set_option linter.unusedVariables false

set_option maxHeartbeats 1000000 in
theorem RByte_any (c : UInt8) (w : World) : Calls Try.prog 46 #[.int .u8 (c.toNat : Int)] w fun e w' => e = .returned (.bool (okV c)) ∧ w' = w := by
  have hK : okV c = (isC (c.toNat : Int) 5 || (c == 46 || c == 95 || c == 43 || c == 126 || c == 94)) := rfl
  generalize okV c = K at *
  cases h5 : isC (c.toNat : Int) 5
  · rw [h5, Bool.false_or] at hK
    by_cases h46 : c = 46
    · have hb46 : ((c.toNat : Int) == 46) = true := u8_eq c 46 h46
      have HK : Hid (K = true) := by show _ = _; rw [hK, h46]; rfl
      clear hK h46
      go_enter Try.func46, Try.ntmps46
      go_wp2_with fail
      refine (RIs_any _ _ _).mono ?_
      rintro e w' ⟨rfl, rfl⟩
      go_wp2_with fail
      go_ret
      exact ⟨ret_b (by rw [HK.out]), rfl⟩
    have hb46 : ((c.toNat : Int) == 46) = false := u8_ne c 46 h46
    by_cases h95 : c = 95
    · have hb95 : ((c.toNat : Int) == 95) = true := u8_eq c 95 h95
      have HK : Hid (K = true) := by show _ = _; rw [hK, h95]; rfl
      clear hK h95
      go_enter Try.func46, Try.ntmps46
      go_wp2_with fail
      refine (RIs_any _ _ _).mono ?_
      rintro e w' ⟨rfl, rfl⟩
      go_wp2_with fail
      go_ret
      exact ⟨ret_b (by rw [HK.out]), rfl⟩
    have hb95 : ((c.toNat : Int) == 95) = false := u8_ne c 95 h95
    by_cases h43 : c = 43
    · have hb43 : ((c.toNat : Int) == 43) = true := u8_eq c 43 h43
      have HK : Hid (K = true) := by show _ = _; rw [hK, h43]; rfl
      clear hK h43
      go_enter Try.func46, Try.ntmps46
      go_wp2_with fail
      refine (RIs_any _ _ _).mono ?_
      rintro e w' ⟨rfl, rfl⟩
      go_wp2_with fail
      go_ret
      exact ⟨ret_b (by rw [HK.out]), rfl⟩
    have hb43 : ((c.toNat : Int) == 43) = false := u8_ne c 43 h43
    by_cases h126 : c = 126
    · have hb126 : ((c.toNat : Int) == 126) = true := u8_eq c 126 h126
      have HK : Hid (K = true) := by show _ = _; rw [hK, h126]; rfl
      clear hK h126
      go_enter Try.func46, Try.ntmps46
      go_wp2_with fail
      refine (RIs_any _ _ _).mono ?_
      rintro e w' ⟨rfl, rfl⟩
      go_wp2_with fail
      go_ret
      exact ⟨ret_b (by rw [HK.out]), rfl⟩
    have hb126 : ((c.toNat : Int) == 126) = false := u8_ne c 126 h126
    by_cases h94 : c = 94
    · have hb94 : ((c.toNat : Int) == 94) = true := u8_eq c 94 h94
      have HK : Hid (K = true) := by show _ = _; rw [hK, h94]; rfl
      clear hK h94
      go_enter Try.func46, Try.ntmps46
      go_wp2_with fail
      refine (RIs_any _ _ _).mono ?_
      rintro e w' ⟨rfl, rfl⟩
      go_wp2_with fail
      go_ret
      exact ⟨ret_b (by rw [HK.out]), rfl⟩
    have hb94 : ((c.toNat : Int) == 94) = false := u8_ne c 94 h94
    have HK : Hid (K = false) := by show _ = _; rw [hK]; simp [h46, h95, h43, h126, h94]
    clear hK h46 h95 h43 h126 h94
    go_enter Try.func46, Try.ntmps46
    go_wp2_with fail
    refine (RIs_any _ _ _).mono ?_
    rintro e w' ⟨rfl, rfl⟩
    go_wp2_with fail
    go_ret
    exact ⟨ret_b (by rw [HK.out]), rfl⟩
  · have HK : Hid (K = true) := by show _ = _; rw [hK, h5]; rfl
    clear hK
    go_enter Try.func46, Try.ntmps46
    go_wp2_with fail
    refine (RIs_any _ _ _).mono ?_
    rintro e w' ⟨rfl, rfl⟩
    go_wp2_with fail
    go_ret
    exact ⟨ret_b (by rw [HK.out]), rfl⟩

set_option maxHeartbeats 1000000 in
theorem Rrun_any (s : ByteArray) (a : Nat) (w : World) (hs : s.size ≤ 9223372036854775000) (ha : a ≤ s.size) :
    Calls Try.prog 25 #[.string s, .int .i64 (a : Int)] w fun e w' => e = .returned (.int .i64 (endR s.data.toList a : Int)) ∧ w' = w := by
  have HW : Hid (endR s.data.toList a = a + twV (s.data.toList.drop a)) := rfl
  go_enter Try.func25, Try.ntmps25
  go_wp2_with fail
  go_loop [1] (fun i => ∃ j : Nat, j ≤ s.size ∧ i = .int .i64 j ∧ Hid (a + twV (s.data.toList.drop a) = j + twV (s.data.toList.drop j))) (fun i => s.size - (intOf i).toNat)
  case atStart => exact ⟨a, ha, rfl, rfl⟩
  case round =>
    obtain ⟨j, hjs, rfl, HR⟩ := hrel
    by_cases hlt : j < s.size
    · have hlt' : (j : Int) < (s.size : Int) := by omega
      have BY := hide (fun w => RByte_any s[j] w)
      cases hc : okV s[j]
      · have H1 : Hid _ := twV_miss s j hlt hc
        generalize okV s[j] = K at *
        go_wp2_with fail
        refine (BY.out _).mono ?_
        rintro e w' ⟨rfl, rfl⟩
        go_wp2_with fail
        go_ret
        exact ⟨ret_i (by have a := HR.out; have b := H1.out; rw [HW.out]; omega), rfl⟩
      · have H1 : Hid _ := twV_hit s j hlt hc
        generalize okV s[j] = K at *
        go_wp2_with fail
        refine (BY.out _).mono ?_
        rintro e w' ⟨rfl, rfl⟩
        go_wp2_with fail
        go_round
        case rel => exact ⟨j + 1, by omega, by go_num, by have a := HR.out; have b := H1.out; show _ = _; omega⟩
        case measure => simp [intOf]; omega
    · have H1 : Hid _ := twV_end s j (by omega)
      have hlt' : ¬ (j : Int) < (s.size : Int) := by omega
      go_wp2_with fail
      go_ret
      exact ⟨ret_i (by have a := HR.out; have b := H1.out; rw [HW.out]; omega), rfl⟩

/-- The error where a part can't begin or go on. -/
def misR (n a : Nat) : Int := if n ≤ a then 11 else 10
theorem misR_in {n a : Nat} (h : a < n) : misR n a = 10 := by unfold misR; rw [if_neg (by omega)]
theorem misR_out {n a : Nat} (h : n ≤ a) : misR n a = 11 := by unfold misR; rw [if_pos h]
theorem fin26 {R : Ending → World → Prop} (tmps : Array Value) (W : World) (B : Nat) (x y : Int)
    (h2 : tmps.getD 4 undef = .pointer (some ⟨B, 0, none⟩))
    (e1 : W.heap[B]? = some (.cells #[.int .i64 x, .int .i64 y] 26 (0, 0)))
    (hR : R (.returned (.agg #[.int .i64 x, .int .i64 y])) W) :
    bodyPost Try.prog Try.f26 R .ret { tmps := tmps, defers := [] } W := by
  have r0 := cell_at 0 e1 rfl
  have r1 := cell_at 1 e1 rfl
  rw [Array.getD_eq_getD_getElem?] at h2
  refine ⟨rfl, _, ?_, hR⟩
  simp [results, Try.results26, go_sem, h2, r0, r1]
  try rfl
set_option maxHeartbeats 1000000 in
theorem Rfault_any (s : ByteArray) (a : Nat) (w : World) :
    Calls Try.prog 26 #[.string s, .int .i64 (a : Int)] w fun e w' => e = .returned (.agg #[.int .i64 (misR s.size a), .int .i64 (a : Int)]) ∧ Below w.heap.size w w' := by
  by_cases h : s.size ≤ a
  · have h' : (s.size : Int) ≤ (a : Int) := by omega
    rw [misR_out h]
    go_enter Try.func26, Try.ntmps26
    go_wp2_with fail
    exact fin26 _ _ w.heap.size 11 a rfl (World.alloc_heap_new w _) ⟨rfl, (Below.refl _ w).alloc (Nat.le_refl _) _⟩
  · have h' : ¬ (s.size : Int) ≤ (a : Int) := by omega
    rw [misR_in (by omega)]
    go_enter Try.func26, Try.ntmps26
    go_wp2_with fail
    exact fin26 _ _ w.heap.size 10 a rfl (World.alloc_heap_new w _) ⟨rfl, (Below.refl _ w).alloc (Nat.le_refl _) _⟩

set_option maxHeartbeats 1000000 in
theorem Rsegments_any (l : List UInt8) (w : World) (hs : l.length ≤ 9223372036854775000) :
    Calls Try.prog 40 #[.string (ofL l)] w fun e w' => e = .returned (.bool (segB l)) ∧ w' = w := by
  have hK : segB l = (!l.isEmpty && (twV l == l.length)) := rfl
  generalize segB l = K at *
  by_cases h : l = []
  · subst h
    have HK : Hid (K = false) := hK
    clear hK
    have e1 : ((ofL []).toList == []) = true := isE
    go_enter Try.func40, Try.ntmps40
    go_wp2_with fail
    go_ret
    exact ⟨ret_b (by rw [HK.out]), rfl⟩
  · have e1 : ((ofL l).toList == []) = false := neE l h
    have he : l.isEmpty = false := by simpa using h
    rw [he] at hK
    have RR := fun w => Rrun_any (ofL l) 0 w (by rw [ofL_size]; exact hs) (Nat.zero_le _)
    rw [ofL_data, show endR l 0 = twV l by unfold endR; simp] at RR
    have RR := hide RR
    have sz := ofL_size l
    clear h he
    generalize twV l = T at *
    by_cases hT : T = l.length
    · have HK : Hid (K = true) := by show _ = _; rw [hK, hT]; simp
      have hb : ((T : Int) == (l.length : Int)) = true := by simp; omega
      clear hK hT
      go_enter Try.func40, Try.ntmps40
      go_wp2_with fail
      refine (RR.out _).mono ?_
      rintro e w' ⟨rfl, rfl⟩
      go_wp2_with fail
      go_ret
      exact ⟨ret_b (by rw [HK.out]), rfl⟩
    · have HK : Hid (K = false) := by show _ = _; rw [hK]; simpa using hT
      have hb : ((T : Int) == (l.length : Int)) = false := by simp; omega
      clear hK hT
      go_enter Try.func40, Try.ntmps40
      go_wp2_with fail
      refine (RR.out _).mono ?_
      rintro e w' ⟨rfl, rfl⟩
      go_wp2_with fail
      go_ret
      exact ⟨ret_b (by rw [HK.out]), rfl⟩

end Go.Proofs.Ytmcabgjcppnihaa
