/-
  Walks: the document's text of a version.
-/
import Derived.Test.YthojcidbhojlhaaDv
import Derived.Test.YthojcidbhojlhaaDr
namespace Go.Proofs.Ythojcidbhojlhaa
open Go.RowKit Go.Shelf
set_option linter.unusedVariables false

/-- Does a colon stand ahead of a place? -/
def colB (l : List UInt8) (j : Nat) : Bool := decide (58 ∈ l.take j)
theorem colB_next (s : ByteArray) (j : Nat) (h : j < s.size) : colB s.data.toList (j + 1) = (colB s.data.toList j || decide (s[j] = 58)) := by
  unfold colB
  have hlt : j < s.data.toList.length := by rw [len_data]; exact h
  rw [List.take_succ_eq_append_getElem hlt, Bool.eq_iff_iff]
  simp only [List.mem_append, List.mem_singleton, decide_eq_true_eq, Bool.or_eq_true]
  have e : s.data.toList[j] = s[j] := rfl
  rw [e]
  constructor
  · rintro (h | h)
    · exact .inl h
    · exact .inr h.symm
  · rintro (h | h)
    · exact .inl h
    · exact .inr h.symm
theorem colB_all (l : List UInt8) : colB l l.length = decide (0 ≤ Lib.indexByte l 58) := by
  unfold colB
  rw [List.take_length, Bool.eq_iff_iff]
  simp only [decide_eq_true_eq]
  have := idx_mem 58 l
  constructor
  · intro h
    by_cases hn : 0 ≤ Lib.indexByte l 58
    · exact hn
    · exact absurd h (this.1 (by omega))
  · intro h
    by_cases hm : 58 ∈ l
    · exact hm
    · have := this.2 hm; omega
theorem cat45' (x r : List UInt8) : ∃ t1 t2 : ByteArray, ofL x ++ (⟨#[45]⟩ : ByteArray) = t1 ∧ t1 ++ ofL r = t2 ∧ t2 = ofL (x ++ 45 :: r) ∧ t1.size = x.length + 1 ∧ t2.size = x.length + 1 + r.length := by
  obtain ⟨t1, e1, s1, d1⟩ := cat_step (ofL x) ⟨#[45]⟩
  obtain ⟨t2, e2, s2, d2⟩ := cat_step t1 (ofL r)
  refine ⟨t1, t2, e1, e2, ba_ext ?_, ?_, ?_⟩
  · rw [d2, d1, ofL_data, ofL_data, ofL_data]; simp
  · rw [s1, ofL_size]; rfl
  · rw [s2, s1, ofL_size, ofL_size]; rfl

set_option maxRecDepth 100000 in
set_option maxHeartbeats 1000000 in
theorem text_A0 (v : DebL) (w : World) (hs : Sz v) (he : v.ep ≠ [48]) (hr : v.rev = []) :
    Calls Try.prog 38 #[verV v] w fun e w' => e = .returned (.string (ofL (writeL v))) ∧ Below w.heap.size w w' := by
  obtain ⟨l1, l2, l3⟩ := hs
  have hd : v.ep ≠ [48] ∨ 0 ≤ Lib.indexByte v.up 58 := .inl he
  have heb := eq48 v.ep false (by simpa using he)
  clear he
  obtain ⟨t1, t2, e1, e2, f2, s1, s2⟩ := cat58 v.ep v.up
  have hrb := eqNil v.rev true (by rw [hr]; rfl)
  have HW : Hid (writeL v = v.ep ++ 58 :: v.up) := by show _ = _; unfold writeL headL; rw [if_pos hr, if_pos hd, List.append_nil]
  have F2 := hide f2
  clear f2
  have q1 := ofL_size v.ep
  have q2 := ofL_size v.up
  have q3 := ofL_size v.rev
  have HN : Hid (∀ (j : Nat) (h : j < v.up.length), colB v.up (j + 1) = (colB v.up j || decide ((ofL v.up)[j]'(by rw [ofL_size]; exact h) = 58))) := fun j h => by
    have := colB_next (ofL v.up) j (by rw [ofL_size]; exact h)
    rwa [ofL_data] at this
  have HA : Hid (∀ j : Nat, v.up.length = j → colB v.up j = decide (0 ≤ Lib.indexByte v.up 58)) := fun j h => by rw [← h]; exact colB_all v.up
  unfold verV
  clear hr hd
  go_enter Try.func38, Try.ntmps38
  go_wp2_with fail
  go_loop [4, 5] (fun c i => ∃ j : Nat, j ≤ v.up.length ∧ i = .int .i64 j ∧ c = .bool (colB v.up j)) (fun _ i => v.up.length - (intOf i).toNat)
  case atStart => exact ⟨0, by omega, rfl, rfl⟩
  case round =>
    obtain ⟨j, hj, rfl, rfl⟩ := hrel
    by_cases hlt : j < v.up.length
    · have hlt' : (j : Int) < (v.up.length : Int) := by omega
      have hsz : j < (ofL v.up).size := by rw [ofL_size]; exact hlt
      have hX := HN.out j hlt
      cases hc : colB v.up j
      · rw [hc, Bool.false_or] at hX
        have hb : (((ofL v.up)[j].toNat : Int) == 58) = colB v.up (j + 1) := by
          rw [hX, Bool.eq_iff_iff]; simp only [beq_iff_eq, decide_eq_true_eq]
          exact ⟨fun h => UInt8.toNat_inj.1 (by show _ = 58; omega), fun h => by rw [h]; rfl⟩
        obtain ⟨c1, hc1⟩ : ∃ c1, colB v.up (j + 1) = c1 := ⟨_, rfl⟩
        rw [hc1] at hb
        have HX := hide hc1
        clear hX hc hc1
        go_wp2_with fail
        go_round
        case rel => exact ⟨j + 1, by omega, by go_num, by rw [HX.out]⟩
        case measure => simp [intOf]; omega
      · rw [hc, Bool.true_or] at hX
        have HX := hide hX
        clear hX hc
        go_wp2_with fail
        go_round
        case rel => exact ⟨j + 1, by omega, by go_num, by rw [HX.out]⟩
        case measure => simp [intOf]; omega
    · have hlt' : ¬ (j : Int) < (v.up.length : Int) := by omega
      rw [HA.out j (by omega)]
      go_wp2_with fail
      go_ret
      exact ⟨ret_s (by rw [HW.out, ← F2.out]), (Below.refl _ w).alloc (Nat.le_refl _) _⟩

set_option maxRecDepth 100000 in
set_option maxHeartbeats 1000000 in
theorem text_A1 (v : DebL) (w : World) (hs : Sz v) (he : v.ep ≠ [48]) (hr : v.rev ≠ []) :
    Calls Try.prog 38 #[verV v] w fun e w' => e = .returned (.string (ofL (writeL v))) ∧ Below w.heap.size w w' := by
  obtain ⟨l1, l2, l3⟩ := hs
  have hd : v.ep ≠ [48] ∨ 0 ≤ Lib.indexByte v.up 58 := .inl he
  have heb := eq48 v.ep false (by simpa using he)
  clear he
  obtain ⟨t1, t2, e1, e2, f2, s1, s2⟩ := cat58 v.ep v.up
  have hrb := eqNil v.rev false (by simpa using hr)
  have HW : Hid (writeL v = v.ep ++ 58 :: v.up ++ 45 :: v.rev) := by show _ = _; unfold writeL headL; rw [if_neg hr, if_pos hd]
  obtain ⟨u1, u2, g1, g2, k2, z1, z2⟩ := cat45' (v.ep ++ 58 :: v.up) v.rev
  rw [← f2] at g1
  rw [List.length_append, List.length_cons] at z1 z2
  have F2 := hide f2
  clear f2
  have K2 := hide k2
  clear k2
  have q1 := ofL_size v.ep
  have q2 := ofL_size v.up
  have q3 := ofL_size v.rev
  have HN : Hid (∀ (j : Nat) (h : j < v.up.length), colB v.up (j + 1) = (colB v.up j || decide ((ofL v.up)[j]'(by rw [ofL_size]; exact h) = 58))) := fun j h => by
    have := colB_next (ofL v.up) j (by rw [ofL_size]; exact h)
    rwa [ofL_data] at this
  have HA : Hid (∀ j : Nat, v.up.length = j → colB v.up j = decide (0 ≤ Lib.indexByte v.up 58)) := fun j h => by rw [← h]; exact colB_all v.up
  unfold verV
  clear hr hd
  go_enter Try.func38, Try.ntmps38
  go_wp2_with fail
  go_loop [4, 5] (fun c i => ∃ j : Nat, j ≤ v.up.length ∧ i = .int .i64 j ∧ c = .bool (colB v.up j)) (fun _ i => v.up.length - (intOf i).toNat)
  case atStart => exact ⟨0, by omega, rfl, rfl⟩
  case round =>
    obtain ⟨j, hj, rfl, rfl⟩ := hrel
    by_cases hlt : j < v.up.length
    · have hlt' : (j : Int) < (v.up.length : Int) := by omega
      have hsz : j < (ofL v.up).size := by rw [ofL_size]; exact hlt
      have hX := HN.out j hlt
      cases hc : colB v.up j
      · rw [hc, Bool.false_or] at hX
        have hb : (((ofL v.up)[j].toNat : Int) == 58) = colB v.up (j + 1) := by
          rw [hX, Bool.eq_iff_iff]; simp only [beq_iff_eq, decide_eq_true_eq]
          exact ⟨fun h => UInt8.toNat_inj.1 (by show _ = 58; omega), fun h => by rw [h]; rfl⟩
        obtain ⟨c1, hc1⟩ : ∃ c1, colB v.up (j + 1) = c1 := ⟨_, rfl⟩
        rw [hc1] at hb
        have HX := hide hc1
        clear hX hc hc1
        go_wp2_with fail
        go_round
        case rel => exact ⟨j + 1, by omega, by go_num, by rw [HX.out]⟩
        case measure => simp [intOf]; omega
      · rw [hc, Bool.true_or] at hX
        have HX := hide hX
        clear hX hc
        go_wp2_with fail
        go_round
        case rel => exact ⟨j + 1, by omega, by go_num, by rw [HX.out]⟩
        case measure => simp [intOf]; omega
    · have hlt' : ¬ (j : Int) < (v.up.length : Int) := by omega
      rw [HA.out j (by omega)]
      go_wp2_with fail
      go_ret
      exact ⟨ret_s (by rw [HW.out, ← K2.out]), (Below.refl _ w).alloc (Nat.le_refl _) _⟩

set_option maxRecDepth 100000 in
set_option maxHeartbeats 1000000 in
theorem text_B0 (v : DebL) (w : World) (hs : Sz v) (he : v.ep = [48]) (hh : 0 ≤ Lib.indexByte v.up 58) (hr : v.rev = []) :
    Calls Try.prog 38 #[verV v] w fun e w' => e = .returned (.string (ofL (writeL v))) ∧ Below w.heap.size w w' := by
  obtain ⟨l1, l2, l3⟩ := hs
  have hd : v.ep ≠ [48] ∨ 0 ≤ Lib.indexByte v.up 58 := .inr hh
  have heb := eq48 v.ep true (by rw [he]; rfl)
  clear he
  obtain ⟨t1, t2, e1, e2, f2, s1, s2⟩ := cat58 v.ep v.up
  have hrb := eqNil v.rev true (by rw [hr]; rfl)
  have HW : Hid (writeL v = v.ep ++ 58 :: v.up) := by show _ = _; unfold writeL headL; rw [if_pos hr, if_pos hd, List.append_nil]
  have F2 := hide f2
  clear f2
  have q1 := ofL_size v.ep
  have q2 := ofL_size v.up
  have q3 := ofL_size v.rev
  have HN : Hid (∀ (j : Nat) (h : j < v.up.length), colB v.up (j + 1) = (colB v.up j || decide ((ofL v.up)[j]'(by rw [ofL_size]; exact h) = 58))) := fun j h => by
    have := colB_next (ofL v.up) j (by rw [ofL_size]; exact h)
    rwa [ofL_data] at this
  have HA : Hid (∀ j : Nat, v.up.length = j → colB v.up j = decide (0 ≤ Lib.indexByte v.up 58)) := fun j h => by rw [← h]; exact colB_all v.up
  unfold verV
  clear hr hd
  go_enter Try.func38, Try.ntmps38
  go_wp2_with fail
  go_loop [4, 5] (fun c i => ∃ j : Nat, j ≤ v.up.length ∧ i = .int .i64 j ∧ c = .bool (colB v.up j)) (fun _ i => v.up.length - (intOf i).toNat)
  case atStart => exact ⟨0, by omega, rfl, rfl⟩
  case round =>
    obtain ⟨j, hj, rfl, rfl⟩ := hrel
    by_cases hlt : j < v.up.length
    · have hlt' : (j : Int) < (v.up.length : Int) := by omega
      have hsz : j < (ofL v.up).size := by rw [ofL_size]; exact hlt
      have hX := HN.out j hlt
      cases hc : colB v.up j
      · rw [hc, Bool.false_or] at hX
        have hb : (((ofL v.up)[j].toNat : Int) == 58) = colB v.up (j + 1) := by
          rw [hX, Bool.eq_iff_iff]; simp only [beq_iff_eq, decide_eq_true_eq]
          exact ⟨fun h => UInt8.toNat_inj.1 (by show _ = 58; omega), fun h => by rw [h]; rfl⟩
        obtain ⟨c1, hc1⟩ : ∃ c1, colB v.up (j + 1) = c1 := ⟨_, rfl⟩
        rw [hc1] at hb
        have HX := hide hc1
        clear hX hc hc1
        go_wp2_with fail
        go_round
        case rel => exact ⟨j + 1, by omega, by go_num, by rw [HX.out]⟩
        case measure => simp [intOf]; omega
      · rw [hc, Bool.true_or] at hX
        have HX := hide hX
        clear hX hc
        go_wp2_with fail
        go_round
        case rel => exact ⟨j + 1, by omega, by go_num, by rw [HX.out]⟩
        case measure => simp [intOf]; omega
    · have hlt' : ¬ (j : Int) < (v.up.length : Int) := by omega
      rw [HA.out j (by omega), decide_eq_true hh]
      go_wp2_with fail
      go_ret
      exact ⟨ret_s (by rw [HW.out, ← F2.out]), (Below.refl _ w).alloc (Nat.le_refl _) _⟩

set_option maxRecDepth 100000 in
set_option maxHeartbeats 1000000 in
theorem text_B1 (v : DebL) (w : World) (hs : Sz v) (he : v.ep = [48]) (hh : 0 ≤ Lib.indexByte v.up 58) (hr : v.rev ≠ []) :
    Calls Try.prog 38 #[verV v] w fun e w' => e = .returned (.string (ofL (writeL v))) ∧ Below w.heap.size w w' := by
  obtain ⟨l1, l2, l3⟩ := hs
  have hd : v.ep ≠ [48] ∨ 0 ≤ Lib.indexByte v.up 58 := .inr hh
  have heb := eq48 v.ep true (by rw [he]; rfl)
  clear he
  obtain ⟨t1, t2, e1, e2, f2, s1, s2⟩ := cat58 v.ep v.up
  have hrb := eqNil v.rev false (by simpa using hr)
  have HW : Hid (writeL v = v.ep ++ 58 :: v.up ++ 45 :: v.rev) := by show _ = _; unfold writeL headL; rw [if_neg hr, if_pos hd]
  obtain ⟨u1, u2, g1, g2, k2, z1, z2⟩ := cat45' (v.ep ++ 58 :: v.up) v.rev
  rw [← f2] at g1
  rw [List.length_append, List.length_cons] at z1 z2
  have F2 := hide f2
  clear f2
  have K2 := hide k2
  clear k2
  have q1 := ofL_size v.ep
  have q2 := ofL_size v.up
  have q3 := ofL_size v.rev
  have HN : Hid (∀ (j : Nat) (h : j < v.up.length), colB v.up (j + 1) = (colB v.up j || decide ((ofL v.up)[j]'(by rw [ofL_size]; exact h) = 58))) := fun j h => by
    have := colB_next (ofL v.up) j (by rw [ofL_size]; exact h)
    rwa [ofL_data] at this
  have HA : Hid (∀ j : Nat, v.up.length = j → colB v.up j = decide (0 ≤ Lib.indexByte v.up 58)) := fun j h => by rw [← h]; exact colB_all v.up
  unfold verV
  clear hr hd
  go_enter Try.func38, Try.ntmps38
  go_wp2_with fail
  go_loop [4, 5] (fun c i => ∃ j : Nat, j ≤ v.up.length ∧ i = .int .i64 j ∧ c = .bool (colB v.up j)) (fun _ i => v.up.length - (intOf i).toNat)
  case atStart => exact ⟨0, by omega, rfl, rfl⟩
  case round =>
    obtain ⟨j, hj, rfl, rfl⟩ := hrel
    by_cases hlt : j < v.up.length
    · have hlt' : (j : Int) < (v.up.length : Int) := by omega
      have hsz : j < (ofL v.up).size := by rw [ofL_size]; exact hlt
      have hX := HN.out j hlt
      cases hc : colB v.up j
      · rw [hc, Bool.false_or] at hX
        have hb : (((ofL v.up)[j].toNat : Int) == 58) = colB v.up (j + 1) := by
          rw [hX, Bool.eq_iff_iff]; simp only [beq_iff_eq, decide_eq_true_eq]
          exact ⟨fun h => UInt8.toNat_inj.1 (by show _ = 58; omega), fun h => by rw [h]; rfl⟩
        obtain ⟨c1, hc1⟩ : ∃ c1, colB v.up (j + 1) = c1 := ⟨_, rfl⟩
        rw [hc1] at hb
        have HX := hide hc1
        clear hX hc hc1
        go_wp2_with fail
        go_round
        case rel => exact ⟨j + 1, by omega, by go_num, by rw [HX.out]⟩
        case measure => simp [intOf]; omega
      · rw [hc, Bool.true_or] at hX
        have HX := hide hX
        clear hX hc
        go_wp2_with fail
        go_round
        case rel => exact ⟨j + 1, by omega, by go_num, by rw [HX.out]⟩
        case measure => simp [intOf]; omega
    · have hlt' : ¬ (j : Int) < (v.up.length : Int) := by omega
      rw [HA.out j (by omega), decide_eq_true hh]
      go_wp2_with fail
      go_ret
      exact ⟨ret_s (by rw [HW.out, ← K2.out]), (Below.refl _ w).alloc (Nat.le_refl _) _⟩

set_option maxRecDepth 100000 in
set_option maxHeartbeats 1000000 in
theorem text_C0 (v : DebL) (w : World) (hs : Sz v) (he : v.ep = [48]) (hh : ¬ 0 ≤ Lib.indexByte v.up 58) (hr : v.rev = []) :
    Calls Try.prog 38 #[verV v] w fun e w' => e = .returned (.string (ofL (writeL v))) ∧ Below w.heap.size w w' := by
  obtain ⟨l1, l2, l3⟩ := hs
  have hd : ¬ (v.ep ≠ [48] ∨ 0 ≤ Lib.indexByte v.up 58) := by rintro (h | h); exact h he; exact hh h
  have heb := eq48 v.ep true (by rw [he]; rfl)
  clear he
  have hrb := eqNil v.rev true (by rw [hr]; rfl)
  have HW : Hid (writeL v = v.up) := by show _ = _; unfold writeL headL; rw [if_pos hr, if_neg hd, List.append_nil]
  have q1 := ofL_size v.ep
  have q2 := ofL_size v.up
  have q3 := ofL_size v.rev
  have HN : Hid (∀ (j : Nat) (h : j < v.up.length), colB v.up (j + 1) = (colB v.up j || decide ((ofL v.up)[j]'(by rw [ofL_size]; exact h) = 58))) := fun j h => by
    have := colB_next (ofL v.up) j (by rw [ofL_size]; exact h)
    rwa [ofL_data] at this
  have HA : Hid (∀ j : Nat, v.up.length = j → colB v.up j = decide (0 ≤ Lib.indexByte v.up 58)) := fun j h => by rw [← h]; exact colB_all v.up
  unfold verV
  clear hr hd
  go_enter Try.func38, Try.ntmps38
  go_wp2_with fail
  go_loop [4, 5] (fun c i => ∃ j : Nat, j ≤ v.up.length ∧ i = .int .i64 j ∧ c = .bool (colB v.up j)) (fun _ i => v.up.length - (intOf i).toNat)
  case atStart => exact ⟨0, by omega, rfl, rfl⟩
  case round =>
    obtain ⟨j, hj, rfl, rfl⟩ := hrel
    by_cases hlt : j < v.up.length
    · have hlt' : (j : Int) < (v.up.length : Int) := by omega
      have hsz : j < (ofL v.up).size := by rw [ofL_size]; exact hlt
      have hX := HN.out j hlt
      cases hc : colB v.up j
      · rw [hc, Bool.false_or] at hX
        have hb : (((ofL v.up)[j].toNat : Int) == 58) = colB v.up (j + 1) := by
          rw [hX, Bool.eq_iff_iff]; simp only [beq_iff_eq, decide_eq_true_eq]
          exact ⟨fun h => UInt8.toNat_inj.1 (by show _ = 58; omega), fun h => by rw [h]; rfl⟩
        obtain ⟨c1, hc1⟩ : ∃ c1, colB v.up (j + 1) = c1 := ⟨_, rfl⟩
        rw [hc1] at hb
        have HX := hide hc1
        clear hX hc hc1
        go_wp2_with fail
        go_round
        case rel => exact ⟨j + 1, by omega, by go_num, by rw [HX.out]⟩
        case measure => simp [intOf]; omega
      · rw [hc, Bool.true_or] at hX
        have HX := hide hX
        clear hX hc
        go_wp2_with fail
        go_round
        case rel => exact ⟨j + 1, by omega, by go_num, by rw [HX.out]⟩
        case measure => simp [intOf]; omega
    · have hlt' : ¬ (j : Int) < (v.up.length : Int) := by omega
      rw [HA.out j (by omega), decide_eq_false (show ¬ 0 ≤ Lib.indexByte v.up 58 by omega)]
      go_wp2_with fail
      go_ret
      exact ⟨ret_s (by rw [HW.out]), (Below.refl _ w).alloc (Nat.le_refl _) _⟩

set_option maxRecDepth 100000 in
set_option maxHeartbeats 1000000 in
theorem text_C1 (v : DebL) (w : World) (hs : Sz v) (he : v.ep = [48]) (hh : ¬ 0 ≤ Lib.indexByte v.up 58) (hr : v.rev ≠ []) :
    Calls Try.prog 38 #[verV v] w fun e w' => e = .returned (.string (ofL (writeL v))) ∧ Below w.heap.size w w' := by
  obtain ⟨l1, l2, l3⟩ := hs
  have hd : ¬ (v.ep ≠ [48] ∨ 0 ≤ Lib.indexByte v.up 58) := by rintro (h | h); exact h he; exact hh h
  have heb := eq48 v.ep true (by rw [he]; rfl)
  clear he
  have hrb := eqNil v.rev false (by simpa using hr)
  have HW : Hid (writeL v = v.up ++ 45 :: v.rev) := by show _ = _; unfold writeL headL; rw [if_neg hr, if_neg hd]
  obtain ⟨u1, u2, g1, g2, k2, z1, z2⟩ := cat45' (v.up) v.rev
  have K2 := hide k2
  clear k2
  have q1 := ofL_size v.ep
  have q2 := ofL_size v.up
  have q3 := ofL_size v.rev
  have HN : Hid (∀ (j : Nat) (h : j < v.up.length), colB v.up (j + 1) = (colB v.up j || decide ((ofL v.up)[j]'(by rw [ofL_size]; exact h) = 58))) := fun j h => by
    have := colB_next (ofL v.up) j (by rw [ofL_size]; exact h)
    rwa [ofL_data] at this
  have HA : Hid (∀ j : Nat, v.up.length = j → colB v.up j = decide (0 ≤ Lib.indexByte v.up 58)) := fun j h => by rw [← h]; exact colB_all v.up
  unfold verV
  clear hr hd
  go_enter Try.func38, Try.ntmps38
  go_wp2_with fail
  go_loop [4, 5] (fun c i => ∃ j : Nat, j ≤ v.up.length ∧ i = .int .i64 j ∧ c = .bool (colB v.up j)) (fun _ i => v.up.length - (intOf i).toNat)
  case atStart => exact ⟨0, by omega, rfl, rfl⟩
  case round =>
    obtain ⟨j, hj, rfl, rfl⟩ := hrel
    by_cases hlt : j < v.up.length
    · have hlt' : (j : Int) < (v.up.length : Int) := by omega
      have hsz : j < (ofL v.up).size := by rw [ofL_size]; exact hlt
      have hX := HN.out j hlt
      cases hc : colB v.up j
      · rw [hc, Bool.false_or] at hX
        have hb : (((ofL v.up)[j].toNat : Int) == 58) = colB v.up (j + 1) := by
          rw [hX, Bool.eq_iff_iff]; simp only [beq_iff_eq, decide_eq_true_eq]
          exact ⟨fun h => UInt8.toNat_inj.1 (by show _ = 58; omega), fun h => by rw [h]; rfl⟩
        obtain ⟨c1, hc1⟩ : ∃ c1, colB v.up (j + 1) = c1 := ⟨_, rfl⟩
        rw [hc1] at hb
        have HX := hide hc1
        clear hX hc hc1
        go_wp2_with fail
        go_round
        case rel => exact ⟨j + 1, by omega, by go_num, by rw [HX.out]⟩
        case measure => simp [intOf]; omega
      · rw [hc, Bool.true_or] at hX
        have HX := hide hX
        clear hX hc
        go_wp2_with fail
        go_round
        case rel => exact ⟨j + 1, by omega, by go_num, by rw [HX.out]⟩
        case measure => simp [intOf]; omega
    · have hlt' : ¬ (j : Int) < (v.up.length : Int) := by omega
      rw [HA.out j (by omega), decide_eq_false (show ¬ 0 ≤ Lib.indexByte v.up 58 by omega)]
      go_wp2_with fail
      go_ret
      exact ⟨ret_s (by rw [HW.out, ← K2.out]), (Below.refl _ w).alloc (Nat.le_refl _) _⟩

theorem Rtext_any (v : DebL) (w : World) (hs : Sz v) :
    Calls Try.prog 38 #[verV v] w fun e w' => e = .returned (.string (ofL (writeL v))) ∧ Below w.heap.size w w' := by
  by_cases hr : v.rev = []
  · by_cases he : v.ep = [48]
    · by_cases hh : 0 ≤ Lib.indexByte v.up 58
      · exact text_B0 v w hs he hh hr
      · exact text_C0 v w hs he hh hr
    · exact text_A0 v w hs he hr
  · by_cases he : v.ep = [48]
    · by_cases hh : 0 ≤ Lib.indexByte v.up 58
      · exact text_B1 v w hs he hh hr
      · exact text_C1 v w hs he hh hr
    · exact text_A1 v w hs he hr

end Go.Proofs.Ythojcidbhojlhaa
