/-
  Walks: a version's text; which versions are fit.
-/
import Derived.Test.YthojcidbhojlhaaDj
import Derived.Test.YthojcidbhojlhaaLu
namespace Go.Proofs.Ythojcidbhojlhaa
open Go.RowKit Go.Shelf
set_option linter.unusedVariables false

/-- As long as what comes in may be. -/
def Sz (v : DebL) : Prop := v.ep.length ≤ 140737488351232 ∧ v.up.length ≤ 140737488351232 ∧ v.rev.length ≤ 140737488351232
theorem eq48 (l : List UInt8) (b : Bool) (h : (l == [48]) = b) : ((ofL l).toList == [48]) = b := by rw [toL, ofL_data]; exact h
theorem eqNil (l : List UInt8) (b : Bool) (h : (l == []) = b) : ((ofL l).toList == []) = b := by rw [toL, ofL_data]; exact h
theorem cat58 (a b : List UInt8) : ∃ t1 t2 : ByteArray, ofL a ++ ⟨#[58]⟩ = t1 ∧ t1 ++ ofL b = t2 ∧ t2 = ofL (a ++ 58 :: b) ∧ t1.size = a.length + 1 ∧ t2.size = a.length + 1 + b.length := by
  obtain ⟨t1, e1, s1, d1⟩ := cat_step (ofL a) ⟨#[58]⟩
  obtain ⟨t2, e2, s2, d2⟩ := cat_step t1 (ofL b)
  refine ⟨t1, t2, e1, e2, ba_ext ?_, ?_, ?_⟩
  · rw [d2, d1, ofL_data, ofL_data, ofL_data]; simp
  · rw [s1, ofL_size]; rfl
  · rw [s2, s1, ofL_size, ofL_size]; rfl
theorem cat45 (x r : List UInt8) : ∃ t1 t2 : ByteArray, (⟨#[45]⟩ : ByteArray) ++ ofL r = t1 ∧ ofL x ++ t1 = t2 ∧ t2 = ofL (x ++ 45 :: r) ∧ t1.size = 1 + r.length ∧ t2.size = x.length + (1 + r.length) := by
  obtain ⟨t1, e1, s1, d1⟩ := cat_step ⟨#[45]⟩ (ofL r)
  obtain ⟨t2, e2, s2, d2⟩ := cat_step (ofL x) t1
  refine ⟨t1, t2, e1, e2, ba_ext ?_, ?_, ?_⟩
  · rw [d2, d1, ofL_data, ofL_data, ofL_data]; simp
  · rw [s1, ofL_size]; rfl
  · rw [s2, s1, ofL_size, ofL_size]; rfl

set_option maxRecDepth 100000 in
set_option maxHeartbeats 1000000 in
theorem write_A0 (v : DebL) (w : World) (hs : Sz v) (he : v.ep ≠ [48]) (hr : v.rev = []) :
    Calls Try.prog 33 #[verV v] w fun e w' => e = .returned (.string (ofL (writeL v))) ∧ Below w.heap.size w w' := by
  obtain ⟨l1, l2, l3⟩ := hs
  have hd : v.ep ≠ [48] ∨ 0 ≤ Lib.indexByte v.up 58 := .inl he
  have heb := eq48 v.ep false (by simpa using he)
  clear he
  obtain ⟨t1, t2, e1, e2, f2, s1, s2⟩ := cat58 v.ep v.up
  have hrb := eqNil v.rev true (by rw [hr]; rfl)
  have HW : Hid (writeL v = v.ep ++ 58 :: v.up) := by show _ = _; unfold writeL headL; rw [if_pos hr, if_pos hd, List.append_nil]
  have F2 := hide f2
  clear f2
  have q1 := ofL_size v.ep
  have q2 := ofL_size v.up
  have q3 := ofL_size v.rev
  unfold verV
  clear hr hd
  go_enter Try.func33, Try.ntmps33
  go_wp2_with fail
  go_ret
  exact ⟨ret_s (by rw [HW.out, ← F2.out]), (Below.refl _ w).alloc (Nat.le_refl _) _⟩

set_option maxRecDepth 100000 in
set_option maxHeartbeats 1000000 in
theorem write_A1 (v : DebL) (w : World) (hs : Sz v) (he : v.ep ≠ [48]) (hr : v.rev ≠ []) :
    Calls Try.prog 33 #[verV v] w fun e w' => e = .returned (.string (ofL (writeL v))) ∧ Below w.heap.size w w' := by
  obtain ⟨l1, l2, l3⟩ := hs
  have hd : v.ep ≠ [48] ∨ 0 ≤ Lib.indexByte v.up 58 := .inl he
  have heb := eq48 v.ep false (by simpa using he)
  clear he
  obtain ⟨t1, t2, e1, e2, f2, s1, s2⟩ := cat58 v.ep v.up
  have hrb := eqNil v.rev false (by simpa using hr)
  have HW : Hid (writeL v = v.ep ++ 58 :: v.up ++ 45 :: v.rev) := by show _ = _; unfold writeL headL; rw [if_neg hr, if_pos hd]
  obtain ⟨u1, u2, g1, g2, k2, z1, z2⟩ := cat45 (v.ep ++ 58 :: v.up) v.rev
  rw [← f2] at g2
  rw [List.length_append, List.length_cons] at z2
  have F2 := hide f2
  clear f2
  have K2 := hide k2
  clear k2
  have q1 := ofL_size v.ep
  have q2 := ofL_size v.up
  have q3 := ofL_size v.rev
  unfold verV
  clear hr hd
  go_enter Try.func33, Try.ntmps33
  go_wp2_with fail
  go_ret
  exact ⟨ret_s (by rw [HW.out, ← K2.out]), (Below.refl _ w).alloc (Nat.le_refl _) _⟩

set_option maxRecDepth 100000 in
set_option maxHeartbeats 1000000 in
theorem write_B0 (v : DebL) (w : World) (hs : Sz v) (he : v.ep = [48]) (hh : 0 ≤ Lib.indexByte v.up 58) (hr : v.rev = []) :
    Calls Try.prog 33 #[verV v] w fun e w' => e = .returned (.string (ofL (writeL v))) ∧ Below w.heap.size w w' := by
  obtain ⟨l1, l2, l3⟩ := hs
  have hd : v.ep ≠ [48] ∨ 0 ≤ Lib.indexByte v.up 58 := .inr hh
  have heb := eq48 v.ep true (by rw [he]; rfl)
  clear he
  have IX := fun w => IndexByteS_any (ofL v.up) 58 w
  rw [ofL_data] at IX
  change ∀ w, Calls Try.prog 53 _ w fun e w' => e = .returned (.int .i64 (Lib.indexByte v.up 58)) ∧ w' = w at IX
  have IX := hide IX
  have hh' := hh
  obtain ⟨t1, t2, e1, e2, f2, s1, s2⟩ := cat58 v.ep v.up
  have hrb := eqNil v.rev true (by rw [hr]; rfl)
  have HW : Hid (writeL v = v.ep ++ 58 :: v.up) := by show _ = _; unfold writeL headL; rw [if_pos hr, if_pos hd, List.append_nil]
  have F2 := hide f2
  clear f2
  have q1 := ofL_size v.ep
  have q2 := ofL_size v.up
  have q3 := ofL_size v.rev
  unfold verV
  clear hr hd hh
  go_enter Try.func33, Try.ntmps33
  go_wp2_with fail
  refine (IX.out _).mono ?_
  rintro e w' ⟨rfl, hw'⟩
  rw [hw']
  clear hw' w'
  go_wp2_with fail
  go_ret
  exact ⟨ret_s (by rw [HW.out, ← F2.out]), (Below.refl _ w).alloc (Nat.le_refl _) _⟩

set_option maxRecDepth 100000 in
set_option maxHeartbeats 1000000 in
theorem write_B1 (v : DebL) (w : World) (hs : Sz v) (he : v.ep = [48]) (hh : 0 ≤ Lib.indexByte v.up 58) (hr : v.rev ≠ []) :
    Calls Try.prog 33 #[verV v] w fun e w' => e = .returned (.string (ofL (writeL v))) ∧ Below w.heap.size w w' := by
  obtain ⟨l1, l2, l3⟩ := hs
  have hd : v.ep ≠ [48] ∨ 0 ≤ Lib.indexByte v.up 58 := .inr hh
  have heb := eq48 v.ep true (by rw [he]; rfl)
  clear he
  have IX := fun w => IndexByteS_any (ofL v.up) 58 w
  rw [ofL_data] at IX
  change ∀ w, Calls Try.prog 53 _ w fun e w' => e = .returned (.int .i64 (Lib.indexByte v.up 58)) ∧ w' = w at IX
  have IX := hide IX
  have hh' := hh
  obtain ⟨t1, t2, e1, e2, f2, s1, s2⟩ := cat58 v.ep v.up
  have hrb := eqNil v.rev false (by simpa using hr)
  have HW : Hid (writeL v = v.ep ++ 58 :: v.up ++ 45 :: v.rev) := by show _ = _; unfold writeL headL; rw [if_neg hr, if_pos hd]
  obtain ⟨u1, u2, g1, g2, k2, z1, z2⟩ := cat45 (v.ep ++ 58 :: v.up) v.rev
  rw [← f2] at g2
  rw [List.length_append, List.length_cons] at z2
  have F2 := hide f2
  clear f2
  have K2 := hide k2
  clear k2
  have q1 := ofL_size v.ep
  have q2 := ofL_size v.up
  have q3 := ofL_size v.rev
  unfold verV
  clear hr hd hh
  go_enter Try.func33, Try.ntmps33
  go_wp2_with fail
  refine (IX.out _).mono ?_
  rintro e w' ⟨rfl, hw'⟩
  rw [hw']
  clear hw' w'
  go_wp2_with fail
  go_ret
  exact ⟨ret_s (by rw [HW.out, ← K2.out]), (Below.refl _ w).alloc (Nat.le_refl _) _⟩

set_option maxRecDepth 100000 in
set_option maxHeartbeats 1000000 in
theorem write_C0 (v : DebL) (w : World) (hs : Sz v) (he : v.ep = [48]) (hh : ¬ 0 ≤ Lib.indexByte v.up 58) (hr : v.rev = []) :
    Calls Try.prog 33 #[verV v] w fun e w' => e = .returned (.string (ofL (writeL v))) ∧ Below w.heap.size w w' := by
  obtain ⟨l1, l2, l3⟩ := hs
  have hd : ¬ (v.ep ≠ [48] ∨ 0 ≤ Lib.indexByte v.up 58) := by rintro (h | h); exact h he; exact hh h
  have heb := eq48 v.ep true (by rw [he]; rfl)
  clear he
  have IX := fun w => IndexByteS_any (ofL v.up) 58 w
  rw [ofL_data] at IX
  change ∀ w, Calls Try.prog 53 _ w fun e w' => e = .returned (.int .i64 (Lib.indexByte v.up 58)) ∧ w' = w at IX
  have IX := hide IX
  have hh' : ¬ 0 ≤ Lib.indexByte v.up 58 := hh
  have hrb := eqNil v.rev true (by rw [hr]; rfl)
  have HW : Hid (writeL v = v.up) := by show _ = _; unfold writeL headL; rw [if_pos hr, if_neg hd, List.append_nil]
  have q1 := ofL_size v.ep
  have q2 := ofL_size v.up
  have q3 := ofL_size v.rev
  unfold verV
  clear hr hd hh
  go_enter Try.func33, Try.ntmps33
  go_wp2_with fail
  refine (IX.out _).mono ?_
  rintro e w' ⟨rfl, hw'⟩
  rw [hw']
  clear hw' w'
  go_wp2_with fail
  go_ret
  exact ⟨ret_s (by rw [HW.out]), (Below.refl _ w).alloc (Nat.le_refl _) _⟩

set_option maxRecDepth 100000 in
set_option maxHeartbeats 1000000 in
theorem write_C1 (v : DebL) (w : World) (hs : Sz v) (he : v.ep = [48]) (hh : ¬ 0 ≤ Lib.indexByte v.up 58) (hr : v.rev ≠ []) :
    Calls Try.prog 33 #[verV v] w fun e w' => e = .returned (.string (ofL (writeL v))) ∧ Below w.heap.size w w' := by
  obtain ⟨l1, l2, l3⟩ := hs
  have hd : ¬ (v.ep ≠ [48] ∨ 0 ≤ Lib.indexByte v.up 58) := by rintro (h | h); exact h he; exact hh h
  have heb := eq48 v.ep true (by rw [he]; rfl)
  clear he
  have IX := fun w => IndexByteS_any (ofL v.up) 58 w
  rw [ofL_data] at IX
  change ∀ w, Calls Try.prog 53 _ w fun e w' => e = .returned (.int .i64 (Lib.indexByte v.up 58)) ∧ w' = w at IX
  have IX := hide IX
  have hh' : ¬ 0 ≤ Lib.indexByte v.up 58 := hh
  have hrb := eqNil v.rev false (by simpa using hr)
  have HW : Hid (writeL v = v.up ++ 45 :: v.rev) := by show _ = _; unfold writeL headL; rw [if_neg hr, if_neg hd]
  obtain ⟨u1, u2, g1, g2, k2, z1, z2⟩ := cat45 (v.up) v.rev
  have K2 := hide k2
  clear k2
  have q1 := ofL_size v.ep
  have q2 := ofL_size v.up
  have q3 := ofL_size v.rev
  unfold verV
  clear hr hd hh
  go_enter Try.func33, Try.ntmps33
  go_wp2_with fail
  refine (IX.out _).mono ?_
  rintro e w' ⟨rfl, hw'⟩
  rw [hw']
  clear hw' w'
  go_wp2_with fail
  go_ret
  exact ⟨ret_s (by rw [HW.out, ← K2.out]), (Below.refl _ w).alloc (Nat.le_refl _) _⟩

theorem write_any (v : DebL) (w : World) (hs : Sz v) :
    Calls Try.prog 33 #[verV v] w fun e w' => e = .returned (.string (ofL (writeL v))) ∧ Below w.heap.size w w' := by
  by_cases hr : v.rev = []
  · by_cases he : v.ep = [48]
    · by_cases hh : 0 ≤ Lib.indexByte v.up 58
      · exact write_B0 v w hs he hh hr
      · exact write_C0 v w hs he hh hr
    · exact write_A0 v w hs he hr
  · by_cases he : v.ep = [48]
    · by_cases hh : 0 ≤ Lib.indexByte v.up 58
      · exact write_B1 v w hs he hh hr
      · exact write_C1 v w hs he hh hr
    · exact write_A1 v w hs he hr

end Go.Proofs.Ythojcidbhojlhaa
