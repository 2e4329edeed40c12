/-
  Proved: for any three texts, turned into digits: the program's order of texts of digits is total and transitive, turned round it is turned, texts are alike just where they are alike without noughts ahead, nothing is between a number and the next one, and a nought ahead changes nothing: ScanOrder returns true and leaves its arguments as they were. No condition but the form's own reach (each string takes at most 2^47 - 4096 bytes).
-/
import Derived.Test.YtglceodiajbhiaaWm
import Derived.Test.YtglceodiajbhiaaPlainF
import Derived.ProofKit
import Derived.OpenShut
import Derived.ShutString
import Derived.ChangeOld
import Derived.Below
import Derived.SizedLaws
namespace Go.Proofs.Ytglceodiajbhiaa
namespace ScanOrderP
open Go.ChangeShapes Go.WideShapes Go.ChangeAt Go.RowKit
open Go.ChangeMaps (open_string shut_string)
set_option linter.unusedVariables false

theorem own : ownKnob Try.prog.godebug = none := by kernel_rfl

/-- The order of two texts of digits, as a contract at a known answer. -/
theorem cmp_at (A B : List UInt8) (x : Int) (w : World) (hA : A.length ≤ 200000000000000) (hB : B.length ≤ 200000000000000) (h : cmpD A B = x) :
    Calls Try.prog 19 #[.string (ofL A), .string (ofL B)] w fun e w' => e = .returned (.int .i64 x) ∧ w' = w := by
  have c := Cmp_any (ofL A) (ofL B) w (by rw [ofL_size]; omega) (by rw [ofL_size]; omega)
  rw [ofL_data, ofL_data, h] at c
  exact c
theorem trim_at (A : List UInt8) (w : World) (hA : A.length ≤ 200000000000000) :
    Calls Try.prog 17 #[.string (ofL A)] w fun e w' => e = .returned (.string (ofL (trimL A))) ∧ w' = w := by
  have c := Trim_any (ofL A) w (by rw [ofL_size]; unfold maxLen; omega)
  rw [ofL_data] at c
  exact c
theorem next_at (A : List UInt8) (w : World) (hA : A.length ≤ 200000000000000) :
    Calls Try.prog 21 #[.string (ofL A)] w fun e w' => e = .returned (.string (ofL (nextL A))) ∧ Below w.heap.size w w' := by
  have c := Next_any (ofL A) w (by rw [ofL_size]; omega)
  rw [ofL_data] at c
  exact c

set_option maxHeartbeats 1000000 in
theorem walkP (a0 a1 a2 : ByteArray) (w0 : a0.size ≤ 140737488351232) (w1 : a1.size ≤ 140737488351232) (w2 : a2.size ≤ 140737488351232) (w : World) (A B C : List UInt8) (eA : a0.data.toList.map digC = A) (eB : a1.data.toList.map digC = B) (eC : a2.data.toList.map digC = C) (y z q : Int)
    (hx : cmpD A B = 1) (hy : cmpD B C = y) (hz : cmpD A C = z) (hx' : cmpD B A = (-1)) (h0 : cmpD A A = 0) (ht : ((ofL (trimL A)).toList == (ofL (trimL B)).toList) = false) (hn : cmpD A (nextL A) = -1) (hq : cmpD (nextL A) B = q) (hnought : cmpD (48 :: A) A = 0) :
    Calls Try.prog 6 #[.string a0, .string a1, .string a2] w fun e w' => e = .returned (.bool true) ∧ Below w.heap.size w w' := by
  have lA : A.length ≤ 140737488351232 := by rw [← eA, List.length_map, len_data]; exact w0
  have lB : B.length ≤ 140737488351232 := by rw [← eB, List.length_map, len_data]; exact w1
  have lC : C.length ≤ 140737488351232 := by rw [← eC, List.length_map, len_data]; exact w2
  have lN := nextL_len A
  have sA := ofL_size A
  have dA : Hid (∀ w, Calls Try.prog 30 #[.string a0] w fun e w' => e = .returned (.string (ofL A)) ∧ Below w.heap.size w w') := fun w => by rw [← eA]; exact digits_any a0 w (by unfold maxLen; omega)
  have dB : Hid (∀ w, Calls Try.prog 30 #[.string a1] w fun e w' => e = .returned (.string (ofL B)) ∧ Below w.heap.size w w') := fun w => by rw [← eB]; exact digits_any a1 w (by unfold maxLen; omega)
  have dC : Hid (∀ w, Calls Try.prog 30 #[.string a2] w fun e w' => e = .returned (.string (ofL C)) ∧ Below w.heap.size w w') := fun w => by rw [← eC]; exact digits_any a2 w (by unfold maxLen; omega)
  have hc0 : (⟨#[48]⟩ : ByteArray) ++ ofL A = ofL (48 :: A) := cons_text 48 A
  have hz1 : (⟨#[48]⟩ : ByteArray).size = 1 := rfl
  have HX := hide hx
  have HY := hide hy
  have HZ := hide hz
  have HX' := hide hx'
  have H0 := hide h0
  have HN := hide hn
  have HQ := hide hq
  have HO := hide hnought
  clear hx hy hz hx' h0 hn hq hnought eA eB eC
  go_enter Try.func6, Try.ntmps6
  go_wp2_with fail
  refine (dA.out _).mono ?_
  rintro e u1 ⟨rfl, b1⟩
  go_wp2_with fail
  refine (dB.out _).mono ?_
  rintro e u2 ⟨rfl, b2⟩
  go_wp2_with fail
  refine (dC.out _).mono ?_
  rintro e u3 ⟨rfl, b3⟩
  have bu : Below w.heap.size w u3 := b1.trans ((b2.mono b1.size).trans (b3.mono (Nat.le_trans b1.size b2.size)))
  clear b1 b2 b3 dA dB dC
  go_wp2_with fail
  refine (cmp_at A B _ _ (by omega) (by omega) HX.out).mono ?_
  rintro e u4 ⟨rfl, rfl⟩
  go_wp2_with fail
  refine (cmp_at B C _ _ (by omega) (by omega) HY.out).mono ?_
  rintro e u5 ⟨rfl, rfl⟩
  go_wp2_with fail
  refine (cmp_at A C _ _ (by omega) (by omega) HZ.out).mono ?_
  rintro e u6 ⟨rfl, rfl⟩
  go_wp2_with fail
  refine (cmp_at B A _ _ (by omega) (by omega) HX'.out).mono ?_
  rintro e u7 ⟨rfl, rfl⟩
  go_wp2_with fail
  refine (cmp_at A A _ _ (by omega) (by omega) H0.out).mono ?_
  rintro e u8 ⟨rfl, rfl⟩
  go_wp2_with fail
  refine (trim_at A _ (by omega)).mono ?_
  rintro e u9 ⟨rfl, rfl⟩
  go_wp2_with fail
  refine (trim_at B _ (by omega)).mono ?_
  rintro e u10 ⟨rfl, rfl⟩
  go_wp2_with fail
  refine (next_at A _ (by omega)).mono ?_
  rintro e u11 ⟨rfl, b11⟩
  go_wp2_with fail
  refine (cmp_at A (nextL A) _ _ (by omega) (by omega) HN.out).mono ?_
  rintro e u12 ⟨rfl, rfl⟩
  go_wp2_with fail
  refine (cmp_at (48 :: A) A _ _ (by rw [List.length_cons]; omega) (by omega) HO.out).mono ?_
  rintro e u14 ⟨rfl, rfl⟩
  go_wp2_with fail
  refine (awake_any _).mono ?_
  rintro e u15 ⟨rfl, b15⟩
  go_wp2_with fail
  go_ret
  exact ⟨rfl, bu.trans ((b11.mono bu.size).trans (b15.mono (Nat.le_trans bu.size b11.size)))⟩

set_option maxHeartbeats 1000000 in
theorem walkZl (a0 a1 a2 : ByteArray) (w0 : a0.size ≤ 140737488351232) (w1 : a1.size ≤ 140737488351232) (w2 : a2.size ≤ 140737488351232) (w : World) (A B C : List UInt8) (eA : a0.data.toList.map digC = A) (eB : a1.data.toList.map digC = B) (eC : a2.data.toList.map digC = C) (y z q : Int)
    (hx : cmpD A B = 0) (hy : cmpD B C = y) (hz : cmpD A C = z) (hx' : cmpD B A = 0) (h0 : cmpD A A = 0) (ht : ((ofL (trimL A)).toList == (ofL (trimL B)).toList) = true) (hn : cmpD A (nextL A) = -1) (hq : cmpD (nextL A) B = q) (hnought : cmpD (48 :: A) A = 0) (hyz : decide (y ≤ 0) = true) (hzz : decide (0 < z) = false) :
    Calls Try.prog 6 #[.string a0, .string a1, .string a2] w fun e w' => e = .returned (.bool true) ∧ Below w.heap.size w w' := by
  have lA : A.length ≤ 140737488351232 := by rw [← eA, List.length_map, len_data]; exact w0
  have lB : B.length ≤ 140737488351232 := by rw [← eB, List.length_map, len_data]; exact w1
  have lC : C.length ≤ 140737488351232 := by rw [← eC, List.length_map, len_data]; exact w2
  have lN := nextL_len A
  have sA := ofL_size A
  have dA : Hid (∀ w, Calls Try.prog 30 #[.string a0] w fun e w' => e = .returned (.string (ofL A)) ∧ Below w.heap.size w w') := fun w => by rw [← eA]; exact digits_any a0 w (by unfold maxLen; omega)
  have dB : Hid (∀ w, Calls Try.prog 30 #[.string a1] w fun e w' => e = .returned (.string (ofL B)) ∧ Below w.heap.size w w') := fun w => by rw [← eB]; exact digits_any a1 w (by unfold maxLen; omega)
  have dC : Hid (∀ w, Calls Try.prog 30 #[.string a2] w fun e w' => e = .returned (.string (ofL C)) ∧ Below w.heap.size w w') := fun w => by rw [← eC]; exact digits_any a2 w (by unfold maxLen; omega)
  have hc0 : (⟨#[48]⟩ : ByteArray) ++ ofL A = ofL (48 :: A) := cons_text 48 A
  have hz1 : (⟨#[48]⟩ : ByteArray).size = 1 := rfl
  have HX := hide hx
  have HY := hide hy
  have HZ := hide hz
  have HX' := hide hx'
  have H0 := hide h0
  have HN := hide hn
  have HQ := hide hq
  have HO := hide hnought
  clear hx hy hz hx' h0 hn hq hnought eA eB eC
  go_enter Try.func6, Try.ntmps6
  go_wp2_with fail
  refine (dA.out _).mono ?_
  rintro e u1 ⟨rfl, b1⟩
  go_wp2_with fail
  refine (dB.out _).mono ?_
  rintro e u2 ⟨rfl, b2⟩
  go_wp2_with fail
  refine (dC.out _).mono ?_
  rintro e u3 ⟨rfl, b3⟩
  have bu : Below w.heap.size w u3 := b1.trans ((b2.mono b1.size).trans (b3.mono (Nat.le_trans b1.size b2.size)))
  clear b1 b2 b3 dA dB dC
  go_wp2_with fail
  refine (cmp_at A B _ _ (by omega) (by omega) HX.out).mono ?_
  rintro e u4 ⟨rfl, rfl⟩
  go_wp2_with fail
  refine (cmp_at B C _ _ (by omega) (by omega) HY.out).mono ?_
  rintro e u5 ⟨rfl, rfl⟩
  go_wp2_with fail
  refine (cmp_at A C _ _ (by omega) (by omega) HZ.out).mono ?_
  rintro e u6 ⟨rfl, rfl⟩
  go_wp2_with fail
  refine (cmp_at B A _ _ (by omega) (by omega) HX'.out).mono ?_
  rintro e u7 ⟨rfl, rfl⟩
  go_wp2_with fail
  refine (cmp_at A A _ _ (by omega) (by omega) H0.out).mono ?_
  rintro e u8 ⟨rfl, rfl⟩
  go_wp2_with fail
  refine (trim_at A _ (by omega)).mono ?_
  rintro e u9 ⟨rfl, rfl⟩
  go_wp2_with fail
  refine (trim_at B _ (by omega)).mono ?_
  rintro e u10 ⟨rfl, rfl⟩
  go_wp2_with fail
  refine (next_at A _ (by omega)).mono ?_
  rintro e u11 ⟨rfl, b11⟩
  go_wp2_with fail
  refine (cmp_at A (nextL A) _ _ (by omega) (by omega) HN.out).mono ?_
  rintro e u12 ⟨rfl, rfl⟩
  go_wp2_with fail
  refine (cmp_at (48 :: A) A _ _ (by rw [List.length_cons]; omega) (by omega) HO.out).mono ?_
  rintro e u14 ⟨rfl, rfl⟩
  go_wp2_with fail
  refine (awake_any _).mono ?_
  rintro e u15 ⟨rfl, b15⟩
  go_wp2_with fail
  go_ret
  exact ⟨rfl, bu.trans ((b11.mono bu.size).trans (b15.mono (Nat.le_trans bu.size b11.size)))⟩

set_option maxHeartbeats 1000000 in
theorem walkZh (a0 a1 a2 : ByteArray) (w0 : a0.size ≤ 140737488351232) (w1 : a1.size ≤ 140737488351232) (w2 : a2.size ≤ 140737488351232) (w : World) (A B C : List UInt8) (eA : a0.data.toList.map digC = A) (eB : a1.data.toList.map digC = B) (eC : a2.data.toList.map digC = C) (y z q : Int)
    (hx : cmpD A B = 0) (hy : cmpD B C = y) (hz : cmpD A C = z) (hx' : cmpD B A = 0) (h0 : cmpD A A = 0) (ht : ((ofL (trimL A)).toList == (ofL (trimL B)).toList) = true) (hn : cmpD A (nextL A) = -1) (hq : cmpD (nextL A) B = q) (hnought : cmpD (48 :: A) A = 0) (hyz : decide (y ≤ 0) = false) :
    Calls Try.prog 6 #[.string a0, .string a1, .string a2] w fun e w' => e = .returned (.bool true) ∧ Below w.heap.size w w' := by
  have lA : A.length ≤ 140737488351232 := by rw [← eA, List.length_map, len_data]; exact w0
  have lB : B.length ≤ 140737488351232 := by rw [← eB, List.length_map, len_data]; exact w1
  have lC : C.length ≤ 140737488351232 := by rw [← eC, List.length_map, len_data]; exact w2
  have lN := nextL_len A
  have sA := ofL_size A
  have dA : Hid (∀ w, Calls Try.prog 30 #[.string a0] w fun e w' => e = .returned (.string (ofL A)) ∧ Below w.heap.size w w') := fun w => by rw [← eA]; exact digits_any a0 w (by unfold maxLen; omega)
  have dB : Hid (∀ w, Calls Try.prog 30 #[.string a1] w fun e w' => e = .returned (.string (ofL B)) ∧ Below w.heap.size w w') := fun w => by rw [← eB]; exact digits_any a1 w (by unfold maxLen; omega)
  have dC : Hid (∀ w, Calls Try.prog 30 #[.string a2] w fun e w' => e = .returned (.string (ofL C)) ∧ Below w.heap.size w w') := fun w => by rw [← eC]; exact digits_any a2 w (by unfold maxLen; omega)
  have hc0 : (⟨#[48]⟩ : ByteArray) ++ ofL A = ofL (48 :: A) := cons_text 48 A
  have hz1 : (⟨#[48]⟩ : ByteArray).size = 1 := rfl
  have HX := hide hx
  have HY := hide hy
  have HZ := hide hz
  have HX' := hide hx'
  have H0 := hide h0
  have HN := hide hn
  have HQ := hide hq
  have HO := hide hnought
  clear hx hy hz hx' h0 hn hq hnought eA eB eC
  go_enter Try.func6, Try.ntmps6
  go_wp2_with fail
  refine (dA.out _).mono ?_
  rintro e u1 ⟨rfl, b1⟩
  go_wp2_with fail
  refine (dB.out _).mono ?_
  rintro e u2 ⟨rfl, b2⟩
  go_wp2_with fail
  refine (dC.out _).mono ?_
  rintro e u3 ⟨rfl, b3⟩
  have bu : Below w.heap.size w u3 := b1.trans ((b2.mono b1.size).trans (b3.mono (Nat.le_trans b1.size b2.size)))
  clear b1 b2 b3 dA dB dC
  go_wp2_with fail
  refine (cmp_at A B _ _ (by omega) (by omega) HX.out).mono ?_
  rintro e u4 ⟨rfl, rfl⟩
  go_wp2_with fail
  refine (cmp_at B C _ _ (by omega) (by omega) HY.out).mono ?_
  rintro e u5 ⟨rfl, rfl⟩
  go_wp2_with fail
  refine (cmp_at A C _ _ (by omega) (by omega) HZ.out).mono ?_
  rintro e u6 ⟨rfl, rfl⟩
  go_wp2_with fail
  refine (cmp_at B A _ _ (by omega) (by omega) HX'.out).mono ?_
  rintro e u7 ⟨rfl, rfl⟩
  go_wp2_with fail
  refine (cmp_at A A _ _ (by omega) (by omega) H0.out).mono ?_
  rintro e u8 ⟨rfl, rfl⟩
  go_wp2_with fail
  refine (trim_at A _ (by omega)).mono ?_
  rintro e u9 ⟨rfl, rfl⟩
  go_wp2_with fail
  refine (trim_at B _ (by omega)).mono ?_
  rintro e u10 ⟨rfl, rfl⟩
  go_wp2_with fail
  refine (next_at A _ (by omega)).mono ?_
  rintro e u11 ⟨rfl, b11⟩
  go_wp2_with fail
  refine (cmp_at A (nextL A) _ _ (by omega) (by omega) HN.out).mono ?_
  rintro e u12 ⟨rfl, rfl⟩
  go_wp2_with fail
  refine (cmp_at (48 :: A) A _ _ (by rw [List.length_cons]; omega) (by omega) HO.out).mono ?_
  rintro e u14 ⟨rfl, rfl⟩
  go_wp2_with fail
  refine (awake_any _).mono ?_
  rintro e u15 ⟨rfl, b15⟩
  go_wp2_with fail
  go_ret
  exact ⟨rfl, bu.trans ((b11.mono bu.size).trans (b15.mono (Nat.le_trans bu.size b11.size)))⟩

set_option maxHeartbeats 1000000 in
theorem walkNl (a0 a1 a2 : ByteArray) (w0 : a0.size ≤ 140737488351232) (w1 : a1.size ≤ 140737488351232) (w2 : a2.size ≤ 140737488351232) (w : World) (A B C : List UInt8) (eA : a0.data.toList.map digC = A) (eB : a1.data.toList.map digC = B) (eC : a2.data.toList.map digC = C) (y z q : Int)
    (hx : cmpD A B = (-1)) (hy : cmpD B C = y) (hz : cmpD A C = z) (hx' : cmpD B A = 1) (h0 : cmpD A A = 0) (ht : ((ofL (trimL A)).toList == (ofL (trimL B)).toList) = false) (hn : cmpD A (nextL A) = -1) (hq : cmpD (nextL A) B = q) (hnought : cmpD (48 :: A) A = 0) (hyz : decide (y ≤ 0) = true) (hzz : decide (0 < z) = false) (hqq : decide (q ≤ 0) = true) :
    Calls Try.prog 6 #[.string a0, .string a1, .string a2] w fun e w' => e = .returned (.bool true) ∧ Below w.heap.size w w' := by
  have lA : A.length ≤ 140737488351232 := by rw [← eA, List.length_map, len_data]; exact w0
  have lB : B.length ≤ 140737488351232 := by rw [← eB, List.length_map, len_data]; exact w1
  have lC : C.length ≤ 140737488351232 := by rw [← eC, List.length_map, len_data]; exact w2
  have lN := nextL_len A
  have sA := ofL_size A
  have dA : Hid (∀ w, Calls Try.prog 30 #[.string a0] w fun e w' => e = .returned (.string (ofL A)) ∧ Below w.heap.size w w') := fun w => by rw [← eA]; exact digits_any a0 w (by unfold maxLen; omega)
  have dB : Hid (∀ w, Calls Try.prog 30 #[.string a1] w fun e w' => e = .returned (.string (ofL B)) ∧ Below w.heap.size w w') := fun w => by rw [← eB]; exact digits_any a1 w (by unfold maxLen; omega)
  have dC : Hid (∀ w, Calls Try.prog 30 #[.string a2] w fun e w' => e = .returned (.string (ofL C)) ∧ Below w.heap.size w w') := fun w => by rw [← eC]; exact digits_any a2 w (by unfold maxLen; omega)
  have hc0 : (⟨#[48]⟩ : ByteArray) ++ ofL A = ofL (48 :: A) := cons_text 48 A
  have hz1 : (⟨#[48]⟩ : ByteArray).size = 1 := rfl
  have HX := hide hx
  have HY := hide hy
  have HZ := hide hz
  have HX' := hide hx'
  have H0 := hide h0
  have HN := hide hn
  have HQ := hide hq
  have HO := hide hnought
  clear hx hy hz hx' h0 hn hq hnought eA eB eC
  go_enter Try.func6, Try.ntmps6
  go_wp2_with fail
  refine (dA.out _).mono ?_
  rintro e u1 ⟨rfl, b1⟩
  go_wp2_with fail
  refine (dB.out _).mono ?_
  rintro e u2 ⟨rfl, b2⟩
  go_wp2_with fail
  refine (dC.out _).mono ?_
  rintro e u3 ⟨rfl, b3⟩
  have bu : Below w.heap.size w u3 := b1.trans ((b2.mono b1.size).trans (b3.mono (Nat.le_trans b1.size b2.size)))
  clear b1 b2 b3 dA dB dC
  go_wp2_with fail
  refine (cmp_at A B _ _ (by omega) (by omega) HX.out).mono ?_
  rintro e u4 ⟨rfl, rfl⟩
  go_wp2_with fail
  refine (cmp_at B C _ _ (by omega) (by omega) HY.out).mono ?_
  rintro e u5 ⟨rfl, rfl⟩
  go_wp2_with fail
  refine (cmp_at A C _ _ (by omega) (by omega) HZ.out).mono ?_
  rintro e u6 ⟨rfl, rfl⟩
  go_wp2_with fail
  refine (cmp_at B A _ _ (by omega) (by omega) HX'.out).mono ?_
  rintro e u7 ⟨rfl, rfl⟩
  go_wp2_with fail
  refine (cmp_at A A _ _ (by omega) (by omega) H0.out).mono ?_
  rintro e u8 ⟨rfl, rfl⟩
  go_wp2_with fail
  refine (trim_at A _ (by omega)).mono ?_
  rintro e u9 ⟨rfl, rfl⟩
  go_wp2_with fail
  refine (trim_at B _ (by omega)).mono ?_
  rintro e u10 ⟨rfl, rfl⟩
  go_wp2_with fail
  refine (next_at A _ (by omega)).mono ?_
  rintro e u11 ⟨rfl, b11⟩
  go_wp2_with fail
  refine (cmp_at A (nextL A) _ _ (by omega) (by omega) HN.out).mono ?_
  rintro e u12 ⟨rfl, rfl⟩
  go_wp2_with fail
  refine (cmp_at (nextL A) B _ _ (by omega) (by omega) HQ.out).mono ?_
  rintro e u13 ⟨rfl, rfl⟩
  go_wp2_with fail
  refine (cmp_at (48 :: A) A _ _ (by rw [List.length_cons]; omega) (by omega) HO.out).mono ?_
  rintro e u14 ⟨rfl, rfl⟩
  go_wp2_with fail
  refine (awake_any _).mono ?_
  rintro e u15 ⟨rfl, b15⟩
  go_wp2_with fail
  go_ret
  exact ⟨rfl, bu.trans ((b11.mono bu.size).trans (b15.mono (Nat.le_trans bu.size b11.size)))⟩

set_option maxHeartbeats 1000000 in
theorem walkNh (a0 a1 a2 : ByteArray) (w0 : a0.size ≤ 140737488351232) (w1 : a1.size ≤ 140737488351232) (w2 : a2.size ≤ 140737488351232) (w : World) (A B C : List UInt8) (eA : a0.data.toList.map digC = A) (eB : a1.data.toList.map digC = B) (eC : a2.data.toList.map digC = C) (y z q : Int)
    (hx : cmpD A B = (-1)) (hy : cmpD B C = y) (hz : cmpD A C = z) (hx' : cmpD B A = 1) (h0 : cmpD A A = 0) (ht : ((ofL (trimL A)).toList == (ofL (trimL B)).toList) = false) (hn : cmpD A (nextL A) = -1) (hq : cmpD (nextL A) B = q) (hnought : cmpD (48 :: A) A = 0) (hyz : decide (y ≤ 0) = false) (hqq : decide (q ≤ 0) = true) :
    Calls Try.prog 6 #[.string a0, .string a1, .string a2] w fun e w' => e = .returned (.bool true) ∧ Below w.heap.size w w' := by
  have lA : A.length ≤ 140737488351232 := by rw [← eA, List.length_map, len_data]; exact w0
  have lB : B.length ≤ 140737488351232 := by rw [← eB, List.length_map, len_data]; exact w1
  have lC : C.length ≤ 140737488351232 := by rw [← eC, List.length_map, len_data]; exact w2
  have lN := nextL_len A
  have sA := ofL_size A
  have dA : Hid (∀ w, Calls Try.prog 30 #[.string a0] w fun e w' => e = .returned (.string (ofL A)) ∧ Below w.heap.size w w') := fun w => by rw [← eA]; exact digits_any a0 w (by unfold maxLen; omega)
  have dB : Hid (∀ w, Calls Try.prog 30 #[.string a1] w fun e w' => e = .returned (.string (ofL B)) ∧ Below w.heap.size w w') := fun w => by rw [← eB]; exact digits_any a1 w (by unfold maxLen; omega)
  have dC : Hid (∀ w, Calls Try.prog 30 #[.string a2] w fun e w' => e = .returned (.string (ofL C)) ∧ Below w.heap.size w w') := fun w => by rw [← eC]; exact digits_any a2 w (by unfold maxLen; omega)
  have hc0 : (⟨#[48]⟩ : ByteArray) ++ ofL A = ofL (48 :: A) := cons_text 48 A
  have hz1 : (⟨#[48]⟩ : ByteArray).size = 1 := rfl
  have HX := hide hx
  have HY := hide hy
  have HZ := hide hz
  have HX' := hide hx'
  have H0 := hide h0
  have HN := hide hn
  have HQ := hide hq
  have HO := hide hnought
  clear hx hy hz hx' h0 hn hq hnought eA eB eC
  go_enter Try.func6, Try.ntmps6
  go_wp2_with fail
  refine (dA.out _).mono ?_
  rintro e u1 ⟨rfl, b1⟩
  go_wp2_with fail
  refine (dB.out _).mono ?_
  rintro e u2 ⟨rfl, b2⟩
  go_wp2_with fail
  refine (dC.out _).mono ?_
  rintro e u3 ⟨rfl, b3⟩
  have bu : Below w.heap.size w u3 := b1.trans ((b2.mono b1.size).trans (b3.mono (Nat.le_trans b1.size b2.size)))
  clear b1 b2 b3 dA dB dC
  go_wp2_with fail
  refine (cmp_at A B _ _ (by omega) (by omega) HX.out).mono ?_
  rintro e u4 ⟨rfl, rfl⟩
  go_wp2_with fail
  refine (cmp_at B C _ _ (by omega) (by omega) HY.out).mono ?_
  rintro e u5 ⟨rfl, rfl⟩
  go_wp2_with fail
  refine (cmp_at A C _ _ (by omega) (by omega) HZ.out).mono ?_
  rintro e u6 ⟨rfl, rfl⟩
  go_wp2_with fail
  refine (cmp_at B A _ _ (by omega) (by omega) HX'.out).mono ?_
  rintro e u7 ⟨rfl, rfl⟩
  go_wp2_with fail
  refine (cmp_at A A _ _ (by omega) (by omega) H0.out).mono ?_
  rintro e u8 ⟨rfl, rfl⟩
  go_wp2_with fail
  refine (trim_at A _ (by omega)).mono ?_
  rintro e u9 ⟨rfl, rfl⟩
  go_wp2_with fail
  refine (trim_at B _ (by omega)).mono ?_
  rintro e u10 ⟨rfl, rfl⟩
  go_wp2_with fail
  refine (next_at A _ (by omega)).mono ?_
  rintro e u11 ⟨rfl, b11⟩
  go_wp2_with fail
  refine (cmp_at A (nextL A) _ _ (by omega) (by omega) HN.out).mono ?_
  rintro e u12 ⟨rfl, rfl⟩
  go_wp2_with fail
  refine (cmp_at (nextL A) B _ _ (by omega) (by omega) HQ.out).mono ?_
  rintro e u13 ⟨rfl, rfl⟩
  go_wp2_with fail
  refine (cmp_at (48 :: A) A _ _ (by rw [List.length_cons]; omega) (by omega) HO.out).mono ?_
  rintro e u14 ⟨rfl, rfl⟩
  go_wp2_with fail
  refine (awake_any _).mono ?_
  rintro e u15 ⟨rfl, b15⟩
  go_wp2_with fail
  go_ret
  exact ⟨rfl, bu.trans ((b11.mono bu.size).trans (b15.mono (Nat.le_trans bu.size b11.size)))⟩

theorem cmpN_lt {x y : Nat} (h : x < y) : cmpN x y = -1 := by rw [cmpN, if_pos h]
theorem cmpN_gt {x y : Nat} (h : y < x) : cmpN x y = 1 := by rw [cmpN, if_neg (by omega), if_pos h]
theorem cmpN_eq {x y : Nat} (h : x = y) : cmpN x y = 0 := by rw [cmpN, if_neg (by omega), if_neg (by omega)]
theorem cmpN_le {x y : Nat} (h : x ≤ y) : decide (cmpN x y ≤ 0) = true := by
  rcases Nat.lt_or_eq_of_le h with h | h
  · rw [cmpN_lt h]; decide
  · rw [cmpN_eq h]; decide
theorem cmpN_nle {x y : Nat} (h : y < x) : decide (cmpN x y ≤ 0) = false := by rw [cmpN_gt h]; decide
theorem cmpN_npos {x y : Nat} (h : x ≤ y) : decide (0 < cmpN x y) = false := by
  rcases Nat.lt_or_eq_of_le h with h | h
  · rw [cmpN_lt h]; decide
  · rw [cmpN_eq h]; decide

theorem walk (a0 a1 a2 : ByteArray) (w0 : a0.size ≤ 140737488351232) (w1 : a1.size ≤ 140737488351232) (w2 : a2.size ≤ 140737488351232) (w : World) :
    Calls Try.prog 6 #[.string a0, .string a1, .string a2] w fun e w' => e = .returned (.bool true) ∧ Below w.heap.size w w' := by
  obtain ⟨A, eA⟩ : ∃ A, a0.data.toList.map digC = A := ⟨_, rfl⟩
  obtain ⟨B, eB⟩ : ∃ B, a1.data.toList.map digC = B := ⟨_, rfl⟩
  obtain ⟨C, eC⟩ : ∃ C, a2.data.toList.map digC = C := ⟨_, rfl⟩
  have hA : AllD A := by rw [← eA]; exact allD_dig _
  have hB : AllD B := by rw [← eB]; exact allD_dig _
  have hC : AllD C := by rw [← eC]; exact allD_dig _
  obtain ⟨nv, nd⟩ := nextL_val A hA
  have h48 : AllD (48 :: A) := fun c hc => by
    rcases List.mem_cons.1 hc with rfl | hc
    · decide
    · exact hA c hc
  have cAB := cmpD_val A B hA hB
  have cBC := cmpD_val B C hB hC
  have cAC := cmpD_val A C hA hC
  have cBA := cmpD_val B A hB hA
  have cAA : cmpD A A = 0 := by rw [cmpD_val A A hA hA, cmpN_eq rfl]
  have cN : cmpD A (nextL A) = -1 := by rw [cmpD_val A _ hA nd, nv, cmpN_lt (by omega)]
  have cNB := cmpD_val (nextL A) B nd hB
  rw [nv] at cNB
  have cO : cmpD (48 :: A) A = 0 := by rw [cmpD_val _ A h48 hA, val_nought, cmpN_eq rfl]
  have ht : ((ofL (trimL A)).toList == (ofL (trimL B)).toList) = decide (val A = val B) := by
    rw [toL, toL, ofL_data, ofL_data, Bool.eq_iff_iff, beq_iff_eq, decide_eq_true_iff]
    exact trim_iff A B hA hB
  rcases Nat.lt_trichotomy (val A) (val B) with h | h | h
  · rw [cmpN_lt h] at cAB
    rw [cmpN_gt h] at cBA
    have ht' : ((ofL (trimL A)).toList == (ofL (trimL B)).toList) = false := by rw [ht]; simp; omega
    by_cases hbc : val B ≤ val C
    · exact walkNl a0 a1 a2 w0 w1 w2 w A B C eA eB eC _ _ _ cAB cBC cAC cBA cAA ht' cN cNB cO (cmpN_le hbc) (cmpN_npos (by omega)) (cmpN_le (by omega))
    · exact walkNh a0 a1 a2 w0 w1 w2 w A B C eA eB eC _ _ _ cAB cBC cAC cBA cAA ht' cN cNB cO (cmpN_nle (by omega)) (cmpN_le (by omega))
  · rw [cmpN_eq h] at cAB
    rw [cmpN_eq h.symm] at cBA
    have ht' : ((ofL (trimL A)).toList == (ofL (trimL B)).toList) = true := by rw [ht]; simp [h]
    by_cases hbc : val B ≤ val C
    · exact walkZl a0 a1 a2 w0 w1 w2 w A B C eA eB eC _ _ _ cAB cBC cAC cBA cAA ht' cN cNB cO (cmpN_le hbc) (cmpN_npos (by omega))
    · exact walkZh a0 a1 a2 w0 w1 w2 w A B C eA eB eC _ _ _ cAB cBC cAC cBA cAA ht' cN cNB cO (cmpN_nle (by omega))
  · rw [cmpN_gt h] at cAB
    rw [cmpN_lt h] at cBA
    have ht' : ((ofL (trimL A)).toList == (ofL (trimL B)).toList) = false := by rw [ht]; simp; omega
    exact walkP a0 a1 a2 w0 w1 w2 w A B C eA eB eC _ _ _ cAB cBC cAC cBA cAA ht' cN cNB cO

set_option maxRecDepth 100000 in
theorem lifted (os : Os) (started : os.Started) (H : Type) (enc : TypeId × Value → H) :
    ReturnsInHanded {} Try.checked os 6 .any (Rows.scanOrderSpec.pre6 enc Try.prog Try.f6 Rows.scanOrderRow.domain false) (Rows.scanOrderSpec.post enc Try.prog Try.f6 false true false false) := by
  refine returnsInHanded_of_change_sized (C := Try.checked) own started (by kernel_rfl) Try.func6
    (ChangeSpec.witness6 (enc := enc) (C := Try.checked) false ⟨#[], #[.string ByteArray.empty, .string ByteArray.empty, .string ByteArray.empty], []⟩ 8 (by kernel_rfl) (by kernel_rfl) (by kernel_rfl) (by kernel_rfl)) ?_
  intro W base args ds gs before hval0 hW hcnd hsz0 _
  have hval : ∀ (j : Nat) t v, Try.f6.params[j]? = some t → args[j]? = some v → Value.okWide Try.prog W .any base t v := hval0
  have hsz : (DataW.weightsEach Try.prog (Try.f6.params.toList ++ Rows.scanOrderSpec.plain.varTypes Try.prog) (ds ++ gs)).all (· ≤ reachBytes) = true := hsz0
  have hW' := hW
  obtain ⟨p, q, hA0, hV, rfl, hfz, hnd⟩ := hW
  have hA : DataW.TrodAll enc Try.prog W 0 (fun _ => true) true Try.f6.params.toList args.toList ds p := hA0
  rw [Try.params6] at hA hval hsz
  obtain ⟨v0, vs0, d0, ds0, p0, q0, hargs, rfl, rfl, h0, r0⟩ := trodAll_cons hA
  obtain ⟨v1, vs1, d1, ds1, p1, q1, rfl, rfl, rfl, h1, r1⟩ := trodAll_cons r0
  obtain ⟨v2, vs2, d2, ds2, p2, q2, rfl, rfl, rfl, h2, r2⟩ := trodAll_cons r1
  obtain ⟨rfl, rfl, rfl⟩ := trodAll_nil r2
  obtain rfl : args = #[v0, v1, v2] := by cases args; simp_all
  obtain ⟨rfl, rfl⟩ := trodVars_none hV
  obtain ⟨a0, rfl, rfl, rfl, w0⟩ := open_string Try.underlying9 (hval 0 9 v0 rfl rfl) h0
  obtain ⟨a1, rfl, rfl, rfl, w1⟩ := open_string Try.underlying9 (hval 1 9 v1 rfl rfl) h1
  obtain ⟨a2, rfl, rfl, rfl, w2⟩ := open_string Try.underlying9 (hval 2 9 v2 rfl rfl) h2
  have s0 : a0.data.toList.length ≤ reachBytes := sized_string hsz (j := 0) (t := 9) rfl rfl
  have s1 : a1.data.toList.length ≤ reachBytes := sized_string hsz (j := 1) (t := 9) rfl rfl
  have s2 : a2.data.toList.length ≤ reachBytes := sized_string hsz (j := 2) (t := 9) rfl rfl
  rw [len_data] at s0 s1 s2
  clear hA0 hval0 hsz0 hsz
  refine (walk a0 a1 a2 s0 s1 s2 W).mono fun e W' ⟨he, bel⟩ => ?_
  subst he
  exact ⟨_, rfl, _, _, _, [], _, [], hW', trodAll_mk1 (shut_bool Try.underlying4 _), (trodAll_cons_mk (shut_string Try.underlying9 w0) (trodAll_cons_mk (shut_string Try.underlying9 w1) (trodAll_cons_mk (shut_string Try.underlying9 w2) trodAll_mk0))), rfl, bel.frame _, fun h => by cases h⟩

theorem over : Rows.scanOrderRow.holds Try.pinned (OpenSpec.ofChange Rows.scanOrderSpec) :=
  OpenClaim.holds_of_wide 6 Try.f6 rfl rfl rfl rfl rfl rfl rfl ⟨rfl, rfl, rfl, rfl, rfl⟩ rfl rfl rfl rfl rfl (by kernel_rfl) Try.func6 (by kernel_rfl)
    (of_decide_eq_true (by kernel_rfl)) (by unfold Func.isWrapper; first | (rw [if_pos (by decide +kernel)]; kernel_rfl) | (rw [if_neg (by decide +kernel)]; exact ⟨rfl, rfl⟩))
    (fun os started H enc _ => lifted os started H enc)
end ScanOrderP

theorem scanOrder_holds : Rows.ScanOrderSaid := ScanOrderP.over
#print axioms scanOrder_holds
end Go.Proofs.Ytglceodiajbhiaa
