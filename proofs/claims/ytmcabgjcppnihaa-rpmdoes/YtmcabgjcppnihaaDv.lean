/-
  Walks: the document's order of segments.
-/
import Derived.Test.YtmcabgjcppnihaaDs
import Derived.BigQuiet
namespace Go.Proofs.Ytmcabgjcppnihaa
open Go.RowKit Go.Shelf
set_option linter.unusedVariables false

theorem RRun_at (s : ByteArray) (I : Nat) (cl : Int) (T : Nat) (hs : s.size ≤ 9223372036854775000) (h : I ≤ s.size) (hT : runL cl (s.data.toList.drop I) = T) (w : World) :
    Calls Try.prog 23 #[.string s, .int .i64 (I : Int), .int .i64 cl] w fun e w' => e = .returned (.int .i64 ((I + T : Nat) : Int)) ∧ w' = w := by
  have R := RRun_any s I cl w (by unfold maxLen; omega)
  rw [runI_in s I cl h, hT] at R
  rw [Int.natCast_add]
  exact R

set_option maxRecDepth 100000 in
set_option maxHeartbeats 8000000 in
theorem RSegments_any (a b : ByteArray) (w : World) (ha : a.size ≤ 9223372036854775000) (hb : b.size ≤ 9223372036854775000) :
    Calls Try.prog 11 #[.string a, .string b] w fun e w' => e = .returned (.int .i64 (partO a.data.toList b.data.toList)) ∧ Below w.heap.size w w' := by
  have B0 := Below.refl w.heap.size w
  go_enter Try.func11, Try.ntmps11
  go_wp2_with fail
  go_loopw [5, 6] (fun x y wr => ∃ i k : Nat, i ≤ a.size ∧ k ≤ b.size ∧ x = .int .i64 i ∧ y = .int .i64 k ∧ Below w.heap.size w wr ∧ Hid (partO a.data.toList b.data.toList = partO (a.data.toList.drop i) (b.data.toList.drop k)))
    (fun x y _ => (a.size - (intOf x).toNat) + (b.size - (intOf y).toNat))
  case atStart => exact ⟨0, 0, by omega, by omega, rfl, rfl, B0, by simp [Hid]⟩
  case round =>
    clear B0
    obtain ⟨i, k, hi, hk, rfl, rfl, hB, HR⟩ := hrel
    have hI := skP_le a i hi
    have hI' := skP_ge a i
    have hK := skP_le b k hk
    have hK' := skP_ge b k
    have SA := hide (fun w => Rskip_any a i w ha hi)
    have SB := hide (fun w => Rskip_any b k w hb hk)
    have A0 := fun w => Ris_any a (skP a i) 126 w ha
    have A2 := fun w => Ris_any a (skP a i) 94 w ha
    have C0 := fun w => Ris_any b (skP b k) 126 w hb
    have C2 := fun w => Ris_any b (skP b k) 94 w hb
    rw [at_sign a i hi 126 0 (by decide) kind_tilde] at A0
    rw [at_sign a i hi 94 2 (by decide) kind_caret] at A2
    rw [at_sign b k hk 126 0 (by decide) kind_tilde] at C0
    rw [at_sign b k hk 94 2 (by decide) kind_caret] at C2
    change ∀ w, Calls Try.prog 33 #[.string a, .int .i64 (skP a i : Int), .int .u8 126] w _ at A0
    change ∀ w, Calls Try.prog 33 #[.string a, .int .i64 (skP a i : Int), .int .u8 94] w _ at A2
    change ∀ w, Calls Try.prog 33 #[.string b, .int .i64 (skP b k : Int), .int .u8 126] w _ at C0
    change ∀ w, Calls Try.prog 33 #[.string b, .int .i64 (skP b k : Int), .int .u8 94] w _ at C2
    have eA := end_one a i hi
    have eB := end_one b k hk
    have rA := rest_at a i
    have rB := rest_at b k
    have fA := kn_five (a.data.toList.drop i)
    have fB := kn_five (b.data.toList.drop k)
    by_cases a0 : knL (a.data.toList.drop i) = 0
    · by_cases b0 : knL (b.data.toList.drop k) = 0
      · have iA : ¬ skP a i = a.size := fun e => by have := eA.1 e; omega
        have iB : ¬ skP b k = b.size := fun e => by have := eB.1 e; omega
        have HV : Hid (partO (a.data.toList.drop i) (b.data.toList.drop k) = partO (a.data.toList.drop (skP a i + 1)) (b.data.toList.drop (skP b k + 1))) := by
          show _ = _
          rw [row_sign 126 0 (.inl rfl) kind_tilde a0 b0, rA, rB, (tk_sign _ 0 (.inl rfl) a0).1, (tk_sign _ 0 (.inl rfl) b0).1]
        rw [show (knL (a.data.toList.drop i) == 0) = true from by simpa using a0] at A0
        have A0 := hide A0
        rw [show (knL (b.data.toList.drop k) == 0) = true from by simpa using b0] at C0
        have C0 := hide C0
        clear A2
        clear C2
        clear eA eB fA fB rA rB
        generalize skP a i = I at *
        generalize skP b k = K at *
        have hi' : (i : Int) < (a.size : Int) := by omega
        clear a0 b0
        go_wp2_with fail
        refine (SA.out _).mono ?_
        rintro e w' ⟨rfl, hw'⟩
        rw [hw']
        clear hw' w'
        go_wp2_with fail
        refine (SB.out _).mono ?_
        rintro e w' ⟨rfl, hw'⟩
        rw [hw']
        clear hw' w'
        go_wp2_with fail
        refine (A0.out _).mono ?_
        rintro e w' ⟨rfl, hw'⟩
        rw [hw']
        clear hw' w'
        go_wp2_with fail
        refine (C0.out _).mono ?_
        rintro e w' ⟨rfl, hw'⟩
        rw [hw']
        clear hw' w'
        go_wp2_with fail
        go_roundw
        case rel => exact ⟨I + 1, K + 1, by omega, by omega, by go_num, by go_num, hB, by show _ = _; rw [HR.out, HV.out]⟩
        case measure => simp [intOf]; omega
      · have iA : ¬ skP a i = a.size := fun e => by have := eA.1 e; omega
        have HV : Hid (partO (a.data.toList.drop i) (b.data.toList.drop k) = -1) := by
          show _ = _
          rw [row_ne a0 rfl (fun e => b0 e.symm)]
          unfold cmpI; (repeat' split) <;> omega
        rw [show (knL (a.data.toList.drop i) == 0) = true from by simpa using a0] at A0
        have A0 := hide A0
        rw [show (knL (b.data.toList.drop k) == 0) = false from by simpa using b0] at C0
        have C0 := hide C0
        clear A2
        clear C2
        clear eA eB fA fB rA rB
        generalize skP a i = I at *
        generalize skP b k = K at *
        have hi' : (i : Int) < (a.size : Int) := by omega
        clear a0 b0
        go_wp2_with fail
        refine (SA.out _).mono ?_
        rintro e w' ⟨rfl, hw'⟩
        rw [hw']
        clear hw' w'
        go_wp2_with fail
        refine (SB.out _).mono ?_
        rintro e w' ⟨rfl, hw'⟩
        rw [hw']
        clear hw' w'
        go_wp2_with fail
        refine (A0.out _).mono ?_
        rintro e w' ⟨rfl, hw'⟩
        rw [hw']
        clear hw' w'
        go_wp2_with fail
        refine (C0.out _).mono ?_
        rintro e w' ⟨rfl, hw'⟩
        rw [hw']
        clear hw' w'
        go_wp2_with fail
        go_ret
        exact ⟨ret_i (by rw [HR.out, HV.out]), hB⟩
    by_cases b0 : knL (b.data.toList.drop k) = 0
    · by_cases w1 : i < a.size
      · have iB : ¬ skP b k = b.size := fun e => by have := eB.1 e; omega
        have HV : Hid (partO (a.data.toList.drop i) (b.data.toList.drop k) = 1) := by
          show _ = _
          rw [row_ne rfl b0 a0]
          unfold cmpI; (repeat' split) <;> omega
        rw [show (knL (a.data.toList.drop i) == 0) = false from by simpa using a0] at A0
        have A0 := hide A0
        rw [show (knL (b.data.toList.drop k) == 0) = true from by simpa using b0] at C0
        have C0 := hide C0
        clear A2
        clear C2
        clear eA eB fA fB rA rB
        generalize skP a i = I at *
        generalize skP b k = K at *
        have hi' : (i : Int) < (a.size : Int) := by omega
        clear a0 b0
        go_wp2_with fail
        refine (SA.out _).mono ?_
        rintro e w' ⟨rfl, hw'⟩
        rw [hw']
        clear hw' w'
        go_wp2_with fail
        refine (SB.out _).mono ?_
        rintro e w' ⟨rfl, hw'⟩
        rw [hw']
        clear hw' w'
        go_wp2_with fail
        refine (A0.out _).mono ?_
        rintro e w' ⟨rfl, hw'⟩
        rw [hw']
        clear hw' w'
        go_wp2_with fail
        refine (C0.out _).mono ?_
        rintro e w' ⟨rfl, hw'⟩
        rw [hw']
        clear hw' w'
        go_wp2_with fail
        go_ret
        exact ⟨ret_i (by rw [HR.out, HV.out]), hB⟩
      have iB : ¬ skP b k = b.size := fun e => by have := eB.1 e; omega
      have HV : Hid (partO (a.data.toList.drop i) (b.data.toList.drop k) = 1) := by
        show _ = _
        rw [row_ne rfl b0 a0]
        unfold cmpI; (repeat' split) <;> omega
      rw [show (knL (a.data.toList.drop i) == 0) = false from by simpa using a0] at A0
      have A0 := hide A0
      rw [show (knL (b.data.toList.drop k) == 0) = true from by simpa using b0] at C0
      have C0 := hide C0
      clear A2
      clear C2
      clear eA eB fA fB rA rB
      generalize skP a i = I at *
      generalize skP b k = K at *
      have hi' : ¬ (i : Int) < (a.size : Int) := by omega
      have hk' : (k : Int) < (b.size : Int) := by omega
      clear a0 b0
      go_wp2_with fail
      refine (SA.out _).mono ?_
      rintro e w' ⟨rfl, hw'⟩
      rw [hw']
      clear hw' w'
      go_wp2_with fail
      refine (SB.out _).mono ?_
      rintro e w' ⟨rfl, hw'⟩
      rw [hw']
      clear hw' w'
      go_wp2_with fail
      refine (A0.out _).mono ?_
      rintro e w' ⟨rfl, hw'⟩
      rw [hw']
      clear hw' w'
      go_wp2_with fail
      refine (C0.out _).mono ?_
      rintro e w' ⟨rfl, hw'⟩
      rw [hw']
      clear hw' w'
      go_wp2_with fail
      go_ret
      exact ⟨ret_i (by rw [HR.out, HV.out]), hB⟩
    by_cases a2 : knL (a.data.toList.drop i) = 2
    · by_cases b2 : knL (b.data.toList.drop k) = 2
      · have iA : ¬ skP a i = a.size := fun e => by have := eA.1 e; omega
        have iB : ¬ skP b k = b.size := fun e => by have := eB.1 e; omega
        have HV : Hid (partO (a.data.toList.drop i) (b.data.toList.drop k) = partO (a.data.toList.drop (skP a i + 1)) (b.data.toList.drop (skP b k + 1))) := by
          show _ = _
          rw [row_sign 94 2 (.inr rfl) kind_caret a2 b2, rA, rB, (tk_sign _ 2 (.inr rfl) a2).1, (tk_sign _ 2 (.inr rfl) b2).1]
        rw [show (knL (a.data.toList.drop i) == 0) = false from by simpa using a0] at A0
        have A0 := hide A0
        rw [show (knL (b.data.toList.drop k) == 0) = false from by simpa using b0] at C0
        have C0 := hide C0
        rw [show (knL (a.data.toList.drop i) == 2) = true from by simpa using a2] at A2
        have A2 := hide A2
        rw [show (knL (b.data.toList.drop k) == 2) = true from by simpa using b2] at C2
        have C2 := hide C2
        clear eA eB fA fB rA rB
        generalize skP a i = I at *
        generalize skP b k = K at *
        have hi' : (i : Int) < (a.size : Int) := by omega
        clear a0 b0 a2 b2
        go_wp2_with fail
        refine (SA.out _).mono ?_
        rintro e w' ⟨rfl, hw'⟩
        rw [hw']
        clear hw' w'
        go_wp2_with fail
        refine (SB.out _).mono ?_
        rintro e w' ⟨rfl, hw'⟩
        rw [hw']
        clear hw' w'
        go_wp2_with fail
        refine (A0.out _).mono ?_
        rintro e w' ⟨rfl, hw'⟩
        rw [hw']
        clear hw' w'
        go_wp2_with fail
        refine (C0.out _).mono ?_
        rintro e w' ⟨rfl, hw'⟩
        rw [hw']
        clear hw' w'
        go_wp2_with fail
        refine (A2.out _).mono ?_
        rintro e w' ⟨rfl, hw'⟩
        rw [hw']
        clear hw' w'
        go_wp2_with fail
        refine (C2.out _).mono ?_
        rintro e w' ⟨rfl, hw'⟩
        rw [hw']
        clear hw' w'
        go_wp2_with fail
        go_roundw
        case rel => exact ⟨I + 1, K + 1, by omega, by omega, by go_num, by go_num, hB, by show _ = _; rw [HR.out, HV.out]⟩
        case measure => simp [intOf]; omega
      by_cases b1 : knL (b.data.toList.drop k) = 1
      · have iA : ¬ skP a i = a.size := fun e => by have := eA.1 e; omega
        have jB : skP b k = b.size := eB.2 b1
        have HV : Hid (partO (a.data.toList.drop i) (b.data.toList.drop k) = 1) := by
          show _ = _
          rw [row_ne a2 b1 (by omega)]
          unfold cmpI; (repeat' split) <;> omega
        rw [show (knL (a.data.toList.drop i) == 0) = false from by simpa using a0] at A0
        have A0 := hide A0
        rw [show (knL (b.data.toList.drop k) == 0) = false from by simpa using b0] at C0
        have C0 := hide C0
        rw [show (knL (a.data.toList.drop i) == 2) = true from by simpa using a2] at A2
        have A2 := hide A2
        rw [show (knL (b.data.toList.drop k) == 2) = false from by simpa using b2] at C2
        have C2 := hide C2
        have jb : ((skP b k : Int) == (b.size : Int)) = true := by simp; omega
        clear eA eB fA fB rA rB
        generalize skP a i = I at *
        generalize skP b k = K at *
        have hi' : (i : Int) < (a.size : Int) := by omega
        clear a0 b0 a2 b2 b1 jB
        go_wp2_with fail
        refine (SA.out _).mono ?_
        rintro e w' ⟨rfl, hw'⟩
        rw [hw']
        clear hw' w'
        go_wp2_with fail
        refine (SB.out _).mono ?_
        rintro e w' ⟨rfl, hw'⟩
        rw [hw']
        clear hw' w'
        go_wp2_with fail
        refine (A0.out _).mono ?_
        rintro e w' ⟨rfl, hw'⟩
        rw [hw']
        clear hw' w'
        go_wp2_with fail
        refine (C0.out _).mono ?_
        rintro e w' ⟨rfl, hw'⟩
        rw [hw']
        clear hw' w'
        go_wp2_with fail
        refine (A2.out _).mono ?_
        rintro e w' ⟨rfl, hw'⟩
        rw [hw']
        clear hw' w'
        go_wp2_with fail
        refine (C2.out _).mono ?_
        rintro e w' ⟨rfl, hw'⟩
        rw [hw']
        clear hw' w'
        go_wp2_with fail
        go_ret
        exact ⟨ret_i (by rw [HR.out, HV.out]), hB⟩
      · have iA : ¬ skP a i = a.size := fun e => by have := eA.1 e; omega
        have jB : ¬ skP b k = b.size := fun e => b1 (eB.1 e)
        have HV : Hid (partO (a.data.toList.drop i) (b.data.toList.drop k) = -1) := by
          show _ = _
          rw [row_ne a2 rfl (fun e => b2 e.symm)]
          unfold cmpI; (repeat' split) <;> omega
        rw [show (knL (a.data.toList.drop i) == 0) = false from by simpa using a0] at A0
        have A0 := hide A0
        rw [show (knL (b.data.toList.drop k) == 0) = false from by simpa using b0] at C0
        have C0 := hide C0
        rw [show (knL (a.data.toList.drop i) == 2) = true from by simpa using a2] at A2
        have A2 := hide A2
        rw [show (knL (b.data.toList.drop k) == 2) = false from by simpa using b2] at C2
        have C2 := hide C2
        have jb : ((skP b k : Int) == (b.size : Int)) = false := by simp; omega
        clear eA eB fA fB rA rB
        generalize skP a i = I at *
        generalize skP b k = K at *
        have hi' : (i : Int) < (a.size : Int) := by omega
        clear a0 b0 a2 b2 b1
        go_wp2_with fail
        refine (SA.out _).mono ?_
        rintro e w' ⟨rfl, hw'⟩
        rw [hw']
        clear hw' w'
        go_wp2_with fail
        refine (SB.out _).mono ?_
        rintro e w' ⟨rfl, hw'⟩
        rw [hw']
        clear hw' w'
        go_wp2_with fail
        refine (A0.out _).mono ?_
        rintro e w' ⟨rfl, hw'⟩
        rw [hw']
        clear hw' w'
        go_wp2_with fail
        refine (C0.out _).mono ?_
        rintro e w' ⟨rfl, hw'⟩
        rw [hw']
        clear hw' w'
        go_wp2_with fail
        refine (A2.out _).mono ?_
        rintro e w' ⟨rfl, hw'⟩
        rw [hw']
        clear hw' w'
        go_wp2_with fail
        refine (C2.out _).mono ?_
        rintro e w' ⟨rfl, hw'⟩
        rw [hw']
        clear hw' w'
        go_wp2_with fail
        go_ret
        exact ⟨ret_i (by rw [HR.out, HV.out]), hB⟩
    by_cases b2 : knL (b.data.toList.drop k) = 2
    · by_cases a1 : knL (a.data.toList.drop i) = 1
      · by_cases w1 : i < a.size
        · have iA : skP a i = a.size := eA.2 a1
          have jB : ¬ skP b k = b.size := fun e => by have := eB.1 e; omega
          have HV : Hid (partO (a.data.toList.drop i) (b.data.toList.drop k) = -1) := by
            show _ = _
            rw [row_ne a1 b2 (by omega)]
            unfold cmpI; (repeat' split) <;> omega
          rw [show (knL (a.data.toList.drop i) == 0) = false from by simpa using a0] at A0
          have A0 := hide A0
          rw [show (knL (b.data.toList.drop k) == 0) = false from by simpa using b0] at C0
          have C0 := hide C0
          rw [show (knL (a.data.toList.drop i) == 2) = false from by simpa using a2] at A2
          have A2 := hide A2
          rw [show (knL (b.data.toList.drop k) == 2) = true from by simpa using b2] at C2
          have C2 := hide C2
          have ja : ((skP a i : Int) == (a.size : Int)) = true := by simp; omega
          clear eA eB fA fB rA rB
          generalize skP a i = I at *
          generalize skP b k = K at *
          have hi' : (i : Int) < (a.size : Int) := by omega
          clear a0 b0 a2 b2 a1 iA
          go_wp2_with fail
          refine (SA.out _).mono ?_
          rintro e w' ⟨rfl, hw'⟩
          rw [hw']
          clear hw' w'
          go_wp2_with fail
          refine (SB.out _).mono ?_
          rintro e w' ⟨rfl, hw'⟩
          rw [hw']
          clear hw' w'
          go_wp2_with fail
          refine (A0.out _).mono ?_
          rintro e w' ⟨rfl, hw'⟩
          rw [hw']
          clear hw' w'
          go_wp2_with fail
          refine (C0.out _).mono ?_
          rintro e w' ⟨rfl, hw'⟩
          rw [hw']
          clear hw' w'
          go_wp2_with fail
          refine (A2.out _).mono ?_
          rintro e w' ⟨rfl, hw'⟩
          rw [hw']
          clear hw' w'
          go_wp2_with fail
          refine (C2.out _).mono ?_
          rintro e w' ⟨rfl, hw'⟩
          rw [hw']
          clear hw' w'
          go_wp2_with fail
          go_ret
          exact ⟨ret_i (by rw [HR.out, HV.out]), hB⟩
        have iA : skP a i = a.size := eA.2 a1
        have jB : ¬ skP b k = b.size := fun e => by have := eB.1 e; omega
        have HV : Hid (partO (a.data.toList.drop i) (b.data.toList.drop k) = -1) := by
          show _ = _
          rw [row_ne a1 b2 (by omega)]
          unfold cmpI; (repeat' split) <;> omega
        rw [show (knL (a.data.toList.drop i) == 0) = false from by simpa using a0] at A0
        have A0 := hide A0
        rw [show (knL (b.data.toList.drop k) == 0) = false from by simpa using b0] at C0
        have C0 := hide C0
        rw [show (knL (a.data.toList.drop i) == 2) = false from by simpa using a2] at A2
        have A2 := hide A2
        rw [show (knL (b.data.toList.drop k) == 2) = true from by simpa using b2] at C2
        have C2 := hide C2
        have ja : ((skP a i : Int) == (a.size : Int)) = true := by simp; omega
        clear eA eB fA fB rA rB
        generalize skP a i = I at *
        generalize skP b k = K at *
        have hi' : ¬ (i : Int) < (a.size : Int) := by omega
        have hk' : (k : Int) < (b.size : Int) := by omega
        clear a0 b0 a2 b2 a1 iA
        go_wp2_with fail
        refine (SA.out _).mono ?_
        rintro e w' ⟨rfl, hw'⟩
        rw [hw']
        clear hw' w'
        go_wp2_with fail
        refine (SB.out _).mono ?_
        rintro e w' ⟨rfl, hw'⟩
        rw [hw']
        clear hw' w'
        go_wp2_with fail
        refine (A0.out _).mono ?_
        rintro e w' ⟨rfl, hw'⟩
        rw [hw']
        clear hw' w'
        go_wp2_with fail
        refine (C0.out _).mono ?_
        rintro e w' ⟨rfl, hw'⟩
        rw [hw']
        clear hw' w'
        go_wp2_with fail
        refine (A2.out _).mono ?_
        rintro e w' ⟨rfl, hw'⟩
        rw [hw']
        clear hw' w'
        go_wp2_with fail
        refine (C2.out _).mono ?_
        rintro e w' ⟨rfl, hw'⟩
        rw [hw']
        clear hw' w'
        go_wp2_with fail
        go_ret
        exact ⟨ret_i (by rw [HR.out, HV.out]), hB⟩
      · have iA : ¬ skP a i = a.size := fun e => a1 (eA.1 e)
        have HV : Hid (partO (a.data.toList.drop i) (b.data.toList.drop k) = 1) := by
          show _ = _
          rw [row_ne rfl b2 a2]
          unfold cmpI; (repeat' split) <;> omega
        rw [show (knL (a.data.toList.drop i) == 0) = false from by simpa using a0] at A0
        have A0 := hide A0
        rw [show (knL (b.data.toList.drop k) == 0) = false from by simpa using b0] at C0
        have C0 := hide C0
        rw [show (knL (a.data.toList.drop i) == 2) = false from by simpa using a2] at A2
        have A2 := hide A2
        rw [show (knL (b.data.toList.drop k) == 2) = true from by simpa using b2] at C2
        have C2 := hide C2
        have ja : ((skP a i : Int) == (a.size : Int)) = false := by simp; omega
        clear eA eB fA fB rA rB
        generalize skP a i = I at *
        generalize skP b k = K at *
        have hi' : (i : Int) < (a.size : Int) := by omega
        clear a0 b0 a2 b2 a1
        go_wp2_with fail
        refine (SA.out _).mono ?_
        rintro e w' ⟨rfl, hw'⟩
        rw [hw']
        clear hw' w'
        go_wp2_with fail
        refine (SB.out _).mono ?_
        rintro e w' ⟨rfl, hw'⟩
        rw [hw']
        clear hw' w'
        go_wp2_with fail
        refine (A0.out _).mono ?_
        rintro e w' ⟨rfl, hw'⟩
        rw [hw']
        clear hw' w'
        go_wp2_with fail
        refine (C0.out _).mono ?_
        rintro e w' ⟨rfl, hw'⟩
        rw [hw']
        clear hw' w'
        go_wp2_with fail
        refine (A2.out _).mono ?_
        rintro e w' ⟨rfl, hw'⟩
        rw [hw']
        clear hw' w'
        go_wp2_with fail
        refine (C2.out _).mono ?_
        rintro e w' ⟨rfl, hw'⟩
        rw [hw']
        clear hw' w'
        go_wp2_with fail
        go_ret
        exact ⟨ret_i (by rw [HR.out, HV.out]), hB⟩
    by_cases a1 : knL (a.data.toList.drop i) = 1
    · by_cases b1 : knL (b.data.toList.drop k) = 1
      · by_cases w1 : i < a.size
        · have iA : skP a i = a.size := eA.2 a1
          have iB : skP b k = b.size := eB.2 b1
          have HV : Hid (partO (a.data.toList.drop i) (b.data.toList.drop k) = 0) := row_none a1 b1
          rw [show (knL (a.data.toList.drop i) == 0) = false from by simpa using a0] at A0
          have A0 := hide A0
          rw [show (knL (b.data.toList.drop k) == 0) = false from by simpa using b0] at C0
          have C0 := hide C0
          rw [show (knL (a.data.toList.drop i) == 2) = false from by simpa using a2] at A2
          have A2 := hide A2
          rw [show (knL (b.data.toList.drop k) == 2) = false from by simpa using b2] at C2
          have C2 := hide C2
          have ja : ((skP a i : Int) == (a.size : Int)) = true := by simp; omega
          have na : ¬ (skP a i : Int) < (a.size : Int) := by omega
          have nb : ¬ (skP b k : Int) < (b.size : Int) := by omega
          clear eA eB fA fB rA rB
          generalize skP a i = I at *
          generalize skP b k = K at *
          have hi' : (i : Int) < (a.size : Int) := by omega
          clear a0 b0 a2 b2 a1 b1 iA iB
          go_wp2_with fail
          refine (SA.out _).mono ?_
          rintro e w' ⟨rfl, hw'⟩
          rw [hw']
          clear hw' w'
          go_wp2_with fail
          refine (SB.out _).mono ?_
          rintro e w' ⟨rfl, hw'⟩
          rw [hw']
          clear hw' w'
          go_wp2_with fail
          refine (A0.out _).mono ?_
          rintro e w' ⟨rfl, hw'⟩
          rw [hw']
          clear hw' w'
          go_wp2_with fail
          refine (C0.out _).mono ?_
          rintro e w' ⟨rfl, hw'⟩
          rw [hw']
          clear hw' w'
          go_wp2_with fail
          refine (A2.out _).mono ?_
          rintro e w' ⟨rfl, hw'⟩
          rw [hw']
          clear hw' w'
          go_wp2_with fail
          refine (C2.out _).mono ?_
          rintro e w' ⟨rfl, hw'⟩
          rw [hw']
          clear hw' w'
          go_wp2_with fail
          go_ret
          exact ⟨ret_i (by rw [HR.out, HV.out]), hB⟩
        by_cases w2 : k < b.size
        · have iA : skP a i = a.size := eA.2 a1
          have iB : skP b k = b.size := eB.2 b1
          have HV : Hid (partO (a.data.toList.drop i) (b.data.toList.drop k) = 0) := row_none a1 b1
          rw [show (knL (a.data.toList.drop i) == 0) = false from by simpa using a0] at A0
          have A0 := hide A0
          rw [show (knL (b.data.toList.drop k) == 0) = false from by simpa using b0] at C0
          have C0 := hide C0
          rw [show (knL (a.data.toList.drop i) == 2) = false from by simpa using a2] at A2
          have A2 := hide A2
          rw [show (knL (b.data.toList.drop k) == 2) = false from by simpa using b2] at C2
          have C2 := hide C2
          have ja : ((skP a i : Int) == (a.size : Int)) = true := by simp; omega
          have na : ¬ (skP a i : Int) < (a.size : Int) := by omega
          have nb : ¬ (skP b k : Int) < (b.size : Int) := by omega
          clear eA eB fA fB rA rB
          generalize skP a i = I at *
          generalize skP b k = K at *
          have hi' : ¬ (i : Int) < (a.size : Int) := by omega
          have hk' : (k : Int) < (b.size : Int) := by omega
          clear a0 b0 a2 b2 a1 b1 iA iB
          go_wp2_with fail
          refine (SA.out _).mono ?_
          rintro e w' ⟨rfl, hw'⟩
          rw [hw']
          clear hw' w'
          go_wp2_with fail
          refine (SB.out _).mono ?_
          rintro e w' ⟨rfl, hw'⟩
          rw [hw']
          clear hw' w'
          go_wp2_with fail
          refine (A0.out _).mono ?_
          rintro e w' ⟨rfl, hw'⟩
          rw [hw']
          clear hw' w'
          go_wp2_with fail
          refine (C0.out _).mono ?_
          rintro e w' ⟨rfl, hw'⟩
          rw [hw']
          clear hw' w'
          go_wp2_with fail
          refine (A2.out _).mono ?_
          rintro e w' ⟨rfl, hw'⟩
          rw [hw']
          clear hw' w'
          go_wp2_with fail
          refine (C2.out _).mono ?_
          rintro e w' ⟨rfl, hw'⟩
          rw [hw']
          clear hw' w'
          go_wp2_with fail
          go_ret
          exact ⟨ret_i (by rw [HR.out, HV.out]), hB⟩
        have iA : skP a i = a.size := eA.2 a1
        have iB : skP b k = b.size := eB.2 b1
        have HV : Hid (partO (a.data.toList.drop i) (b.data.toList.drop k) = 0) := row_none a1 b1
        rw [show (knL (a.data.toList.drop i) == 0) = false from by simpa using a0] at A0
        have A0 := hide A0
        rw [show (knL (b.data.toList.drop k) == 0) = false from by simpa using b0] at C0
        have C0 := hide C0
        rw [show (knL (a.data.toList.drop i) == 2) = false from by simpa using a2] at A2
        have A2 := hide A2
        rw [show (knL (b.data.toList.drop k) == 2) = false from by simpa using b2] at C2
        have C2 := hide C2
        have ja : ((skP a i : Int) == (a.size : Int)) = true := by simp; omega
        have na : ¬ (skP a i : Int) < (a.size : Int) := by omega
        have nb : ¬ (skP b k : Int) < (b.size : Int) := by omega
        clear eA eB fA fB rA rB
        generalize skP a i = I at *
        generalize skP b k = K at *
        have hi' : ¬ (i : Int) < (a.size : Int) := by omega
        have hk' : ¬ (k : Int) < (b.size : Int) := by omega
        clear a0 b0 a2 b2 a1 b1 iA iB
        go_wp2_with fail
        go_ret
        exact ⟨ret_i (by rw [HR.out, HV.out]), hB⟩
      · by_cases w1 : i < a.size
        · have iA : skP a i = a.size := eA.2 a1
          have jB : ¬ skP b k = b.size := fun e => b1 (eB.1 e)
          have HV : Hid (partO (a.data.toList.drop i) (b.data.toList.drop k) = -1) := by
            show _ = _
            rw [row_ne a1 rfl (fun e => b1 e.symm)]
            unfold cmpI; (repeat' split) <;> omega
          rw [show (knL (a.data.toList.drop i) == 0) = false from by simpa using a0] at A0
          have A0 := hide A0
          rw [show (knL (b.data.toList.drop k) == 0) = false from by simpa using b0] at C0
          have C0 := hide C0
          rw [show (knL (a.data.toList.drop i) == 2) = false from by simpa using a2] at A2
          have A2 := hide A2
          rw [show (knL (b.data.toList.drop k) == 2) = false from by simpa using b2] at C2
          have C2 := hide C2
          have ja : ((skP a i : Int) == (a.size : Int)) = true := by simp; omega
          have na : ¬ (skP a i : Int) < (a.size : Int) := by omega
          have nb : (skP b k : Int) < (b.size : Int) := by omega
          clear eA eB fA fB rA rB
          generalize skP a i = I at *
          generalize skP b k = K at *
          have hi' : (i : Int) < (a.size : Int) := by omega
          clear a0 b0 a2 b2 a1 b1 iA
          go_wp2_with fail
          refine (SA.out _).mono ?_
          rintro e w' ⟨rfl, hw'⟩
          rw [hw']
          clear hw' w'
          go_wp2_with fail
          refine (SB.out _).mono ?_
          rintro e w' ⟨rfl, hw'⟩
          rw [hw']
          clear hw' w'
          go_wp2_with fail
          refine (A0.out _).mono ?_
          rintro e w' ⟨rfl, hw'⟩
          rw [hw']
          clear hw' w'
          go_wp2_with fail
          refine (C0.out _).mono ?_
          rintro e w' ⟨rfl, hw'⟩
          rw [hw']
          clear hw' w'
          go_wp2_with fail
          refine (A2.out _).mono ?_
          rintro e w' ⟨rfl, hw'⟩
          rw [hw']
          clear hw' w'
          go_wp2_with fail
          refine (C2.out _).mono ?_
          rintro e w' ⟨rfl, hw'⟩
          rw [hw']
          clear hw' w'
          go_wp2_with fail
          go_ret
          exact ⟨ret_i (by rw [HR.out, HV.out]), hB⟩
        have iA : skP a i = a.size := eA.2 a1
        have jB : ¬ skP b k = b.size := fun e => b1 (eB.1 e)
        have HV : Hid (partO (a.data.toList.drop i) (b.data.toList.drop k) = -1) := by
          show _ = _
          rw [row_ne a1 rfl (fun e => b1 e.symm)]
          unfold cmpI; (repeat' split) <;> omega
        rw [show (knL (a.data.toList.drop i) == 0) = false from by simpa using a0] at A0
        have A0 := hide A0
        rw [show (knL (b.data.toList.drop k) == 0) = false from by simpa using b0] at C0
        have C0 := hide C0
        rw [show (knL (a.data.toList.drop i) == 2) = false from by simpa using a2] at A2
        have A2 := hide A2
        rw [show (knL (b.data.toList.drop k) == 2) = false from by simpa using b2] at C2
        have C2 := hide C2
        have ja : ((skP a i : Int) == (a.size : Int)) = true := by simp; omega
        have na : ¬ (skP a i : Int) < (a.size : Int) := by omega
        have nb : (skP b k : Int) < (b.size : Int) := by omega
        clear eA eB fA fB rA rB
        generalize skP a i = I at *
        generalize skP b k = K at *
        have hi' : ¬ (i : Int) < (a.size : Int) := by omega
        have hk' : (k : Int) < (b.size : Int) := by omega
        clear a0 b0 a2 b2 a1 b1 iA
        go_wp2_with fail
        refine (SA.out _).mono ?_
        rintro e w' ⟨rfl, hw'⟩
        rw [hw']
        clear hw' w'
        go_wp2_with fail
        refine (SB.out _).mono ?_
        rintro e w' ⟨rfl, hw'⟩
        rw [hw']
        clear hw' w'
        go_wp2_with fail
        refine (A0.out _).mono ?_
        rintro e w' ⟨rfl, hw'⟩
        rw [hw']
        clear hw' w'
        go_wp2_with fail
        refine (C0.out _).mono ?_
        rintro e w' ⟨rfl, hw'⟩
        rw [hw']
        clear hw' w'
        go_wp2_with fail
        refine (A2.out _).mono ?_
        rintro e w' ⟨rfl, hw'⟩
        rw [hw']
        clear hw' w'
        go_wp2_with fail
        refine (C2.out _).mono ?_
        rintro e w' ⟨rfl, hw'⟩
        rw [hw']
        clear hw' w'
        go_wp2_with fail
        go_ret
        exact ⟨ret_i (by rw [HR.out, HV.out]), hB⟩
    by_cases b1 : knL (b.data.toList.drop k) = 1
    · have iA : ¬ skP a i = a.size := fun e => a1 (eA.1 e)
      have jB : skP b k = b.size := eB.2 b1
      have HV : Hid (partO (a.data.toList.drop i) (b.data.toList.drop k) = 1) := by
        show _ = _
        rw [row_ne rfl b1 a1]
        unfold cmpI; (repeat' split) <;> omega
      rw [show (knL (a.data.toList.drop i) == 0) = false from by simpa using a0] at A0
      have A0 := hide A0
      rw [show (knL (b.data.toList.drop k) == 0) = false from by simpa using b0] at C0
      have C0 := hide C0
      rw [show (knL (a.data.toList.drop i) == 2) = false from by simpa using a2] at A2
      have A2 := hide A2
      rw [show (knL (b.data.toList.drop k) == 2) = false from by simpa using b2] at C2
      have C2 := hide C2
      have ja : ((skP a i : Int) == (a.size : Int)) = false := by simp; omega
      have jb : ((skP b k : Int) == (b.size : Int)) = true := by simp; omega
      have na : (skP a i : Int) < (a.size : Int) := by omega
      clear eA eB fA fB rA rB
      generalize skP a i = I at *
      generalize skP b k = K at *
      have hi' : (i : Int) < (a.size : Int) := by omega
      clear a0 b0 a2 b2 a1 b1 jB
      go_wp2_with fail
      refine (SA.out _).mono ?_
      rintro e w' ⟨rfl, hw'⟩
      rw [hw']
      clear hw' w'
      go_wp2_with fail
      refine (SB.out _).mono ?_
      rintro e w' ⟨rfl, hw'⟩
      rw [hw']
      clear hw' w'
      go_wp2_with fail
      refine (A0.out _).mono ?_
      rintro e w' ⟨rfl, hw'⟩
      rw [hw']
      clear hw' w'
      go_wp2_with fail
      refine (C0.out _).mono ?_
      rintro e w' ⟨rfl, hw'⟩
      rw [hw']
      clear hw' w'
      go_wp2_with fail
      refine (A2.out _).mono ?_
      rintro e w' ⟨rfl, hw'⟩
      rw [hw']
      clear hw' w'
      go_wp2_with fail
      refine (C2.out _).mono ?_
      rintro e w' ⟨rfl, hw'⟩
      rw [hw']
      clear hw' w'
      go_wp2_with fail
      go_ret
      exact ⟨ret_i (by rw [HR.out, HV.out]), hB⟩
    by_cases a4 : knL (a.data.toList.drop i) = 4
    · by_cases b4 : knL (b.data.toList.drop k) = 4
      · have iA : skP a i < a.size := by have : ¬ skP a i = a.size := fun e => a1 (eA.1 e); omega
        have iB : skP b k < b.size := by have : ¬ skP b k = b.size := fun e => b1 (eB.1 e); omega
        have ja : ((skP a i : Int) == (a.size : Int)) = false := by simp; omega
        have jb : ((skP b k : Int) == (b.size : Int)) = false := by simp; omega
        have na : (skP a i : Int) < (a.size : Int) := by omega
        have kd := kind_dig a[skP a i]
        rw [← kn_at a i iA] at kd
        have IS := fun w => RIs_any (a[skP a i].toNat : Int) 1 w
        rw [← kd] at IS
        rw [show (knL (a.data.toList.drop i) == 4) = true from by simpa using a4] at IS
        have IS := hide IS
        clear kd
        have aK := a4
        have bK := b4
        have tA := tk_run _ 4 1 (.inr ⟨rfl, rfl⟩) aK
        have tB := tk_run _ 4 1 (.inr ⟨rfl, rfl⟩) bK
        have pA := run_pos _ 4 1 (.inr ⟨rfl, rfl⟩) aK
        have pB := run_pos _ 4 1 (.inr ⟨rfl, rfl⟩) bK
        rw [← tA] at pA
        rw [← tB] at pB
        rw [skP_drop] at tA tB
        have RA := hide (RRun_at a (skP a i) 1 _ ha (by omega) tA.symm)
        have RB := hide (RRun_at b (skP b k) 1 _ hb (by omega) tB.symm)
        have lA : skP a i + tkN (a.data.toList.drop i) ≤ a.size := by rw [tA]; exact runL_drop_le 1 a _ (by omega)
        have lB : skP b k + tkN (b.data.toList.drop k) ≤ b.size := by rw [tB]; exact runL_drop_le 1 b _ (by omega)
        have xA := tx_at a i
        have xB := tx_at b k
        have hV := row_dig aK bK
        have TX := fun w => Texts_any (ofL (txL (a.data.toList.drop i))) (ofL (txL (b.data.toList.drop k))) w
        have CM := fun w => RCmp_any (ofL (txL (a.data.toList.drop i))) (ofL (txL (b.data.toList.drop k))) w (by rw [ofL_size]; have := txL_le (a.data.toList.drop i); rw [List.length_drop, len_data] at this; omega) (by rw [ofL_size]; have := txL_le (b.data.toList.drop k); rw [List.length_drop, len_data] at this; omega)
        rw [ofL_data, ofL_data, xA, xB] at TX CM
        have TX := hide TX
        have CM := hide CM
        generalize cmpD (txL (a.data.toList.drop i)) (txL (b.data.toList.drop k)) = c at *
        generalize Lib.compareBytes (txL (a.data.toList.drop i)) (txL (b.data.toList.drop k)) = tx at *
        rw [rA, rB] at hV
        rw [show (knL (a.data.toList.drop i) == 0) = false from by simpa using a0] at A0
        have A0 := hide A0
        rw [show (knL (b.data.toList.drop k) == 0) = false from by simpa using b0] at C0
        have C0 := hide C0
        rw [show (knL (a.data.toList.drop i) == 2) = false from by simpa using a2] at A2
        have A2 := hide A2
        rw [show (knL (b.data.toList.drop k) == 2) = false from by simpa using b2] at C2
        have C2 := hide C2
        generalize tkN (a.data.toList.drop i) = TA at *
        generalize tkN (b.data.toList.drop k) = TB at *
        clear xA xB tA tB aK bK
        clear eA eB fA fB rA rB
        generalize skP a i = I at *
        generalize skP b k = K at *
        have hi' : (i : Int) < (a.size : Int) := by omega
        clear a0 b0 a2 b2 a1 b1 a4 b4
        have nk : (((K + TB : Nat) : Int) == (K : Int)) = false := by simp; omega
        have gA : (I : Int) ≤ ((I + TA : Nat) : Int) := by omega
        have gB : (K : Int) ≤ ((K + TB : Nat) : Int) := by omega
        have gA' : ((I + TA : Nat) : Int) ≤ (a.size : Int) := by omega
        have gB' : ((K + TB : Nat) : Int) ≤ (b.size : Int) := by omega
        have uA : I < I + TA := by omega
        have uB : K < K + TB := by omega
        have hV := hide hV
        generalize hM : I + TA = M at *
        generalize hN : K + TB = N at *
        clear hM hN pA pB
        by_cases hc : c = 0
        · subst hc
          have HV : Hid (partO (a.data.toList.drop i) (b.data.toList.drop k) = partO (a.data.toList.drop M) (b.data.toList.drop N)) := by show _ = _; rw [hV.out, if_pos rfl]
          clear hV
          go_wp2_with fail
          refine (SA.out _).mono ?_
          rintro e w' ⟨rfl, hw'⟩
          rw [hw']
          clear hw' w'
          go_wp2_with fail
          refine (SB.out _).mono ?_
          rintro e w' ⟨rfl, hw'⟩
          rw [hw']
          clear hw' w'
          go_wp2_with fail
          refine (A0.out _).mono ?_
          rintro e w' ⟨rfl, hw'⟩
          rw [hw']
          clear hw' w'
          go_wp2_with fail
          refine (C0.out _).mono ?_
          rintro e w' ⟨rfl, hw'⟩
          rw [hw']
          clear hw' w'
          go_wp2_with fail
          refine (A2.out _).mono ?_
          rintro e w' ⟨rfl, hw'⟩
          rw [hw']
          clear hw' w'
          go_wp2_with fail
          refine (C2.out _).mono ?_
          rintro e w' ⟨rfl, hw'⟩
          rw [hw']
          clear hw' w'
          go_wp2_with fail
          refine (IS.out _).mono ?_
          rintro e w' ⟨rfl, hw'⟩
          rw [hw']
          clear hw' w'
          go_wp2_with fail
          refine (RA.out _).mono ?_
          rintro e w' ⟨rfl, hw'⟩
          rw [hw']
          clear hw' w'
          go_wp2_with fail
          refine (RB.out _).mono ?_
          rintro e w' ⟨rfl, hw'⟩
          rw [hw']
          clear hw' w'
          go_wp2_with fail
          go_quiet (first | (go_at_call 35; exact Calls.quiet_of_same (TX.out _)) | fail)
          have hB := hB.trans (below_drewN _ wr nq)
          generalize wr.drewN nq = wq at *
          go_wp2_with fail
          go_quiet (first | (go_at_call 36; exact Calls.quiet_of_same (CM.out _)) | fail)
          go_wp2_with fail
          go_roundw
          case rel => exact ⟨M, N, by omega, by omega, rfl, rfl, hB.trans (below_drewN _ _ _), by show _ = _; rw [HR.out, HV.out]⟩
          case measure => simp [intOf]; omega
        · have HV : Hid (partO (a.data.toList.drop i) (b.data.toList.drop k) = c) := by show _ = _; rw [hV.out, if_neg hc]
          have hcb : (c != 0) = true := by simpa using hc
          clear hc
          clear hV
          go_wp2_with fail
          refine (SA.out _).mono ?_
          rintro e w' ⟨rfl, hw'⟩
          rw [hw']
          clear hw' w'
          go_wp2_with fail
          refine (SB.out _).mono ?_
          rintro e w' ⟨rfl, hw'⟩
          rw [hw']
          clear hw' w'
          go_wp2_with fail
          refine (A0.out _).mono ?_
          rintro e w' ⟨rfl, hw'⟩
          rw [hw']
          clear hw' w'
          go_wp2_with fail
          refine (C0.out _).mono ?_
          rintro e w' ⟨rfl, hw'⟩
          rw [hw']
          clear hw' w'
          go_wp2_with fail
          refine (A2.out _).mono ?_
          rintro e w' ⟨rfl, hw'⟩
          rw [hw']
          clear hw' w'
          go_wp2_with fail
          refine (C2.out _).mono ?_
          rintro e w' ⟨rfl, hw'⟩
          rw [hw']
          clear hw' w'
          go_wp2_with fail
          refine (IS.out _).mono ?_
          rintro e w' ⟨rfl, hw'⟩
          rw [hw']
          clear hw' w'
          go_wp2_with fail
          refine (RA.out _).mono ?_
          rintro e w' ⟨rfl, hw'⟩
          rw [hw']
          clear hw' w'
          go_wp2_with fail
          refine (RB.out _).mono ?_
          rintro e w' ⟨rfl, hw'⟩
          rw [hw']
          clear hw' w'
          go_wp2_with fail
          go_quiet (first | (go_at_call 35; exact Calls.quiet_of_same (TX.out _)) | fail)
          have hB := hB.trans (below_drewN _ wr nq)
          generalize wr.drewN nq = wq at *
          go_wp2_with fail
          go_quiet (first | (go_at_call 36; exact Calls.quiet_of_same (CM.out _)) | fail)
          go_wp2_with fail
          go_ret
          exact ⟨ret_i (by rw [HR.out, HV.out]), hB.trans (below_drewN _ _ _)⟩
      · have iA : skP a i < a.size := by have : ¬ skP a i = a.size := fun e => a1 (eA.1 e); omega
        have iB : skP b k < b.size := by have : ¬ skP b k = b.size := fun e => b1 (eB.1 e); omega
        have ja : ((skP a i : Int) == (a.size : Int)) = false := by simp; omega
        have jb : ((skP b k : Int) == (b.size : Int)) = false := by simp; omega
        have na : (skP a i : Int) < (a.size : Int) := by omega
        have kd := kind_dig a[skP a i]
        rw [← kn_at a i iA] at kd
        have IS := fun w => RIs_any (a[skP a i].toNat : Int) 1 w
        rw [← kd] at IS
        rw [show (knL (a.data.toList.drop i) == 4) = true from by simpa using a4] at IS
        have IS := hide IS
        clear kd
        have b3 : knL (b.data.toList.drop k) = 3 := by omega
        have tA := tk_run _ 4 1 (.inr ⟨rfl, rfl⟩) a4
        have tB := run_other _ 3 1 (.inr ⟨by omega, rfl⟩) b3
        rw [skP_drop] at tA tB
        have RA := hide (RRun_at a (skP a i) 1 _ ha (by omega) tA.symm)
        have RB := hide (RRun_at b (skP b k) 1 0 hb (by omega) tB)
        have HV : Hid (partO (a.data.toList.drop i) (b.data.toList.drop k) = 1) := by
          show _ = _
          rw [row_ne a4 b3 (by omega)]
          unfold cmpI; (repeat' split) <;> omega
        rw [show (knL (a.data.toList.drop i) == 0) = false from by simpa using a0] at A0
        have A0 := hide A0
        rw [show (knL (b.data.toList.drop k) == 0) = false from by simpa using b0] at C0
        have C0 := hide C0
        rw [show (knL (a.data.toList.drop i) == 2) = false from by simpa using a2] at A2
        have A2 := hide A2
        rw [show (knL (b.data.toList.drop k) == 2) = false from by simpa using b2] at C2
        have C2 := hide C2
        generalize tkN (a.data.toList.drop i) = TA at *
        clear eA eB fA fB rA rB
        generalize skP a i = I at *
        generalize skP b k = K at *
        have hi' : (i : Int) < (a.size : Int) := by omega
        clear a0 b0 a2 b2 a1 b1 a4 b4 b3 tA tB
        go_wp2_with fail
        refine (SA.out _).mono ?_
        rintro e w' ⟨rfl, hw'⟩
        rw [hw']
        clear hw' w'
        go_wp2_with fail
        refine (SB.out _).mono ?_
        rintro e w' ⟨rfl, hw'⟩
        rw [hw']
        clear hw' w'
        go_wp2_with fail
        refine (A0.out _).mono ?_
        rintro e w' ⟨rfl, hw'⟩
        rw [hw']
        clear hw' w'
        go_wp2_with fail
        refine (C0.out _).mono ?_
        rintro e w' ⟨rfl, hw'⟩
        rw [hw']
        clear hw' w'
        go_wp2_with fail
        refine (A2.out _).mono ?_
        rintro e w' ⟨rfl, hw'⟩
        rw [hw']
        clear hw' w'
        go_wp2_with fail
        refine (C2.out _).mono ?_
        rintro e w' ⟨rfl, hw'⟩
        rw [hw']
        clear hw' w'
        go_wp2_with fail
        refine (IS.out _).mono ?_
        rintro e w' ⟨rfl, hw'⟩
        rw [hw']
        clear hw' w'
        go_wp2_with fail
        refine (RA.out _).mono ?_
        rintro e w' ⟨rfl, hw'⟩
        rw [hw']
        clear hw' w'
        go_wp2_with fail
        refine (RB.out _).mono ?_
        rintro e w' ⟨rfl, hw'⟩
        rw [hw']
        clear hw' w'
        go_wp2_with fail
        go_ret
        exact ⟨ret_i (by rw [HR.out, HV.out]), hB⟩
    by_cases b4 : knL (b.data.toList.drop k) = 4
    · have iA : skP a i < a.size := by have : ¬ skP a i = a.size := fun e => a1 (eA.1 e); omega
      have iB : skP b k < b.size := by have : ¬ skP b k = b.size := fun e => b1 (eB.1 e); omega
      have ja : ((skP a i : Int) == (a.size : Int)) = false := by simp; omega
      have jb : ((skP b k : Int) == (b.size : Int)) = false := by simp; omega
      have na : (skP a i : Int) < (a.size : Int) := by omega
      have kd := kind_dig a[skP a i]
      rw [← kn_at a i iA] at kd
      have IS := fun w => RIs_any (a[skP a i].toNat : Int) 1 w
      rw [← kd] at IS
      rw [show (knL (a.data.toList.drop i) == 4) = false from by simpa using a4] at IS
      have IS := hide IS
      clear kd
      have a3 : knL (a.data.toList.drop i) = 3 := by omega
      have tA := tk_run _ 3 4 (.inl ⟨rfl, rfl⟩) a3
      have tB := run_other _ 4 4 (.inl ⟨by omega, rfl⟩) b4
      rw [skP_drop] at tA tB
      have RA := hide (RRun_at a (skP a i) 4 _ ha (by omega) tA.symm)
      have RB := hide (RRun_at b (skP b k) 4 0 hb (by omega) tB)
      have HV : Hid (partO (a.data.toList.drop i) (b.data.toList.drop k) = -1) := by
        show _ = _
        rw [row_ne a3 b4 (by omega)]
        unfold cmpI; (repeat' split) <;> omega
      rw [show (knL (a.data.toList.drop i) == 0) = false from by simpa using a0] at A0
      have A0 := hide A0
      rw [show (knL (b.data.toList.drop k) == 0) = false from by simpa using b0] at C0
      have C0 := hide C0
      rw [show (knL (a.data.toList.drop i) == 2) = false from by simpa using a2] at A2
      have A2 := hide A2
      rw [show (knL (b.data.toList.drop k) == 2) = false from by simpa using b2] at C2
      have C2 := hide C2
      generalize tkN (a.data.toList.drop i) = TA at *
      clear eA eB fA fB rA rB
      generalize skP a i = I at *
      generalize skP b k = K at *
      have hi' : (i : Int) < (a.size : Int) := by omega
      clear a0 b0 a2 b2 a1 b1 a4 b4 a3 tA tB
      go_wp2_with fail
      refine (SA.out _).mono ?_
      rintro e w' ⟨rfl, hw'⟩
      rw [hw']
      clear hw' w'
      go_wp2_with fail
      refine (SB.out _).mono ?_
      rintro e w' ⟨rfl, hw'⟩
      rw [hw']
      clear hw' w'
      go_wp2_with fail
      refine (A0.out _).mono ?_
      rintro e w' ⟨rfl, hw'⟩
      rw [hw']
      clear hw' w'
      go_wp2_with fail
      refine (C0.out _).mono ?_
      rintro e w' ⟨rfl, hw'⟩
      rw [hw']
      clear hw' w'
      go_wp2_with fail
      refine (A2.out _).mono ?_
      rintro e w' ⟨rfl, hw'⟩
      rw [hw']
      clear hw' w'
      go_wp2_with fail
      refine (C2.out _).mono ?_
      rintro e w' ⟨rfl, hw'⟩
      rw [hw']
      clear hw' w'
      go_wp2_with fail
      refine (IS.out _).mono ?_
      rintro e w' ⟨rfl, hw'⟩
      rw [hw']
      clear hw' w'
      go_wp2_with fail
      refine (RA.out _).mono ?_
      rintro e w' ⟨rfl, hw'⟩
      rw [hw']
      clear hw' w'
      go_wp2_with fail
      refine (RB.out _).mono ?_
      rintro e w' ⟨rfl, hw'⟩
      rw [hw']
      clear hw' w'
      go_wp2_with fail
      go_ret
      exact ⟨ret_i (by rw [HR.out, HV.out]), hB⟩
    · have iA : skP a i < a.size := by have : ¬ skP a i = a.size := fun e => a1 (eA.1 e); omega
      have iB : skP b k < b.size := by have : ¬ skP b k = b.size := fun e => b1 (eB.1 e); omega
      have ja : ((skP a i : Int) == (a.size : Int)) = false := by simp; omega
      have jb : ((skP b k : Int) == (b.size : Int)) = false := by simp; omega
      have na : (skP a i : Int) < (a.size : Int) := by omega
      have kd := kind_dig a[skP a i]
      rw [← kn_at a i iA] at kd
      have IS := fun w => RIs_any (a[skP a i].toNat : Int) 1 w
      rw [← kd] at IS
      rw [show (knL (a.data.toList.drop i) == 4) = false from by simpa using a4] at IS
      have IS := hide IS
      clear kd
      have aK : knL (a.data.toList.drop i) = 3 := by omega
      have bK : knL (b.data.toList.drop k) = 3 := by omega
      have tA := tk_run _ 3 4 (.inl ⟨rfl, rfl⟩) aK
      have tB := tk_run _ 3 4 (.inl ⟨rfl, rfl⟩) bK
      have pA := run_pos _ 3 4 (.inl ⟨rfl, rfl⟩) aK
      have pB := run_pos _ 3 4 (.inl ⟨rfl, rfl⟩) bK
      rw [← tA] at pA
      rw [← tB] at pB
      rw [skP_drop] at tA tB
      have RA := hide (RRun_at a (skP a i) 4 _ ha (by omega) tA.symm)
      have RB := hide (RRun_at b (skP b k) 4 _ hb (by omega) tB.symm)
      have lA : skP a i + tkN (a.data.toList.drop i) ≤ a.size := by rw [tA]; exact runL_drop_le 4 a _ (by omega)
      have lB : skP b k + tkN (b.data.toList.drop k) ≤ b.size := by rw [tB]; exact runL_drop_le 4 b _ (by omega)
      have xA := tx_at a i
      have xB := tx_at b k
      have hV := row_let aK bK
      have TX := fun w => Texts_any (ofL (txL (a.data.toList.drop i))) (ofL (txL (b.data.toList.drop k))) w
      rw [ofL_data, ofL_data, xA, xB] at TX
      have TX := hide TX
      generalize Lib.compareBytes (txL (a.data.toList.drop i)) (txL (b.data.toList.drop k)) = c at *
      rw [rA, rB] at hV
      rw [show (knL (a.data.toList.drop i) == 0) = false from by simpa using a0] at A0
      have A0 := hide A0
      rw [show (knL (b.data.toList.drop k) == 0) = false from by simpa using b0] at C0
      have C0 := hide C0
      rw [show (knL (a.data.toList.drop i) == 2) = false from by simpa using a2] at A2
      have A2 := hide A2
      rw [show (knL (b.data.toList.drop k) == 2) = false from by simpa using b2] at C2
      have C2 := hide C2
      generalize tkN (a.data.toList.drop i) = TA at *
      generalize tkN (b.data.toList.drop k) = TB at *
      clear xA xB tA tB aK bK
      clear eA eB fA fB rA rB
      generalize skP a i = I at *
      generalize skP b k = K at *
      have hi' : (i : Int) < (a.size : Int) := by omega
      clear a0 b0 a2 b2 a1 b1 a4 b4
      have nk : (((K + TB : Nat) : Int) == (K : Int)) = false := by simp; omega
      have gA : (I : Int) ≤ ((I + TA : Nat) : Int) := by omega
      have gB : (K : Int) ≤ ((K + TB : Nat) : Int) := by omega
      have gA' : ((I + TA : Nat) : Int) ≤ (a.size : Int) := by omega
      have gB' : ((K + TB : Nat) : Int) ≤ (b.size : Int) := by omega
      have uA : I < I + TA := by omega
      have uB : K < K + TB := by omega
      have hV := hide hV
      generalize hM : I + TA = M at *
      generalize hN : K + TB = N at *
      clear hM hN pA pB
      by_cases hc : c = 0
      · subst hc
        have HV : Hid (partO (a.data.toList.drop i) (b.data.toList.drop k) = partO (a.data.toList.drop M) (b.data.toList.drop N)) := by show _ = _; rw [hV.out, if_pos rfl]
        clear hV
        go_wp2_with fail
        refine (SA.out _).mono ?_
        rintro e w' ⟨rfl, hw'⟩
        rw [hw']
        clear hw' w'
        go_wp2_with fail
        refine (SB.out _).mono ?_
        rintro e w' ⟨rfl, hw'⟩
        rw [hw']
        clear hw' w'
        go_wp2_with fail
        refine (A0.out _).mono ?_
        rintro e w' ⟨rfl, hw'⟩
        rw [hw']
        clear hw' w'
        go_wp2_with fail
        refine (C0.out _).mono ?_
        rintro e w' ⟨rfl, hw'⟩
        rw [hw']
        clear hw' w'
        go_wp2_with fail
        refine (A2.out _).mono ?_
        rintro e w' ⟨rfl, hw'⟩
        rw [hw']
        clear hw' w'
        go_wp2_with fail
        refine (C2.out _).mono ?_
        rintro e w' ⟨rfl, hw'⟩
        rw [hw']
        clear hw' w'
        go_wp2_with fail
        refine (IS.out _).mono ?_
        rintro e w' ⟨rfl, hw'⟩
        rw [hw']
        clear hw' w'
        go_wp2_with fail
        refine (RA.out _).mono ?_
        rintro e w' ⟨rfl, hw'⟩
        rw [hw']
        clear hw' w'
        go_wp2_with fail
        refine (RB.out _).mono ?_
        rintro e w' ⟨rfl, hw'⟩
        rw [hw']
        clear hw' w'
        go_wp2_with fail
        go_quiet (first | (go_at_call 35; exact Calls.quiet_of_same (TX.out _)) | fail)
        go_wp2_with fail
        go_roundw
        case rel => exact ⟨M, N, by omega, by omega, rfl, rfl, hB.trans (below_drewN _ _ _), by show _ = _; rw [HR.out, HV.out]⟩
        case measure => simp [intOf]; omega
      · have HV : Hid (partO (a.data.toList.drop i) (b.data.toList.drop k) = c) := by show _ = _; rw [hV.out, if_neg hc]
        have hcb : (c != 0) = true := by simpa using hc
        clear hc
        clear hV
        go_wp2_with fail
        refine (SA.out _).mono ?_
        rintro e w' ⟨rfl, hw'⟩
        rw [hw']
        clear hw' w'
        go_wp2_with fail
        refine (SB.out _).mono ?_
        rintro e w' ⟨rfl, hw'⟩
        rw [hw']
        clear hw' w'
        go_wp2_with fail
        refine (A0.out _).mono ?_
        rintro e w' ⟨rfl, hw'⟩
        rw [hw']
        clear hw' w'
        go_wp2_with fail
        refine (C0.out _).mono ?_
        rintro e w' ⟨rfl, hw'⟩
        rw [hw']
        clear hw' w'
        go_wp2_with fail
        refine (A2.out _).mono ?_
        rintro e w' ⟨rfl, hw'⟩
        rw [hw']
        clear hw' w'
        go_wp2_with fail
        refine (C2.out _).mono ?_
        rintro e w' ⟨rfl, hw'⟩
        rw [hw']
        clear hw' w'
        go_wp2_with fail
        refine (IS.out _).mono ?_
        rintro e w' ⟨rfl, hw'⟩
        rw [hw']
        clear hw' w'
        go_wp2_with fail
        refine (RA.out _).mono ?_
        rintro e w' ⟨rfl, hw'⟩
        rw [hw']
        clear hw' w'
        go_wp2_with fail
        refine (RB.out _).mono ?_
        rintro e w' ⟨rfl, hw'⟩
        rw [hw']
        clear hw' w'
        go_wp2_with fail
        go_quiet (first | (go_at_call 35; exact Calls.quiet_of_same (TX.out _)) | fail)
        go_wp2_with fail
        go_ret
        exact ⟨ret_i (by rw [HR.out, HV.out]), hB.trans (below_drewN _ _ _)⟩
end Go.Proofs.Ytmcabgjcppnihaa
