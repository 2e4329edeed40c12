/-
  Walks: two ranges turned round.
-/
import Derived.Test.YthojcidbhojlhaaMt
namespace Go.Proofs.Ythojcidbhojlhaa
open Go.RowKit Go.Shelf
set_option linter.unusedVariables false

set_option maxRecDepth 100000 in
set_option maxHeartbeats 1000000 in
theorem rotate_any {α : Type} (E : Cel α) (w0 : World) (B : Nat) (P U V S : List α) (N a m b : Nat) (hN : (P ++ (U ++ (V ++ S))).length = N) (ha : P.length = a) (hm : a + U.length = m) (hb : m + V.length = b) (hU : 0 < U.length) (hV : 0 < V.length) (fn : Value) (w : World) (hd : DW E w0 B (P ++ (U ++ (V ++ S))) w) (hl : N ≤ 4611686018427387904) :
    Calls Try.prog 75 #[.slice (some ⟨B, 0, none⟩) N N, .int .i64 (a : Int), .int .i64 (m : Int), .int .i64 (b : Int), fn] w fun e w' => e = .returned (.tuple #[]) ∧ DW E w0 B (P ++ (V ++ (U ++ S))) w' := by
  have hNs : a + U.length + V.length + S.length = N := by rw [← hN]; simp; omega
  go_enter Try.func75, Try.ntmps75
  go_wp2_with fail
  have e1 : (m : Int) - (a : Int) = ((U.length : Nat) : Int) := by omega
  have e2 : (b : Int) - (m : Int) = ((V.length : Nat) : Int) := by omega
  rw [e1, e2]
  clear e1 e2
  go_loopw [10, 11] (fun x y wr => ∃ (i j : Nat) (Q X Y R : List α), x = .int .i64 i ∧ y = .int .i64 j ∧ 0 < i ∧ 0 < j ∧ Hid (X.length = i) ∧ Hid (Y.length = j) ∧ Hid (Q.length + i = m) ∧ m + j + R.length = N ∧ i ≤ m ∧ DW E w0 B (Q ++ (X ++ (Y ++ R))) wr ∧ Hid (P ++ (V ++ (U ++ S)) = Q ++ (Y ++ (X ++ R)))) (fun x y _ => (intOf x).toNat + (intOf y).toNat)
  case atStart => exact ⟨U.length, V.length, P, U, V, S, rfl, rfl, hU, hV, rfl, rfl, by show _ = _; omega, by omega, by omega, hd, rfl⟩
  case round =>
    clear hd hN
    obtain ⟨i, j, Q, X, Y, R, rfl, rfl, hi, hj, HX, HY, HQ, hNr, him, hD, HR⟩ := hrel
    by_cases hij : i = j
    · subst hij
      have SR := swapRange_any E w0 B (Q ++ (X ++ (Y ++ R))) N (m - i) m i (by have := HX.out; have := HY.out; have := HQ.out; simp; omega) fn
      have HS : Hid (swr i (Q ++ (X ++ (Y ++ R))) (m - i) m = Q ++ (Y ++ (X ++ R))) := by
        have := swr_parts X Y Q [] R (by rw [HX.out, HY.out])
        rw [List.nil_append, List.nil_append, HX.out, List.length_nil, Nat.add_zero, HQ.out, show Q.length = m - i by have := HQ.out; omega] at this
        exact this
      have SR := hide (fun w hd => SR w hd (by omega) (by omega) hl)
      have e3 : (m : Int) - (i : Int) = ((m - i : Nat) : Int) := by omega
      have hb1 : ((i : Int) != (i : Int)) = false := by simp
      go_wp2_with fail
      refine (SR.out _ hD).mono ?_
      rintro e w1 ⟨rfl, d1⟩
      rw [HS.out] at d1
      go_wp2_with fail
      go_end0
      exact ⟨rfl, by rw [HR.out]; exact d1⟩
    · have hb1 : ((i : Int) != (j : Int)) = true := by simp; omega
      by_cases hgt : j < i
      · have hgt' : (j : Int) < (i : Int) := by omega
        obtain ⟨X1, X2, hX, l1, l2⟩ := split_at X j (by have := HX.out; omega)
        have SR := swapRange_any E w0 B (Q ++ (X ++ (Y ++ R))) N (m - i) m j (by have := HX.out; have := HY.out; have := HQ.out; simp; omega) fn
        have HS : Hid (swr j (Q ++ (X ++ (Y ++ R))) (m - i) m = (Q ++ Y) ++ (X2 ++ (X1 ++ R))) := by
          have := swr_parts X1 Y Q X2 R (by rw [l1, HY.out])
          rw [l1, l2, show Q.length + j + (X.length - j) = m by have := HX.out; have := HQ.out; omega, show Q.length = m - i by have := HQ.out; omega] at this
          show _ = _
          rw [hX, List.append_assoc, this]; simp
        have HT : Hid (Q ++ (Y ++ (X ++ R)) = (Q ++ Y) ++ (X1 ++ (X2 ++ R))) := by show _ = _; rw [hX]; simp
        have SR := hide (fun w hd => SR w hd (by omega) (by omega) hl)
        have e3 : (m : Int) - (i : Int) = ((m - i : Nat) : Int) := by omega
        have L1 := hide l1
        have L2 : Hid (X2.length = i - j) := by show _ = _; rw [l2, HX.out]
        have L3 : Hid ((Q ++ Y).length + (i - j) = m) := by show _ = _; have := HY.out; have := HQ.out; rw [List.length_append]; omega
        clear hX l1 l2 hij
        go_wp2_with fail
        refine (SR.out _ hD).mono ?_
        rintro e w1 ⟨rfl, d1⟩
        rw [HS.out] at d1
        go_wp2_with fail
        go_roundw
        case rel => exact ⟨i - j, j, Q ++ Y, X2, X1, R, by first | rfl | go_num | (congr 1; omega), rfl, by omega, hj, L2, L1, L3, hNr, by omega, d1, by show _ = _; rw [HR.out, HT.out]⟩
        case measure => simp [intOf]; omega
      · have hgt' : ¬ (j : Int) < (i : Int) := by omega
        have hlt9 : i < j := by omega
        obtain ⟨Y1, Y2, hY, l1, l2⟩ := split_at Y (j - i) (by have := HY.out; omega)
        have SR := swapRange_any E w0 B (Q ++ (X ++ (Y ++ R))) N (m - i) (m + j - i) i (by have := HX.out; have := HY.out; have := HQ.out; simp; omega) fn
        have HS : Hid (swr i (Q ++ (X ++ (Y ++ R))) (m - i) (m + j - i) = Q ++ (Y2 ++ (Y1 ++ (X ++ R)))) := by
          have := swr_parts X Y2 Q Y1 R (by rw [l2, HX.out, HY.out]; omega)
          rw [HX.out, l1, show Q.length + i + (j - i) = m + j - i by have := HQ.out; omega, show Q.length = m - i by have := HQ.out; omega] at this
          show _ = _
          rw [hY, List.append_assoc, this]
        have HT : Hid (Q ++ (Y ++ (X ++ R)) = Q ++ (Y1 ++ (Y2 ++ (X ++ R)))) := by show _ = _; rw [hY]; simp
        have SR := hide (fun w hd => SR w hd (by omega) (by omega) hl)
        have e3 : (m : Int) - (i : Int) = ((m - i : Nat) : Int) := by omega
        have e4 : (m : Int) + (j : Int) - (i : Int) = ((m + j - i : Nat) : Int) := by omega
        have L1 := hide l1
        have L2 : Hid (Y2.length = i) := by show _ = _; rw [l2, HY.out]; omega
        have L4 : m + (j - i) + (X ++ R).length = N := by have := HX.out; rw [List.length_append]; omega
        clear hY l1 l2 hij
        go_wp2_with fail
        refine (SR.out _ hD).mono ?_
        rintro e w1 ⟨rfl, d1⟩
        rw [HS.out] at d1
        go_wp2_with fail
        go_roundw
        case rel => exact ⟨i, j - i, Q, Y2, Y1, X ++ R, rfl, by first | rfl | go_num | (congr 1; omega), hi, by omega, L2, L1, HQ, L4, him, d1, by show _ = _; rw [HR.out, HT.out]⟩
        case measure => simp [intOf]; omega

end Go.Proofs.Ythojcidbhojlhaa
