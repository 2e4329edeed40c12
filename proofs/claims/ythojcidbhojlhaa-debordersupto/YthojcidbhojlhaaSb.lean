/-
  Walks: the exchange of two ranges.
-/
import Derived.Test.YthojcidbhojlhaaSa
namespace Go.Proofs.Ythojcidbhojlhaa
open Go.RowKit Go.Shelf
set_option linter.unusedVariables false

/-- Two ranges exchanged. -/
def swr {α : Type} : Nat → List α → Nat → Nat → List α
  | 0, xs, _, _ => xs
  | n + 1, xs, a, b => swr n (swp xs a b) (a + 1) (b + 1)

set_option maxRecDepth 100000 in
set_option maxHeartbeats 1000000 in
theorem swapRange_any {α : Type} (E : Cel α) (w0 : World) (B : Nat) (xs : List α) (N a b n : Nat) (hN : xs.length = N) (fn : Value) (w : World) (hd : DW E w0 B xs w) (ha : a + n ≤ b) (hb : b + n ≤ N) (hl : N ≤ 4611686018427387904) :
    Calls Try.prog 76 #[.slice (some ⟨B, 0, none⟩) N N, .int .i64 (a : Int), .int .i64 (b : Int), .int .i64 (n : Int), fn] w fun e w' => e = .returned (.tuple #[]) ∧ DW E w0 B (swr n xs a b) w' := by
  go_enter Try.func76, Try.ntmps76
  go_wp2_with fail
  go_loopw [10] (fun x wr => ∃ (i : Nat) (ys : List α), i ≤ n ∧ x = .int .i64 i ∧ Hid (ys.length = N) ∧ DW E w0 B ys wr ∧ Hid (swr n xs a b = swr (n - i) ys (a + i) (b + i))) (fun x _ => n - (intOf x).toNat)
  case atStart => exact ⟨0, xs, by omega, rfl, hN, hd, rfl⟩
  case round =>
    clear hd hN
    obtain ⟨i, ys, hi, rfl, HL, hD, HR⟩ := hrel
    by_cases hlt : i < n
    · have hlt' : (i : Int) < (n : Int) := by omega
      obtain ⟨x, hx⟩ := some_at ys (a + i) (by rw [HL.out]; omega)
      obtain ⟨y, hy⟩ := some_at ys (b + i) (by rw [HL.out]; omega)
      have eA : (a : Int) + (i : Int) = ((a + i : Nat) : Int) := by omega
      have eB : (b : Int) + (i : Int) = ((b + i : Nat) : Int) := by omega
      have wA : IntKind.i64.wrap ((a + i : Nat) : Int) = ((a + i : Nat) : Int) := by rw [IntKind.wrap_i64]; omega
      have wB : IntKind.i64.wrap ((b + i : Nat) : Int) = ((b + i : Nat) : Int) := by rw [IntKind.wrap_i64]; omega
      have lA : ((a + i : Nat) : Int) < (N : Int) := by omega
      have lB : ((b + i : Nat) : Int) < (N : Int) := by omega
      have hne : a + i ≠ b + i := by omega
      have HX := hide hx
      have HY := hide hy
      have HS : Hid (swr (n - i) ys (a + i) (b + i) = swr (n - (i + 1)) (swp ys (a + i) (b + i)) (a + (i + 1)) (b + (i + 1))) := by
        show _ = _
        rw [show n - i = (n - (i + 1)) + 1 by omega, swr]
        rfl
      generalize hA : a + i = A at *
      generalize hB : b + i = Bq at *
      have HN := hide hne
      clear hx hy hA hB hne
      obtain ⟨p0, p1, p2, p3, p4⟩ := hD.seen A x HX.out
      obtain ⟨q0, q1, q2, q3, q4⟩ := hD.seen Bq y HY.out
      have z0 := hD.free (A * 5)
      have z1 := hD.free (A * 5 + 1)
      have z2 := hD.free (A * 5 + 2)
      have z3 := hD.free (A * 5 + 3)
      have z4 := hD.free (A * 5 + 4)
      have y0 := hD.free (Bq * 5)
      have y1 := hD.free (Bq * 5 + 1)
      have y2 := hD.free (Bq * 5 + 2)
      have y3 := hD.free (Bq * 5 + 3)
      have y4 := hD.free (Bq * 5 + 4)
      go_wp2_with fail
      go_big_region
      all_goals go_wp2_with fail
      go_roundw
      case rel => exact ⟨i + 1, swp ys A Bq, by omega, by go_num, by show _ = _; rw [swp_len]; exact HL.out, (hD.swap HX.out HY.out).drew, by show _ = _; rw [HR.out, HS.out]⟩
      case measure => simp [intOf]; omega
    · have hlt' : ¬ (i : Int) < (n : Int) := by omega
      go_wp2_with fail
      go_end0
      exact ⟨rfl, by rw [HR.out, show n - i = 0 by omega]; exact hD⟩

end Go.Proofs.Ythojcidbhojlhaa
