/-
  Walks: orders of stages.
-/
import Derived.Test.YtagnikhkmaplpaaGreatPk
import Derived.StillTailTactics
import Derived.Deep.QuietTactic
import Derived.BigQuiet
namespace Go.Proofs.YtagnikhkmaplpaaGreat
open Go.RowKit Go.Shelf
set_option linter.unusedVariables false

theorem orI_drop (xs : List Int) (k : Nat) (h : k < xs.length) : orI (xs.drop k) = if xs[k] = 0 then orI (xs.drop (k + 1)) else xs[k] := by
  rw [List.drop_eq_getElem_cons h]
  rfl
theorem orI_end (xs : List Int) (k : Nat) (h : xs.length ≤ k) : orI (xs.drop k) = 0 := by
  rw [List.drop_eq_nil_of_le h]
  rfl

set_option maxHeartbeats 400000 in
theorem Or_any (B : Nat) (xs : List Int) (n : Nat) (hn : xs.length = n) (w : World) (h : ∀ i (h : i < xs.length), w.cell? ⟨B, i, none⟩ = some (.int .i64 xs[i])) (hl : n ≤ 64) :
    Calls Tryz.prog 68 #[.slice (some ⟨B, 0, none⟩) n n] w fun e w' => e = .returned (.int .i64 (orI xs)) ∧ w' = w := by
  have HC := hide h
  have HN := hide hn
  clear h hn
  go_enter Tryz.func68, Tryz.ntmps68
  go_wp2_with fail
  go_loop [8] (fun i => ∃ k : Nat, k ≤ n ∧ i = .int .i64 k ∧ Hid (orI xs = orI (xs.drop k))) (fun i => n - (intOf i).toNat)
  case atStart => exact ⟨0, by omega, rfl, rfl⟩
  case round =>
    obtain ⟨k, hk, rfl, HR⟩ := hrel
    by_cases h1 : k < n
    · have hd1 : decide ((k : Int) < (n : Int)) = true := by simp; omega
      have hk' : k < xs.length := by rw [HN.out]; exact h1
      have p1 := HC.out k hk'
      have hX := orI_drop xs k hk'
      generalize xs[k] = O at *
      by_cases h0 : O = 0
      · subst h0
        rw [if_pos rfl] at hX
        have HX := hide hX
        clear hX hk'
        go_wp2_with fail
        go_round
        case rel => exact ⟨k + 1, by omega, by go_num, by show _ = _; rw [HR.out, HX.out]⟩
        case measure => simp [intOf]; omega
      · rw [if_neg h0] at hX
        have hb0 : (O != 0) = true := by simpa using h0
        have HX := hide hX
        clear hX h0 hk'
        go_wp2_with fail
        go_ret
        exact ⟨ret_i (by rw [HR.out, HX.out]), rfl⟩
    · have hd1 : decide ((k : Int) < (n : Int)) = false := by simp; omega
      have hd3 : ¬ ((k : Int) < (n : Int)) := by omega
      have HX := hide (orI_end xs k (by rw [HN.out]; omega))
      go_wp2_with fail
      go_ret
      exact ⟨ret_i (by rw [HR.out, HX.out]), rfl⟩

/-- The order of two numbers. -/
def cmpI (a b : Int) : Int := if a < b then -1 else if b < a then 1 else 0
theorem isNaN_any (a : Int) (w : World) : Calls Tryz.prog 112 #[.int .u8 a] w fun e w' => e = .returned (.bool false) ∧ w' = w := by
  go_enter Tryz.func112, Tryz.ntmps112
  go_wp2_with fail
  go_ret
  exact ⟨by simp, rfl⟩
theorem cmpB_any (a b : Int) (w : World) : Calls Tryz.prog 99 #[.int .u8 a, .int .u8 b] w fun e w' => e = .returned (.int .i64 (cmpI a b)) ∧ w' = w := by
  by_cases h1 : a < b
  · have HO : Hid (cmpI a b = -1) := by show _ = _; unfold cmpI; rw [if_pos h1]
    have hd : decide (a < b) = true := by simp; omega
    go_enter Tryz.func99, Tryz.ntmps99
    go_wp2_with fail
    refine (isNaN_any _ _).mono ?_
    rintro e w' ⟨rfl, rfl⟩
    go_wp2_with fail
    refine (isNaN_any _ _).mono ?_
    rintro e w' ⟨rfl, rfl⟩
    go_wp2_with fail
    go_ret
    exact ⟨ret_i HO.out.symm, rfl⟩
  · by_cases h2 : b < a
    · have HO : Hid (cmpI a b = 1) := by show _ = _; unfold cmpI; rw [if_neg h1, if_pos h2]
      have hd : decide (a < b) = false := by simp; omega
      have hd2 : decide (b < a) = true := by simp; omega
      go_enter Tryz.func99, Tryz.ntmps99
      go_wp2_with fail
      refine (isNaN_any _ _).mono ?_
      rintro e w' ⟨rfl, rfl⟩
      go_wp2_with fail
      refine (isNaN_any _ _).mono ?_
      rintro e w' ⟨rfl, rfl⟩
      go_wp2_with fail
      go_ret
      exact ⟨ret_i HO.out.symm, rfl⟩
    · have HO : Hid (cmpI a b = 0) := by show _ = _; unfold cmpI; rw [if_neg h1, if_neg h2]
      have hd : decide (a < b) = false := by simp; omega
      have hd2 : decide (b < a) = false := by simp; omega
      go_enter Tryz.func99, Tryz.ntmps99
      go_wp2_with fail
      refine (isNaN_any _ _).mono ?_
      rintro e w' ⟨rfl, rfl⟩
      go_wp2_with fail
      refine (isNaN_any _ _).mono ?_
      rintro e w' ⟨rfl, rfl⟩
      go_wp2_with fail
      go_ret
      exact ⟨ret_i HO.out.symm, rfl⟩

/-- The order of stages. -/
def stgO (x y : Int × List UInt8) : Int := orI [cmpI x.1 y.1, cmpD x.2 y.2]
set_option maxRecDepth 100000 in
set_option maxHeartbeats 1000000 in
theorem orderStage_any (a b : Int) (m n : ByteArray) (w : World) (hm : m.size ≤ 9223372036854775806) (hn : n.size ≤ 9223372036854775806) :
    Calls Tryz.prog 73 #[.agg #[.int .u8 a, .string m], .agg #[.int .u8 b, .string n]] w fun e w' => e = .returned (.int .i64 (stgO (a, m.data.toList) (b, n.data.toList))) ∧ Below w.heap.size w w' := by
  have C1 := hide (fun w => cmpB_any a b w)
  have C2 := hide (fun w => Cmp_any m n w hm hn)
  have HO : Hid (stgO (a, m.data.toList) (b, n.data.toList) = orI [cmpI a b, cmpD m.data.toList n.data.toList]) := rfl
  generalize stgO (a, m.data.toList) (b, n.data.toList) = O at *
  generalize cmpI a b = o1 at *
  generalize cmpD m.data.toList n.data.toList = o2 at *
  go_enter Tryz.func73, Tryz.ntmps73
  go_wp2_with fail
  refine wp_region_still_tail 10 (by kernel_rfl) (by kernel_rfl) ?_
  change wpStill _ _ (World.drew _) _ _ _
  simp only [List.take_succ_cons, List.take_zero, List.drop_succ_cons, List.drop_zero]
  still_step
  still_step
  still_step
  still_step
  still_call (C1.out _)
  still_step
  still_step
  still_step
  still_step
  still_call (C2.out _)
  refine wpStill_nil ?_
  go_wp2_with fail
  refine (Or_any _ [o1, o2] 2 rfl _ (by
    intro i hi
    match i, hi with
    | 0, _ => go_simp
    | 1, _ => go_simp) (by omega)).mono ?_
  rintro e w' ⟨rfl, rfl⟩
  go_wp2_with fail
  go_ret
  exact ⟨ret_i HO.out.symm, ((((Below.refl _ w).alloc (Nat.le_refl _) _).alloc (by simp) _).alloc (by simp; omega) _).drew⟩

end Go.Proofs.YtagnikhkmaplpaaGreat
