/-
  Proved: for any two texts, with a tilde and anything behind it a part is ahead of itself; and with noughts laid ahead of a number in it it is alike; and chapter 4's examples hold: DebTilde returns true and leaves its arguments as they were. No condition but the form's own reach (each string takes at most 2^47 - 4096 bytes).
-/
import Derived.Test.YthojcidbhojlhaaDk
import Derived.Test.YthojcidbhojlhaaLt
import Derived.ProofKit
import Derived.OpenShut
import Derived.ShutString
import Derived.ChangeOld
import Derived.Below
import Derived.SizedLaws
namespace Go.Proofs.Ythojcidbhojlhaa
namespace DebTildeP
open Go.ChangeShapes Go.WideShapes Go.ChangeAt Go.RowKit
open Go.ChangeMaps (open_string shut_string)
set_option linter.unusedVariables false

theorem own : ownKnob Try.prog.godebug = none := by kernel_rfl

theorem last_at (a : ByteArray) (h : a.size - 1 < a.size) : a.data.toList.getLast? = some a[a.size - 1] := by
  rw [List.getLast?_eq_getElem?, len_data, List.getElem?_eq_getElem (by rw [len_data]; exact h)]
  rfl
theorem wrap_u64_nn (n : Int) : 0 ≤ IntKind.u64.wrap n := by
  unfold IntKind.wrap
  simp [IntKind.signed, IntKind.bits]
  try omega
theorem four (n : Int) : (IntKind.u64.wrap n).tmod 4 = 0 ∨ (IntKind.u64.wrap n).tmod 4 = 1 ∨ (IntKind.u64.wrap n).tmod 4 = 2 ∨ (IntKind.u64.wrap n).tmod 4 = 3 := by
  have h := wrap_u64_nn n
  generalize IntKind.u64.wrap n = U at *
  rw [Int.tmod_eq_emod_of_nonneg h]
  omega
theorem cat_nil (a : ByteArray) : a ++ (⟨#[]⟩ : ByteArray) = a := by
  apply ba_ext
  rw [ByteArray.data_append]
  simp

/-- The texts that are compared, by their names. -/
structure Names (A b z u1 u2 u3 v1 v2 : ByteArray) : Prop where
  e1 : A ++ z = u1
  e2 : u1 ++ ⟨#[55]⟩ = u2
  e3 : u2 ++ b = u3
  f1 : A ++ ⟨#[55]⟩ = v1
  f2 : v1 ++ b = v2
  s1 : u1.size = A.size + z.size
  s2 : u2.size = u1.size + 1
  s3 : u3.size = u2.size + b.size
  r1 : v1.size = A.size + 1
  r2 : v2.size = v1.size + b.size
  d : u3.data.toList = A.data.toList ++ (z.data.toList ++ 55 :: b.data.toList)
  g : v2.data.toList = A.data.toList ++ 55 :: b.data.toList
theorem names (A b z : ByteArray) : ∃ u1 u2 u3 v1 v2, Names A b z u1 u2 u3 v1 v2 := by
  obtain ⟨u1, e1, s1, d1⟩ := cat_step A z
  obtain ⟨u2, e2, s2, d2⟩ := cat_step u1 ⟨#[55]⟩
  obtain ⟨u3, e3, s3, d3⟩ := cat_step u2 b
  obtain ⟨v1, f1, r1, g1⟩ := cat_step A ⟨#[55]⟩
  obtain ⟨v2, f2, r2, g2⟩ := cat_step v1 b
  refine ⟨u1, u2, u3, v1, v2, e1, e2, e3, f1, f2, s1, s2, s3, r1, r2, ?_, ?_⟩
  · rw [d3, d2, d1]; simp
  · rw [g2, g1]; simp

set_option maxRecDepth 100000 in
set_option maxHeartbeats 4000000 in
theorem walkE0 (a b : ByteArray) (n : Int) (w : World) (ha : a.size ≤ 140737488351232) (hb : b.size ≤ 140737488351232) (hk : (IntKind.u64.wrap n).tmod 4 = 0) (hlen : ¬ (0 : Int) < (a.size : Int)) :
    Calls Try.prog 8 #[.string a, .string b, .int .i64 n] w fun e w' => e = .returned (.bool true) ∧ Below w.heap.size w w' := by
  have HL : LastND a.data.toList := fun c hc => by
    have he : a.data.toList = [] := List.length_eq_zero_iff.1 (by rw [len_data]; omega)
    rw [he] at hc; cases hc
  obtain ⟨t1, ht1, z1, d1⟩ := cat_step a ⟨#[126]⟩
  obtain ⟨t2, ht2, z2, d2⟩ := cat_step t1 b
  rw [show (⟨#[126]⟩ : ByteArray).size = 1 from rfl] at z1
  have D1 := fun w => Part_any t2 a w (by omega) (by omega)
  rw [d2, d1, show (⟨#[126]⟩ : ByteArray).data.toList = [126] from rfl, List.append_assoc, List.singleton_append, part_tilde _ _ _ (Nat.le_refl _)] at D1
  obtain ⟨v1, f1, r1, g1⟩ := cat_step a ⟨#[55]⟩
  obtain ⟨v2, f2, r2, g2⟩ := cat_step v1 b
  rw [show (⟨#[55]⟩ : ByteArray).size = 1 from rfl] at r1
  have D2 := fun w => Part_any v2 v2 w (by omega) (by omega)
  rw [partO_cmp3.self] at D2
  have e1 := cat_nil a
  have D1 := hide D1
  have D2 := hide D2
  have q1 : v1.size ≤ 500000000000000 := by omega
  have q2 : v2.size ≤ 500000000000000 := by omega
  clear d1 d2 HL g1 g2 r1 r2
  go_enter Try.func8, Try.ntmps8
  go_wp2_with fail
  refine (D1.out _).mono ?_
  rintro e w1 ⟨rfl, b1⟩
  go_wp2_with fail
  refine (D2.out _).mono ?_
  rintro e w2 ⟨rfl, b2⟩
  go_wp2_with fail
  refine (awake_any _).mono ?_
  rintro e w3 ⟨rfl, b3⟩
  go_wp2_with fail
  go_ret
  have q1 := b1.alloc b1.size (.cells #[.string ⟨#[]⟩, .string ⟨#[48]⟩, .string ⟨#[48, 48]⟩, .string ⟨#[48, 48, 48]⟩] 9)
  have q2 := q1.trans (b2.mono q1.size)
  exact ⟨rfl, q2.trans (b3.mono q2.size)⟩

set_option maxRecDepth 100000 in
set_option maxHeartbeats 4000000 in
theorem walkE1 (a b : ByteArray) (n : Int) (w : World) (ha : a.size ≤ 140737488351232) (hb : b.size ≤ 140737488351232) (hk : (IntKind.u64.wrap n).tmod 4 = 1) (hlen : ¬ (0 : Int) < (a.size : Int)) :
    Calls Try.prog 8 #[.string a, .string b, .int .i64 n] w fun e w' => e = .returned (.bool true) ∧ Below w.heap.size w w' := by
  have HL : LastND a.data.toList := fun c hc => by
    have he : a.data.toList = [] := List.length_eq_zero_iff.1 (by rw [len_data]; omega)
    rw [he] at hc; cases hc
  obtain ⟨t1, ht1, z1, d1⟩ := cat_step a ⟨#[126]⟩
  obtain ⟨t2, ht2, z2, d2⟩ := cat_step t1 b
  rw [show (⟨#[126]⟩ : ByteArray).size = 1 from rfl] at z1
  have D1 := fun w => Part_any t2 a w (by omega) (by omega)
  rw [d2, d1, show (⟨#[126]⟩ : ByteArray).data.toList = [126] from rfl, List.append_assoc, List.singleton_append, part_tilde _ _ _ (Nat.le_refl _)] at D1
  obtain ⟨u1, u2, u3, v1, v2, nm⟩ := names a b ⟨#[48]⟩
  have hzs : (⟨#[48]⟩ : ByteArray).size = 1 := rfl
  have D2 := fun w => Part_any u3 v2 w (by have := nm.s1; have := nm.s2; have := nm.s3; omega) (by have := nm.r1; have := nm.r2; omega)
  rw [nm.d, nm.g, part_zeros _ _ (by intro c hc; simp at hc; try exact hc) _ _ (Nat.le_refl _) HL] at D2
  have D1 := hide D1
  have D2 := hide D2
  have e1 := nm.e1
  have e2 := nm.e2
  have e3 := nm.e3
  have f1 := nm.f1
  have f2 := nm.f2
  have s1 : u1.size ≤ 500000000000000 := by have := nm.s1; omega
  have s2 : u2.size ≤ 500000000000000 := by have := nm.s2; have := nm.s1; omega
  have s3 : u3.size ≤ 500000000000000 := by have := nm.s3; have := nm.s2; have := nm.s1; omega
  have r1 : v1.size ≤ 500000000000000 := by have := nm.r1; omega
  have r2 : v2.size ≤ 500000000000000 := by have := nm.r2; have := nm.r1; omega
  clear d1 d2 nm HL hzs
  go_enter Try.func8, Try.ntmps8
  go_wp2_with fail
  refine (D1.out _).mono ?_
  rintro e w1 ⟨rfl, b1⟩
  go_wp2_with fail
  refine (D2.out _).mono ?_
  rintro e w2 ⟨rfl, b2⟩
  go_wp2_with fail
  refine (awake_any _).mono ?_
  rintro e w3 ⟨rfl, b3⟩
  go_wp2_with fail
  go_ret
  have q1 := b1.alloc b1.size (.cells #[.string ⟨#[]⟩, .string ⟨#[48]⟩, .string ⟨#[48, 48]⟩, .string ⟨#[48, 48, 48]⟩] 9)
  have q2 := q1.trans (b2.mono q1.size)
  exact ⟨rfl, q2.trans (b3.mono q2.size)⟩

set_option maxRecDepth 100000 in
set_option maxHeartbeats 4000000 in
theorem walkE2 (a b : ByteArray) (n : Int) (w : World) (ha : a.size ≤ 140737488351232) (hb : b.size ≤ 140737488351232) (hk : (IntKind.u64.wrap n).tmod 4 = 2) (hlen : ¬ (0 : Int) < (a.size : Int)) :
    Calls Try.prog 8 #[.string a, .string b, .int .i64 n] w fun e w' => e = .returned (.bool true) ∧ Below w.heap.size w w' := by
  have HL : LastND a.data.toList := fun c hc => by
    have he : a.data.toList = [] := List.length_eq_zero_iff.1 (by rw [len_data]; omega)
    rw [he] at hc; cases hc
  obtain ⟨t1, ht1, z1, d1⟩ := cat_step a ⟨#[126]⟩
  obtain ⟨t2, ht2, z2, d2⟩ := cat_step t1 b
  rw [show (⟨#[126]⟩ : ByteArray).size = 1 from rfl] at z1
  have D1 := fun w => Part_any t2 a w (by omega) (by omega)
  rw [d2, d1, show (⟨#[126]⟩ : ByteArray).data.toList = [126] from rfl, List.append_assoc, List.singleton_append, part_tilde _ _ _ (Nat.le_refl _)] at D1
  obtain ⟨u1, u2, u3, v1, v2, nm⟩ := names a b ⟨#[48, 48]⟩
  have hzs : (⟨#[48, 48]⟩ : ByteArray).size = 2 := rfl
  have D2 := fun w => Part_any u3 v2 w (by have := nm.s1; have := nm.s2; have := nm.s3; omega) (by have := nm.r1; have := nm.r2; omega)
  rw [nm.d, nm.g, part_zeros _ _ (by intro c hc; simp at hc; try exact hc) _ _ (Nat.le_refl _) HL] at D2
  have D1 := hide D1
  have D2 := hide D2
  have e1 := nm.e1
  have e2 := nm.e2
  have e3 := nm.e3
  have f1 := nm.f1
  have f2 := nm.f2
  have s1 : u1.size ≤ 500000000000000 := by have := nm.s1; omega
  have s2 : u2.size ≤ 500000000000000 := by have := nm.s2; have := nm.s1; omega
  have s3 : u3.size ≤ 500000000000000 := by have := nm.s3; have := nm.s2; have := nm.s1; omega
  have r1 : v1.size ≤ 500000000000000 := by have := nm.r1; omega
  have r2 : v2.size ≤ 500000000000000 := by have := nm.r2; have := nm.r1; omega
  clear d1 d2 nm HL hzs
  go_enter Try.func8, Try.ntmps8
  go_wp2_with fail
  refine (D1.out _).mono ?_
  rintro e w1 ⟨rfl, b1⟩
  go_wp2_with fail
  refine (D2.out _).mono ?_
  rintro e w2 ⟨rfl, b2⟩
  go_wp2_with fail
  refine (awake_any _).mono ?_
  rintro e w3 ⟨rfl, b3⟩
  go_wp2_with fail
  go_ret
  have q1 := b1.alloc b1.size (.cells #[.string ⟨#[]⟩, .string ⟨#[48]⟩, .string ⟨#[48, 48]⟩, .string ⟨#[48, 48, 48]⟩] 9)
  have q2 := q1.trans (b2.mono q1.size)
  exact ⟨rfl, q2.trans (b3.mono q2.size)⟩

set_option maxRecDepth 100000 in
set_option maxHeartbeats 4000000 in
theorem walkE3 (a b : ByteArray) (n : Int) (w : World) (ha : a.size ≤ 140737488351232) (hb : b.size ≤ 140737488351232) (hk : (IntKind.u64.wrap n).tmod 4 = 3) (hlen : ¬ (0 : Int) < (a.size : Int)) :
    Calls Try.prog 8 #[.string a, .string b, .int .i64 n] w fun e w' => e = .returned (.bool true) ∧ Below w.heap.size w w' := by
  have HL : LastND a.data.toList := fun c hc => by
    have he : a.data.toList = [] := List.length_eq_zero_iff.1 (by rw [len_data]; omega)
    rw [he] at hc; cases hc
  obtain ⟨t1, ht1, z1, d1⟩ := cat_step a ⟨#[126]⟩
  obtain ⟨t2, ht2, z2, d2⟩ := cat_step t1 b
  rw [show (⟨#[126]⟩ : ByteArray).size = 1 from rfl] at z1
  have D1 := fun w => Part_any t2 a w (by omega) (by omega)
  rw [d2, d1, show (⟨#[126]⟩ : ByteArray).data.toList = [126] from rfl, List.append_assoc, List.singleton_append, part_tilde _ _ _ (Nat.le_refl _)] at D1
  obtain ⟨u1, u2, u3, v1, v2, nm⟩ := names a b ⟨#[48, 48, 48]⟩
  have hzs : (⟨#[48, 48, 48]⟩ : ByteArray).size = 3 := rfl
  have D2 := fun w => Part_any u3 v2 w (by have := nm.s1; have := nm.s2; have := nm.s3; omega) (by have := nm.r1; have := nm.r2; omega)
  rw [nm.d, nm.g, part_zeros _ _ (by intro c hc; simp at hc; try exact hc) _ _ (Nat.le_refl _) HL] at D2
  have D1 := hide D1
  have D2 := hide D2
  have e1 := nm.e1
  have e2 := nm.e2
  have e3 := nm.e3
  have f1 := nm.f1
  have f2 := nm.f2
  have s1 : u1.size ≤ 500000000000000 := by have := nm.s1; omega
  have s2 : u2.size ≤ 500000000000000 := by have := nm.s2; have := nm.s1; omega
  have s3 : u3.size ≤ 500000000000000 := by have := nm.s3; have := nm.s2; have := nm.s1; omega
  have r1 : v1.size ≤ 500000000000000 := by have := nm.r1; omega
  have r2 : v2.size ≤ 500000000000000 := by have := nm.r2; have := nm.r1; omega
  clear d1 d2 nm HL hzs
  go_enter Try.func8, Try.ntmps8
  go_wp2_with fail
  refine (D1.out _).mono ?_
  rintro e w1 ⟨rfl, b1⟩
  go_wp2_with fail
  refine (D2.out _).mono ?_
  rintro e w2 ⟨rfl, b2⟩
  go_wp2_with fail
  refine (awake_any _).mono ?_
  rintro e w3 ⟨rfl, b3⟩
  go_wp2_with fail
  go_ret
  have q1 := b1.alloc b1.size (.cells #[.string ⟨#[]⟩, .string ⟨#[48]⟩, .string ⟨#[48, 48]⟩, .string ⟨#[48, 48, 48]⟩] 9)
  have q2 := q1.trans (b2.mono q1.size)
  exact ⟨rfl, q2.trans (b3.mono q2.size)⟩

set_option maxRecDepth 100000 in
set_option maxHeartbeats 4000000 in
theorem walkD0 (a b : ByteArray) (n : Int) (w : World) (ha : a.size ≤ 140737488351232) (hb : b.size ≤ 140737488351232) (hk : (IntKind.u64.wrap n).tmod 4 = 0) (hlen : (0 : Int) < (a.size : Int)) (h : a.size - 1 < a.size) (h48 : (48 : Int) ≤ (a[a.size - 1].toNat : Int)) (h57 : (a[a.size - 1].toNat : Int) ≤ 57) :
    Calls Try.prog 8 #[.string a, .string b, .int .i64 n] w fun e w' => e = .returned (.bool true) ∧ Below w.heap.size w w' := by
  obtain ⟨a2, ht9, z9, d9⟩ := cat_step a ⟨#[46]⟩
  rw [show (⟨#[46]⟩ : ByteArray).size = 1 from rfl] at z9
  rw [show (⟨#[46]⟩ : ByteArray).data.toList = [46] from rfl] at d9
  have HL : LastND a2.data.toList := fun c hc => by
    rw [d9, last_app _ _ (by simp)] at hc
    cases hc
    decide
  obtain ⟨t1, ht1, z1, d1⟩ := cat_step a ⟨#[126]⟩
  obtain ⟨t2, ht2, z2, d2⟩ := cat_step t1 b
  rw [show (⟨#[126]⟩ : ByteArray).size = 1 from rfl] at z1
  have D1 := fun w => Part_any t2 a w (by omega) (by omega)
  rw [d2, d1, show (⟨#[126]⟩ : ByteArray).data.toList = [126] from rfl, List.append_assoc, List.singleton_append, part_tilde _ _ _ (Nat.le_refl _)] at D1
  obtain ⟨v1, f1, r1, g1⟩ := cat_step a2 ⟨#[55]⟩
  obtain ⟨v2, f2, r2, g2⟩ := cat_step v1 b
  rw [show (⟨#[55]⟩ : ByteArray).size = 1 from rfl] at r1
  have D2 := fun w => Part_any v2 v2 w (by omega) (by omega)
  rw [partO_cmp3.self] at D2
  have e1 := cat_nil a2
  have D1 := hide D1
  have D2 := hide D2
  have q1 : v1.size ≤ 500000000000000 := by omega
  have q2 : v2.size ≤ 500000000000000 := by omega
  clear d1 d2 HL g1 g2 r1 r2 d9
  go_enter Try.func8, Try.ntmps8
  go_wp2_with fail
  refine (D1.out _).mono ?_
  rintro e w1 ⟨rfl, b1⟩
  go_wp2_with fail
  refine (D2.out _).mono ?_
  rintro e w2 ⟨rfl, b2⟩
  go_wp2_with fail
  refine (awake_any _).mono ?_
  rintro e w3 ⟨rfl, b3⟩
  go_wp2_with fail
  go_ret
  have q1 := b1.alloc b1.size (.cells #[.string ⟨#[]⟩, .string ⟨#[48]⟩, .string ⟨#[48, 48]⟩, .string ⟨#[48, 48, 48]⟩] 9)
  have q2 := q1.trans (b2.mono q1.size)
  exact ⟨rfl, q2.trans (b3.mono q2.size)⟩

set_option maxRecDepth 100000 in
set_option maxHeartbeats 4000000 in
theorem walkD1 (a b : ByteArray) (n : Int) (w : World) (ha : a.size ≤ 140737488351232) (hb : b.size ≤ 140737488351232) (hk : (IntKind.u64.wrap n).tmod 4 = 1) (hlen : (0 : Int) < (a.size : Int)) (h : a.size - 1 < a.size) (h48 : (48 : Int) ≤ (a[a.size - 1].toNat : Int)) (h57 : (a[a.size - 1].toNat : Int) ≤ 57) :
    Calls Try.prog 8 #[.string a, .string b, .int .i64 n] w fun e w' => e = .returned (.bool true) ∧ Below w.heap.size w w' := by
  obtain ⟨a2, ht9, z9, d9⟩ := cat_step a ⟨#[46]⟩
  rw [show (⟨#[46]⟩ : ByteArray).size = 1 from rfl] at z9
  rw [show (⟨#[46]⟩ : ByteArray).data.toList = [46] from rfl] at d9
  have HL : LastND a2.data.toList := fun c hc => by
    rw [d9, last_app _ _ (by simp)] at hc
    cases hc
    decide
  obtain ⟨t1, ht1, z1, d1⟩ := cat_step a ⟨#[126]⟩
  obtain ⟨t2, ht2, z2, d2⟩ := cat_step t1 b
  rw [show (⟨#[126]⟩ : ByteArray).size = 1 from rfl] at z1
  have D1 := fun w => Part_any t2 a w (by omega) (by omega)
  rw [d2, d1, show (⟨#[126]⟩ : ByteArray).data.toList = [126] from rfl, List.append_assoc, List.singleton_append, part_tilde _ _ _ (Nat.le_refl _)] at D1
  obtain ⟨u1, u2, u3, v1, v2, nm⟩ := names a2 b ⟨#[48]⟩
  have hzs : (⟨#[48]⟩ : ByteArray).size = 1 := rfl
  have D2 := fun w => Part_any u3 v2 w (by have := nm.s1; have := nm.s2; have := nm.s3; omega) (by have := nm.r1; have := nm.r2; omega)
  rw [nm.d, nm.g, part_zeros _ _ (by intro c hc; simp at hc; try exact hc) _ _ (Nat.le_refl _) HL] at D2
  have D1 := hide D1
  have D2 := hide D2
  have e1 := nm.e1
  have e2 := nm.e2
  have e3 := nm.e3
  have f1 := nm.f1
  have f2 := nm.f2
  have s1 : u1.size ≤ 500000000000000 := by have := nm.s1; omega
  have s2 : u2.size ≤ 500000000000000 := by have := nm.s2; have := nm.s1; omega
  have s3 : u3.size ≤ 500000000000000 := by have := nm.s3; have := nm.s2; have := nm.s1; omega
  have r1 : v1.size ≤ 500000000000000 := by have := nm.r1; omega
  have r2 : v2.size ≤ 500000000000000 := by have := nm.r2; have := nm.r1; omega
  clear d1 d2 nm HL hzs d9
  go_enter Try.func8, Try.ntmps8
  go_wp2_with fail
  refine (D1.out _).mono ?_
  rintro e w1 ⟨rfl, b1⟩
  go_wp2_with fail
  refine (D2.out _).mono ?_
  rintro e w2 ⟨rfl, b2⟩
  go_wp2_with fail
  refine (awake_any _).mono ?_
  rintro e w3 ⟨rfl, b3⟩
  go_wp2_with fail
  go_ret
  have q1 := b1.alloc b1.size (.cells #[.string ⟨#[]⟩, .string ⟨#[48]⟩, .string ⟨#[48, 48]⟩, .string ⟨#[48, 48, 48]⟩] 9)
  have q2 := q1.trans (b2.mono q1.size)
  exact ⟨rfl, q2.trans (b3.mono q2.size)⟩

set_option maxRecDepth 100000 in
set_option maxHeartbeats 4000000 in
theorem walkD2 (a b : ByteArray) (n : Int) (w : World) (ha : a.size ≤ 140737488351232) (hb : b.size ≤ 140737488351232) (hk : (IntKind.u64.wrap n).tmod 4 = 2) (hlen : (0 : Int) < (a.size : Int)) (h : a.size - 1 < a.size) (h48 : (48 : Int) ≤ (a[a.size - 1].toNat : Int)) (h57 : (a[a.size - 1].toNat : Int) ≤ 57) :
    Calls Try.prog 8 #[.string a, .string b, .int .i64 n] w fun e w' => e = .returned (.bool true) ∧ Below w.heap.size w w' := by
  obtain ⟨a2, ht9, z9, d9⟩ := cat_step a ⟨#[46]⟩
  rw [show (⟨#[46]⟩ : ByteArray).size = 1 from rfl] at z9
  rw [show (⟨#[46]⟩ : ByteArray).data.toList = [46] from rfl] at d9
  have HL : LastND a2.data.toList := fun c hc => by
    rw [d9, last_app _ _ (by simp)] at hc
    cases hc
    decide
  obtain ⟨t1, ht1, z1, d1⟩ := cat_step a ⟨#[126]⟩
  obtain ⟨t2, ht2, z2, d2⟩ := cat_step t1 b
  rw [show (⟨#[126]⟩ : ByteArray).size = 1 from rfl] at z1
  have D1 := fun w => Part_any t2 a w (by omega) (by omega)
  rw [d2, d1, show (⟨#[126]⟩ : ByteArray).data.toList = [126] from rfl, List.append_assoc, List.singleton_append, part_tilde _ _ _ (Nat.le_refl _)] at D1
  obtain ⟨u1, u2, u3, v1, v2, nm⟩ := names a2 b ⟨#[48, 48]⟩
  have hzs : (⟨#[48, 48]⟩ : ByteArray).size = 2 := rfl
  have D2 := fun w => Part_any u3 v2 w (by have := nm.s1; have := nm.s2; have := nm.s3; omega) (by have := nm.r1; have := nm.r2; omega)
  rw [nm.d, nm.g, part_zeros _ _ (by intro c hc; simp at hc; try exact hc) _ _ (Nat.le_refl _) HL] at D2
  have D1 := hide D1
  have D2 := hide D2
  have e1 := nm.e1
  have e2 := nm.e2
  have e3 := nm.e3
  have f1 := nm.f1
  have f2 := nm.f2
  have s1 : u1.size ≤ 500000000000000 := by have := nm.s1; omega
  have s2 : u2.size ≤ 500000000000000 := by have := nm.s2; have := nm.s1; omega
  have s3 : u3.size ≤ 500000000000000 := by have := nm.s3; have := nm.s2; have := nm.s1; omega
  have r1 : v1.size ≤ 500000000000000 := by have := nm.r1; omega
  have r2 : v2.size ≤ 500000000000000 := by have := nm.r2; have := nm.r1; omega
  clear d1 d2 nm HL hzs d9
  go_enter Try.func8, Try.ntmps8
  go_wp2_with fail
  refine (D1.out _).mono ?_
  rintro e w1 ⟨rfl, b1⟩
  go_wp2_with fail
  refine (D2.out _).mono ?_
  rintro e w2 ⟨rfl, b2⟩
  go_wp2_with fail
  refine (awake_any _).mono ?_
  rintro e w3 ⟨rfl, b3⟩
  go_wp2_with fail
  go_ret
  have q1 := b1.alloc b1.size (.cells #[.string ⟨#[]⟩, .string ⟨#[48]⟩, .string ⟨#[48, 48]⟩, .string ⟨#[48, 48, 48]⟩] 9)
  have q2 := q1.trans (b2.mono q1.size)
  exact ⟨rfl, q2.trans (b3.mono q2.size)⟩

set_option maxRecDepth 100000 in
set_option maxHeartbeats 4000000 in
theorem walkD3 (a b : ByteArray) (n : Int) (w : World) (ha : a.size ≤ 140737488351232) (hb : b.size ≤ 140737488351232) (hk : (IntKind.u64.wrap n).tmod 4 = 3) (hlen : (0 : Int) < (a.size : Int)) (h : a.size - 1 < a.size) (h48 : (48 : Int) ≤ (a[a.size - 1].toNat : Int)) (h57 : (a[a.size - 1].toNat : Int) ≤ 57) :
    Calls Try.prog 8 #[.string a, .string b, .int .i64 n] w fun e w' => e = .returned (.bool true) ∧ Below w.heap.size w w' := by
  obtain ⟨a2, ht9, z9, d9⟩ := cat_step a ⟨#[46]⟩
  rw [show (⟨#[46]⟩ : ByteArray).size = 1 from rfl] at z9
  rw [show (⟨#[46]⟩ : ByteArray).data.toList = [46] from rfl] at d9
  have HL : LastND a2.data.toList := fun c hc => by
    rw [d9, last_app _ _ (by simp)] at hc
    cases hc
    decide
  obtain ⟨t1, ht1, z1, d1⟩ := cat_step a ⟨#[126]⟩
  obtain ⟨t2, ht2, z2, d2⟩ := cat_step t1 b
  rw [show (⟨#[126]⟩ : ByteArray).size = 1 from rfl] at z1
  have D1 := fun w => Part_any t2 a w (by omega) (by omega)
  rw [d2, d1, show (⟨#[126]⟩ : ByteArray).data.toList = [126] from rfl, List.append_assoc, List.singleton_append, part_tilde _ _ _ (Nat.le_refl _)] at D1
  obtain ⟨u1, u2, u3, v1, v2, nm⟩ := names a2 b ⟨#[48, 48, 48]⟩
  have hzs : (⟨#[48, 48, 48]⟩ : ByteArray).size = 3 := rfl
  have D2 := fun w => Part_any u3 v2 w (by have := nm.s1; have := nm.s2; have := nm.s3; omega) (by have := nm.r1; have := nm.r2; omega)
  rw [nm.d, nm.g, part_zeros _ _ (by intro c hc; simp at hc; try exact hc) _ _ (Nat.le_refl _) HL] at D2
  have D1 := hide D1
  have D2 := hide D2
  have e1 := nm.e1
  have e2 := nm.e2
  have e3 := nm.e3
  have f1 := nm.f1
  have f2 := nm.f2
  have s1 : u1.size ≤ 500000000000000 := by have := nm.s1; omega
  have s2 : u2.size ≤ 500000000000000 := by have := nm.s2; have := nm.s1; omega
  have s3 : u3.size ≤ 500000000000000 := by have := nm.s3; have := nm.s2; have := nm.s1; omega
  have r1 : v1.size ≤ 500000000000000 := by have := nm.r1; omega
  have r2 : v2.size ≤ 500000000000000 := by have := nm.r2; have := nm.r1; omega
  clear d1 d2 nm HL hzs d9
  go_enter Try.func8, Try.ntmps8
  go_wp2_with fail
  refine (D1.out _).mono ?_
  rintro e w1 ⟨rfl, b1⟩
  go_wp2_with fail
  refine (D2.out _).mono ?_
  rintro e w2 ⟨rfl, b2⟩
  go_wp2_with fail
  refine (awake_any _).mono ?_
  rintro e w3 ⟨rfl, b3⟩
  go_wp2_with fail
  go_ret
  have q1 := b1.alloc b1.size (.cells #[.string ⟨#[]⟩, .string ⟨#[48]⟩, .string ⟨#[48, 48]⟩, .string ⟨#[48, 48, 48]⟩] 9)
  have q2 := q1.trans (b2.mono q1.size)
  exact ⟨rfl, q2.trans (b3.mono q2.size)⟩

set_option maxRecDepth 100000 in
set_option maxHeartbeats 4000000 in
theorem walkL0 (a b : ByteArray) (n : Int) (w : World) (ha : a.size ≤ 140737488351232) (hb : b.size ≤ 140737488351232) (hk : (IntKind.u64.wrap n).tmod 4 = 0) (hlen : (0 : Int) < (a.size : Int)) (h : a.size - 1 < a.size) (h48 : ¬ (48 : Int) ≤ (a[a.size - 1].toNat : Int)) :
    Calls Try.prog 8 #[.string a, .string b, .int .i64 n] w fun e w' => e = .returned (.bool true) ∧ Below w.heap.size w w' := by
  have HL : LastND a.data.toList := fun c hc => by
    rw [last_at a h] at hc
    cases hc
    simp [isC]; omega
  obtain ⟨t1, ht1, z1, d1⟩ := cat_step a ⟨#[126]⟩
  obtain ⟨t2, ht2, z2, d2⟩ := cat_step t1 b
  rw [show (⟨#[126]⟩ : ByteArray).size = 1 from rfl] at z1
  have D1 := fun w => Part_any t2 a w (by omega) (by omega)
  rw [d2, d1, show (⟨#[126]⟩ : ByteArray).data.toList = [126] from rfl, List.append_assoc, List.singleton_append, part_tilde _ _ _ (Nat.le_refl _)] at D1
  obtain ⟨v1, f1, r1, g1⟩ := cat_step a ⟨#[55]⟩
  obtain ⟨v2, f2, r2, g2⟩ := cat_step v1 b
  rw [show (⟨#[55]⟩ : ByteArray).size = 1 from rfl] at r1
  have D2 := fun w => Part_any v2 v2 w (by omega) (by omega)
  rw [partO_cmp3.self] at D2
  have e1 := cat_nil a
  have D1 := hide D1
  have D2 := hide D2
  have q1 : v1.size ≤ 500000000000000 := by omega
  have q2 : v2.size ≤ 500000000000000 := by omega
  clear d1 d2 HL g1 g2 r1 r2
  go_enter Try.func8, Try.ntmps8
  go_wp2_with fail
  refine (D1.out _).mono ?_
  rintro e w1 ⟨rfl, b1⟩
  go_wp2_with fail
  refine (D2.out _).mono ?_
  rintro e w2 ⟨rfl, b2⟩
  go_wp2_with fail
  refine (awake_any _).mono ?_
  rintro e w3 ⟨rfl, b3⟩
  go_wp2_with fail
  go_ret
  have q1 := b1.alloc b1.size (.cells #[.string ⟨#[]⟩, .string ⟨#[48]⟩, .string ⟨#[48, 48]⟩, .string ⟨#[48, 48, 48]⟩] 9)
  have q2 := q1.trans (b2.mono q1.size)
  exact ⟨rfl, q2.trans (b3.mono q2.size)⟩

set_option maxRecDepth 100000 in
set_option maxHeartbeats 4000000 in
theorem walkL1 (a b : ByteArray) (n : Int) (w : World) (ha : a.size ≤ 140737488351232) (hb : b.size ≤ 140737488351232) (hk : (IntKind.u64.wrap n).tmod 4 = 1) (hlen : (0 : Int) < (a.size : Int)) (h : a.size - 1 < a.size) (h48 : ¬ (48 : Int) ≤ (a[a.size - 1].toNat : Int)) :
    Calls Try.prog 8 #[.string a, .string b, .int .i64 n] w fun e w' => e = .returned (.bool true) ∧ Below w.heap.size w w' := by
  have HL : LastND a.data.toList := fun c hc => by
    rw [last_at a h] at hc
    cases hc
    simp [isC]; omega
  obtain ⟨t1, ht1, z1, d1⟩ := cat_step a ⟨#[126]⟩
  obtain ⟨t2, ht2, z2, d2⟩ := cat_step t1 b
  rw [show (⟨#[126]⟩ : ByteArray).size = 1 from rfl] at z1
  have D1 := fun w => Part_any t2 a w (by omega) (by omega)
  rw [d2, d1, show (⟨#[126]⟩ : ByteArray).data.toList = [126] from rfl, List.append_assoc, List.singleton_append, part_tilde _ _ _ (Nat.le_refl _)] at D1
  obtain ⟨u1, u2, u3, v1, v2, nm⟩ := names a b ⟨#[48]⟩
  have hzs : (⟨#[48]⟩ : ByteArray).size = 1 := rfl
  have D2 := fun w => Part_any u3 v2 w (by have := nm.s1; have := nm.s2; have := nm.s3; omega) (by have := nm.r1; have := nm.r2; omega)
  rw [nm.d, nm.g, part_zeros _ _ (by intro c hc; simp at hc; try exact hc) _ _ (Nat.le_refl _) HL] at D2
  have D1 := hide D1
  have D2 := hide D2
  have e1 := nm.e1
  have e2 := nm.e2
  have e3 := nm.e3
  have f1 := nm.f1
  have f2 := nm.f2
  have s1 : u1.size ≤ 500000000000000 := by have := nm.s1; omega
  have s2 : u2.size ≤ 500000000000000 := by have := nm.s2; have := nm.s1; omega
  have s3 : u3.size ≤ 500000000000000 := by have := nm.s3; have := nm.s2; have := nm.s1; omega
  have r1 : v1.size ≤ 500000000000000 := by have := nm.r1; omega
  have r2 : v2.size ≤ 500000000000000 := by have := nm.r2; have := nm.r1; omega
  clear d1 d2 nm HL hzs
  go_enter Try.func8, Try.ntmps8
  go_wp2_with fail
  refine (D1.out _).mono ?_
  rintro e w1 ⟨rfl, b1⟩
  go_wp2_with fail
  refine (D2.out _).mono ?_
  rintro e w2 ⟨rfl, b2⟩
  go_wp2_with fail
  refine (awake_any _).mono ?_
  rintro e w3 ⟨rfl, b3⟩
  go_wp2_with fail
  go_ret
  have q1 := b1.alloc b1.size (.cells #[.string ⟨#[]⟩, .string ⟨#[48]⟩, .string ⟨#[48, 48]⟩, .string ⟨#[48, 48, 48]⟩] 9)
  have q2 := q1.trans (b2.mono q1.size)
  exact ⟨rfl, q2.trans (b3.mono q2.size)⟩

set_option maxRecDepth 100000 in
set_option maxHeartbeats 4000000 in
theorem walkL2 (a b : ByteArray) (n : Int) (w : World) (ha : a.size ≤ 140737488351232) (hb : b.size ≤ 140737488351232) (hk : (IntKind.u64.wrap n).tmod 4 = 2) (hlen : (0 : Int) < (a.size : Int)) (h : a.size - 1 < a.size) (h48 : ¬ (48 : Int) ≤ (a[a.size - 1].toNat : Int)) :
    Calls Try.prog 8 #[.string a, .string b, .int .i64 n] w fun e w' => e = .returned (.bool true) ∧ Below w.heap.size w w' := by
  have HL : LastND a.data.toList := fun c hc => by
    rw [last_at a h] at hc
    cases hc
    simp [isC]; omega
  obtain ⟨t1, ht1, z1, d1⟩ := cat_step a ⟨#[126]⟩
  obtain ⟨t2, ht2, z2, d2⟩ := cat_step t1 b
  rw [show (⟨#[126]⟩ : ByteArray).size = 1 from rfl] at z1
  have D1 := fun w => Part_any t2 a w (by omega) (by omega)
  rw [d2, d1, show (⟨#[126]⟩ : ByteArray).data.toList = [126] from rfl, List.append_assoc, List.singleton_append, part_tilde _ _ _ (Nat.le_refl _)] at D1
  obtain ⟨u1, u2, u3, v1, v2, nm⟩ := names a b ⟨#[48, 48]⟩
  have hzs : (⟨#[48, 48]⟩ : ByteArray).size = 2 := rfl
  have D2 := fun w => Part_any u3 v2 w (by have := nm.s1; have := nm.s2; have := nm.s3; omega) (by have := nm.r1; have := nm.r2; omega)
  rw [nm.d, nm.g, part_zeros _ _ (by intro c hc; simp at hc; try exact hc) _ _ (Nat.le_refl _) HL] at D2
  have D1 := hide D1
  have D2 := hide D2
  have e1 := nm.e1
  have e2 := nm.e2
  have e3 := nm.e3
  have f1 := nm.f1
  have f2 := nm.f2
  have s1 : u1.size ≤ 500000000000000 := by have := nm.s1; omega
  have s2 : u2.size ≤ 500000000000000 := by have := nm.s2; have := nm.s1; omega
  have s3 : u3.size ≤ 500000000000000 := by have := nm.s3; have := nm.s2; have := nm.s1; omega
  have r1 : v1.size ≤ 500000000000000 := by have := nm.r1; omega
  have r2 : v2.size ≤ 500000000000000 := by have := nm.r2; have := nm.r1; omega
  clear d1 d2 nm HL hzs
  go_enter Try.func8, Try.ntmps8
  go_wp2_with fail
  refine (D1.out _).mono ?_
  rintro e w1 ⟨rfl, b1⟩
  go_wp2_with fail
  refine (D2.out _).mono ?_
  rintro e w2 ⟨rfl, b2⟩
  go_wp2_with fail
  refine (awake_any _).mono ?_
  rintro e w3 ⟨rfl, b3⟩
  go_wp2_with fail
  go_ret
  have q1 := b1.alloc b1.size (.cells #[.string ⟨#[]⟩, .string ⟨#[48]⟩, .string ⟨#[48, 48]⟩, .string ⟨#[48, 48, 48]⟩] 9)
  have q2 := q1.trans (b2.mono q1.size)
  exact ⟨rfl, q2.trans (b3.mono q2.size)⟩

set_option maxRecDepth 100000 in
set_option maxHeartbeats 4000000 in
theorem walkL3 (a b : ByteArray) (n : Int) (w : World) (ha : a.size ≤ 140737488351232) (hb : b.size ≤ 140737488351232) (hk : (IntKind.u64.wrap n).tmod 4 = 3) (hlen : (0 : Int) < (a.size : Int)) (h : a.size - 1 < a.size) (h48 : ¬ (48 : Int) ≤ (a[a.size - 1].toNat : Int)) :
    Calls Try.prog 8 #[.string a, .string b, .int .i64 n] w fun e w' => e = .returned (.bool true) ∧ Below w.heap.size w w' := by
  have HL : LastND a.data.toList := fun c hc => by
    rw [last_at a h] at hc
    cases hc
    simp [isC]; omega
  obtain ⟨t1, ht1, z1, d1⟩ := cat_step a ⟨#[126]⟩
  obtain ⟨t2, ht2, z2, d2⟩ := cat_step t1 b
  rw [show (⟨#[126]⟩ : ByteArray).size = 1 from rfl] at z1
  have D1 := fun w => Part_any t2 a w (by omega) (by omega)
  rw [d2, d1, show (⟨#[126]⟩ : ByteArray).data.toList = [126] from rfl, List.append_assoc, List.singleton_append, part_tilde _ _ _ (Nat.le_refl _)] at D1
  obtain ⟨u1, u2, u3, v1, v2, nm⟩ := names a b ⟨#[48, 48, 48]⟩
  have hzs : (⟨#[48, 48, 48]⟩ : ByteArray).size = 3 := rfl
  have D2 := fun w => Part_any u3 v2 w (by have := nm.s1; have := nm.s2; have := nm.s3; omega) (by have := nm.r1; have := nm.r2; omega)
  rw [nm.d, nm.g, part_zeros _ _ (by intro c hc; simp at hc; try exact hc) _ _ (Nat.le_refl _) HL] at D2
  have D1 := hide D1
  have D2 := hide D2
  have e1 := nm.e1
  have e2 := nm.e2
  have e3 := nm.e3
  have f1 := nm.f1
  have f2 := nm.f2
  have s1 : u1.size ≤ 500000000000000 := by have := nm.s1; omega
  have s2 : u2.size ≤ 500000000000000 := by have := nm.s2; have := nm.s1; omega
  have s3 : u3.size ≤ 500000000000000 := by have := nm.s3; have := nm.s2; have := nm.s1; omega
  have r1 : v1.size ≤ 500000000000000 := by have := nm.r1; omega
  have r2 : v2.size ≤ 500000000000000 := by have := nm.r2; have := nm.r1; omega
  clear d1 d2 nm HL hzs
  go_enter Try.func8, Try.ntmps8
  go_wp2_with fail
  refine (D1.out _).mono ?_
  rintro e w1 ⟨rfl, b1⟩
  go_wp2_with fail
  refine (D2.out _).mono ?_
  rintro e w2 ⟨rfl, b2⟩
  go_wp2_with fail
  refine (awake_any _).mono ?_
  rintro e w3 ⟨rfl, b3⟩
  go_wp2_with fail
  go_ret
  have q1 := b1.alloc b1.size (.cells #[.string ⟨#[]⟩, .string ⟨#[48]⟩, .string ⟨#[48, 48]⟩, .string ⟨#[48, 48, 48]⟩] 9)
  have q2 := q1.trans (b2.mono q1.size)
  exact ⟨rfl, q2.trans (b3.mono q2.size)⟩

set_option maxRecDepth 100000 in
set_option maxHeartbeats 4000000 in
theorem walkG0 (a b : ByteArray) (n : Int) (w : World) (ha : a.size ≤ 140737488351232) (hb : b.size ≤ 140737488351232) (hk : (IntKind.u64.wrap n).tmod 4 = 0) (hlen : (0 : Int) < (a.size : Int)) (h : a.size - 1 < a.size) (h48 : (48 : Int) ≤ (a[a.size - 1].toNat : Int)) (h57 : ¬ (a[a.size - 1].toNat : Int) ≤ 57) :
    Calls Try.prog 8 #[.string a, .string b, .int .i64 n] w fun e w' => e = .returned (.bool true) ∧ Below w.heap.size w w' := by
  have HL : LastND a.data.toList := fun c hc => by
    rw [last_at a h] at hc
    cases hc
    simp [isC]; omega
  obtain ⟨t1, ht1, z1, d1⟩ := cat_step a ⟨#[126]⟩
  obtain ⟨t2, ht2, z2, d2⟩ := cat_step t1 b
  rw [show (⟨#[126]⟩ : ByteArray).size = 1 from rfl] at z1
  have D1 := fun w => Part_any t2 a w (by omega) (by omega)
  rw [d2, d1, show (⟨#[126]⟩ : ByteArray).data.toList = [126] from rfl, List.append_assoc, List.singleton_append, part_tilde _ _ _ (Nat.le_refl _)] at D1
  obtain ⟨v1, f1, r1, g1⟩ := cat_step a ⟨#[55]⟩
  obtain ⟨v2, f2, r2, g2⟩ := cat_step v1 b
  rw [show (⟨#[55]⟩ : ByteArray).size = 1 from rfl] at r1
  have D2 := fun w => Part_any v2 v2 w (by omega) (by omega)
  rw [partO_cmp3.self] at D2
  have e1 := cat_nil a
  have D1 := hide D1
  have D2 := hide D2
  have q1 : v1.size ≤ 500000000000000 := by omega
  have q2 : v2.size ≤ 500000000000000 := by omega
  clear d1 d2 HL g1 g2 r1 r2
  go_enter Try.func8, Try.ntmps8
  go_wp2_with fail
  refine (D1.out _).mono ?_
  rintro e w1 ⟨rfl, b1⟩
  go_wp2_with fail
  refine (D2.out _).mono ?_
  rintro e w2 ⟨rfl, b2⟩
  go_wp2_with fail
  refine (awake_any _).mono ?_
  rintro e w3 ⟨rfl, b3⟩
  go_wp2_with fail
  go_ret
  have q1 := b1.alloc b1.size (.cells #[.string ⟨#[]⟩, .string ⟨#[48]⟩, .string ⟨#[48, 48]⟩, .string ⟨#[48, 48, 48]⟩] 9)
  have q2 := q1.trans (b2.mono q1.size)
  exact ⟨rfl, q2.trans (b3.mono q2.size)⟩

set_option maxRecDepth 100000 in
set_option maxHeartbeats 4000000 in
theorem walkG1 (a b : ByteArray) (n : Int) (w : World) (ha : a.size ≤ 140737488351232) (hb : b.size ≤ 140737488351232) (hk : (IntKind.u64.wrap n).tmod 4 = 1) (hlen : (0 : Int) < (a.size : Int)) (h : a.size - 1 < a.size) (h48 : (48 : Int) ≤ (a[a.size - 1].toNat : Int)) (h57 : ¬ (a[a.size - 1].toNat : Int) ≤ 57) :
    Calls Try.prog 8 #[.string a, .string b, .int .i64 n] w fun e w' => e = .returned (.bool true) ∧ Below w.heap.size w w' := by
  have HL : LastND a.data.toList := fun c hc => by
    rw [last_at a h] at hc
    cases hc
    simp [isC]; omega
  obtain ⟨t1, ht1, z1, d1⟩ := cat_step a ⟨#[126]⟩
  obtain ⟨t2, ht2, z2, d2⟩ := cat_step t1 b
  rw [show (⟨#[126]⟩ : ByteArray).size = 1 from rfl] at z1
  have D1 := fun w => Part_any t2 a w (by omega) (by omega)
  rw [d2, d1, show (⟨#[126]⟩ : ByteArray).data.toList = [126] from rfl, List.append_assoc, List.singleton_append, part_tilde _ _ _ (Nat.le_refl _)] at D1
  obtain ⟨u1, u2, u3, v1, v2, nm⟩ := names a b ⟨#[48]⟩
  have hzs : (⟨#[48]⟩ : ByteArray).size = 1 := rfl
  have D2 := fun w => Part_any u3 v2 w (by have := nm.s1; have := nm.s2; have := nm.s3; omega) (by have := nm.r1; have := nm.r2; omega)
  rw [nm.d, nm.g, part_zeros _ _ (by intro c hc; simp at hc; try exact hc) _ _ (Nat.le_refl _) HL] at D2
  have D1 := hide D1
  have D2 := hide D2
  have e1 := nm.e1
  have e2 := nm.e2
  have e3 := nm.e3
  have f1 := nm.f1
  have f2 := nm.f2
  have s1 : u1.size ≤ 500000000000000 := by have := nm.s1; omega
  have s2 : u2.size ≤ 500000000000000 := by have := nm.s2; have := nm.s1; omega
  have s3 : u3.size ≤ 500000000000000 := by have := nm.s3; have := nm.s2; have := nm.s1; omega
  have r1 : v1.size ≤ 500000000000000 := by have := nm.r1; omega
  have r2 : v2.size ≤ 500000000000000 := by have := nm.r2; have := nm.r1; omega
  clear d1 d2 nm HL hzs
  go_enter Try.func8, Try.ntmps8
  go_wp2_with fail
  refine (D1.out _).mono ?_
  rintro e w1 ⟨rfl, b1⟩
  go_wp2_with fail
  refine (D2.out _).mono ?_
  rintro e w2 ⟨rfl, b2⟩
  go_wp2_with fail
  refine (awake_any _).mono ?_
  rintro e w3 ⟨rfl, b3⟩
  go_wp2_with fail
  go_ret
  have q1 := b1.alloc b1.size (.cells #[.string ⟨#[]⟩, .string ⟨#[48]⟩, .string ⟨#[48, 48]⟩, .string ⟨#[48, 48, 48]⟩] 9)
  have q2 := q1.trans (b2.mono q1.size)
  exact ⟨rfl, q2.trans (b3.mono q2.size)⟩

set_option maxRecDepth 100000 in
set_option maxHeartbeats 4000000 in
theorem walkG2 (a b : ByteArray) (n : Int) (w : World) (ha : a.size ≤ 140737488351232) (hb : b.size ≤ 140737488351232) (hk : (IntKind.u64.wrap n).tmod 4 = 2) (hlen : (0 : Int) < (a.size : Int)) (h : a.size - 1 < a.size) (h48 : (48 : Int) ≤ (a[a.size - 1].toNat : Int)) (h57 : ¬ (a[a.size - 1].toNat : Int) ≤ 57) :
    Calls Try.prog 8 #[.string a, .string b, .int .i64 n] w fun e w' => e = .returned (.bool true) ∧ Below w.heap.size w w' := by
  have HL : LastND a.data.toList := fun c hc => by
    rw [last_at a h] at hc
    cases hc
    simp [isC]; omega
  obtain ⟨t1, ht1, z1, d1⟩ := cat_step a ⟨#[126]⟩
  obtain ⟨t2, ht2, z2, d2⟩ := cat_step t1 b
  rw [show (⟨#[126]⟩ : ByteArray).size = 1 from rfl] at z1
  have D1 := fun w => Part_any t2 a w (by omega) (by omega)
  rw [d2, d1, show (⟨#[126]⟩ : ByteArray).data.toList = [126] from rfl, List.append_assoc, List.singleton_append, part_tilde _ _ _ (Nat.le_refl _)] at D1
  obtain ⟨u1, u2, u3, v1, v2, nm⟩ := names a b ⟨#[48, 48]⟩
  have hzs : (⟨#[48, 48]⟩ : ByteArray).size = 2 := rfl
  have D2 := fun w => Part_any u3 v2 w (by have := nm.s1; have := nm.s2; have := nm.s3; omega) (by have := nm.r1; have := nm.r2; omega)
  rw [nm.d, nm.g, part_zeros _ _ (by intro c hc; simp at hc; try exact hc) _ _ (Nat.le_refl _) HL] at D2
  have D1 := hide D1
  have D2 := hide D2
  have e1 := nm.e1
  have e2 := nm.e2
  have e3 := nm.e3
  have f1 := nm.f1
  have f2 := nm.f2
  have s1 : u1.size ≤ 500000000000000 := by have := nm.s1; omega
  have s2 : u2.size ≤ 500000000000000 := by have := nm.s2; have := nm.s1; omega
  have s3 : u3.size ≤ 500000000000000 := by have := nm.s3; have := nm.s2; have := nm.s1; omega
  have r1 : v1.size ≤ 500000000000000 := by have := nm.r1; omega
  have r2 : v2.size ≤ 500000000000000 := by have := nm.r2; have := nm.r1; omega
  clear d1 d2 nm HL hzs
  go_enter Try.func8, Try.ntmps8
  go_wp2_with fail
  refine (D1.out _).mono ?_
  rintro e w1 ⟨rfl, b1⟩
  go_wp2_with fail
  refine (D2.out _).mono ?_
  rintro e w2 ⟨rfl, b2⟩
  go_wp2_with fail
  refine (awake_any _).mono ?_
  rintro e w3 ⟨rfl, b3⟩
  go_wp2_with fail
  go_ret
  have q1 := b1.alloc b1.size (.cells #[.string ⟨#[]⟩, .string ⟨#[48]⟩, .string ⟨#[48, 48]⟩, .string ⟨#[48, 48, 48]⟩] 9)
  have q2 := q1.trans (b2.mono q1.size)
  exact ⟨rfl, q2.trans (b3.mono q2.size)⟩

set_option maxRecDepth 100000 in
set_option maxHeartbeats 4000000 in
theorem walkG3 (a b : ByteArray) (n : Int) (w : World) (ha : a.size ≤ 140737488351232) (hb : b.size ≤ 140737488351232) (hk : (IntKind.u64.wrap n).tmod 4 = 3) (hlen : (0 : Int) < (a.size : Int)) (h : a.size - 1 < a.size) (h48 : (48 : Int) ≤ (a[a.size - 1].toNat : Int)) (h57 : ¬ (a[a.size - 1].toNat : Int) ≤ 57) :
    Calls Try.prog 8 #[.string a, .string b, .int .i64 n] w fun e w' => e = .returned (.bool true) ∧ Below w.heap.size w w' := by
  have HL : LastND a.data.toList := fun c hc => by
    rw [last_at a h] at hc
    cases hc
    simp [isC]; omega
  obtain ⟨t1, ht1, z1, d1⟩ := cat_step a ⟨#[126]⟩
  obtain ⟨t2, ht2, z2, d2⟩ := cat_step t1 b
  rw [show (⟨#[126]⟩ : ByteArray).size = 1 from rfl] at z1
  have D1 := fun w => Part_any t2 a w (by omega) (by omega)
  rw [d2, d1, show (⟨#[126]⟩ : ByteArray).data.toList = [126] from rfl, List.append_assoc, List.singleton_append, part_tilde _ _ _ (Nat.le_refl _)] at D1
  obtain ⟨u1, u2, u3, v1, v2, nm⟩ := names a b ⟨#[48, 48, 48]⟩
  have hzs : (⟨#[48, 48, 48]⟩ : ByteArray).size = 3 := rfl
  have D2 := fun w => Part_any u3 v2 w (by have := nm.s1; have := nm.s2; have := nm.s3; omega) (by have := nm.r1; have := nm.r2; omega)
  rw [nm.d, nm.g, part_zeros _ _ (by intro c hc; simp at hc; try exact hc) _ _ (Nat.le_refl _) HL] at D2
  have D1 := hide D1
  have D2 := hide D2
  have e1 := nm.e1
  have e2 := nm.e2
  have e3 := nm.e3
  have f1 := nm.f1
  have f2 := nm.f2
  have s1 : u1.size ≤ 500000000000000 := by have := nm.s1; omega
  have s2 : u2.size ≤ 500000000000000 := by have := nm.s2; have := nm.s1; omega
  have s3 : u3.size ≤ 500000000000000 := by have := nm.s3; have := nm.s2; have := nm.s1; omega
  have r1 : v1.size ≤ 500000000000000 := by have := nm.r1; omega
  have r2 : v2.size ≤ 500000000000000 := by have := nm.r2; have := nm.r1; omega
  clear d1 d2 nm HL hzs
  go_enter Try.func8, Try.ntmps8
  go_wp2_with fail
  refine (D1.out _).mono ?_
  rintro e w1 ⟨rfl, b1⟩
  go_wp2_with fail
  refine (D2.out _).mono ?_
  rintro e w2 ⟨rfl, b2⟩
  go_wp2_with fail
  refine (awake_any _).mono ?_
  rintro e w3 ⟨rfl, b3⟩
  go_wp2_with fail
  go_ret
  have q1 := b1.alloc b1.size (.cells #[.string ⟨#[]⟩, .string ⟨#[48]⟩, .string ⟨#[48, 48]⟩, .string ⟨#[48, 48, 48]⟩] 9)
  have q2 := q1.trans (b2.mono q1.size)
  exact ⟨rfl, q2.trans (b3.mono q2.size)⟩

theorem walk (a b : ByteArray) (n : Int) (ha : a.size ≤ 140737488351232) (hb : b.size ≤ 140737488351232) (w : World) :
    Calls Try.prog 8 #[.string a, .string b, .int .i64 n] w fun e w' => e = .returned (.bool true) ∧ Below w.heap.size w w' := by
  by_cases hlen : (0 : Int) < (a.size : Int)
  · have h : a.size - 1 < a.size := by omega
    by_cases h48 : (48 : Int) ≤ (a[a.size - 1].toNat : Int)
    · by_cases h57 : (a[a.size - 1].toNat : Int) ≤ 57
      · rcases four n with hk | hk | hk | hk
        · exact walkD0 a b n w ha hb hk hlen h h48 h57
        · exact walkD1 a b n w ha hb hk hlen h h48 h57
        · exact walkD2 a b n w ha hb hk hlen h h48 h57
        · exact walkD3 a b n w ha hb hk hlen h h48 h57
      · rcases four n with hk | hk | hk | hk
        · exact walkG0 a b n w ha hb hk hlen h h48 h57
        · exact walkG1 a b n w ha hb hk hlen h h48 h57
        · exact walkG2 a b n w ha hb hk hlen h h48 h57
        · exact walkG3 a b n w ha hb hk hlen h h48 h57
    · rcases four n with hk | hk | hk | hk
      · exact walkL0 a b n w ha hb hk hlen h h48
      · exact walkL1 a b n w ha hb hk hlen h h48
      · exact walkL2 a b n w ha hb hk hlen h h48
      · exact walkL3 a b n w ha hb hk hlen h h48
  · rcases four n with hk | hk | hk | hk
    · exact walkE0 a b n w ha hb hk hlen
    · exact walkE1 a b n w ha hb hk hlen
    · exact walkE2 a b n w ha hb hk hlen
    · exact walkE3 a b n w ha hb hk hlen

set_option maxRecDepth 100000 in
theorem lifted (os : Os) (started : os.Started) (H : Type) (enc : TypeId × Value → H) :
    ReturnsInHanded {} Try.checked os 8 .any (Rows.debTildeSpec.pre6 enc Try.prog Try.f8 Rows.debTildeRow.domain false) (Rows.debTildeSpec.post enc Try.prog Try.f8 false true false false) := by
  refine returnsInHanded_of_change_sized (C := Try.checked) own started (by kernel_rfl) Try.func8
    (ChangeSpec.witness6 (enc := enc) (C := Try.checked) false ⟨#[], #[.string ByteArray.empty, .string ByteArray.empty, .int .i64 0], []⟩ 8 (by kernel_rfl) (by kernel_rfl) (by kernel_rfl) (by kernel_rfl)) ?_
  intro W base args ds gs before hval0 hW hcnd hsz0 _
  have hval : ∀ (j : Nat) t v, Try.f8.params[j]? = some t → args[j]? = some v → Value.okWide Try.prog W .any base t v := hval0
  have hsz : (DataW.weightsEach Try.prog (Try.f8.params.toList ++ Rows.debTildeSpec.plain.varTypes Try.prog) (ds ++ gs)).all (· ≤ reachBytes) = true := hsz0
  have hW' := hW
  obtain ⟨p, q, hA0, hV, rfl, hfz, hnd⟩ := hW
  have hA : DataW.TrodAll enc Try.prog W 0 (fun _ => true) true Try.f8.params.toList args.toList ds p := hA0
  rw [Try.params8] at hA hval hsz
  obtain ⟨v0, vs0, d0, ds0, p0, q0, hargs, rfl, rfl, h0, r0⟩ := trodAll_cons hA
  obtain ⟨v1, vs1, d1, ds1, p1, q1, rfl, rfl, rfl, h1, r1⟩ := trodAll_cons r0
  obtain ⟨v2, vs2, d2, ds2, p2, q2, rfl, rfl, rfl, h2, r2⟩ := trodAll_cons r1
  obtain ⟨rfl, rfl, rfl⟩ := trodAll_nil r2
  obtain rfl : args = #[v0, v1, v2] := by cases args; simp_all
  obtain ⟨rfl, rfl⟩ := trodVars_none hV
  obtain ⟨a0, rfl, rfl, rfl, w0⟩ := open_string Try.underlying9 (hval 0 9 v0 rfl rfl) h0
  have s0 : a0.data.toList.length ≤ reachBytes := sized_string hsz (j := 0) (t := 9) rfl rfl
  rw [len_data] at s0
  have s0 : a0.size ≤ 140737488351232 := s0
  obtain ⟨a1, rfl, rfl, rfl, w1⟩ := open_string Try.underlying9 (hval 1 9 v1 rfl rfl) h1
  have s1 : a1.data.toList.length ≤ reachBytes := sized_string hsz (j := 1) (t := 9) rfl rfl
  rw [len_data] at s1
  have s1 : a1.size ≤ 140737488351232 := s1
  obtain ⟨a2, rfl, rfl, rfl, w2⟩ := open_int Try.underlying3 (hval 2 3 v2 rfl rfl) h2
  clear hA0 hval0 hsz0 hsz
  refine (walk a0 a1 a2 s0 s1 W).mono fun e W' ⟨he, bel⟩ => ?_
  subst he
  exact ⟨_, rfl, _, _, _, [], _, [], hW', trodAll_mk1 (shut_bool Try.underlying4 _), (trodAll_cons_mk (shut_string Try.underlying9 w0) (trodAll_cons_mk (shut_string Try.underlying9 w1) (trodAll_cons_mk (shut_int Try.underlying3 w2) trodAll_mk0))), rfl, bel.frame _, fun h => by cases h⟩

theorem over : Rows.debTildeRow.holds Try.pinned (OpenSpec.ofChange Rows.debTildeSpec) :=
  OpenClaim.holds_of_wide 8 Try.f8 rfl rfl rfl rfl rfl rfl rfl ⟨rfl, rfl, rfl, rfl, rfl⟩ rfl rfl rfl rfl rfl (by kernel_rfl) Try.func8 (by kernel_rfl)
    (of_decide_eq_true (by kernel_rfl)) (by unfold Func.isWrapper; first | (rw [if_pos (by decide +kernel)]; kernel_rfl) | (rw [if_neg (by decide +kernel)]; exact ⟨rfl, rfl⟩))
    (fun os started H enc _ => lifted os started H enc)
end DebTildeP

theorem debTilde_holds : Rows.DebTildeSaid := DebTildeP.over
#print axioms debTilde_holds
end Go.Proofs.Ythojcidbhojlhaa
