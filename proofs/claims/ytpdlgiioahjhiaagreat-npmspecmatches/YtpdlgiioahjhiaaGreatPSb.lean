/- Walks: Major, Minor and Patch. -/
import Derived.WalkMore
import Derived.Test.YtpdlgiioahjhiaaGreatPSc
namespace Go.Proofs.YtpdlgiioahjhiaaGreat
open Go.RowKit
open Below renaming refl → qcgm
open Exit renaming noGoto_ret → qcdz
open Nat renaming le_refl → qcgl
set_option linter.unusedVariables false
set_option maxHeartbeats 4000000
def semZ : Value := .agg #[.string ⟨#[]⟩, .string ⟨#[]⟩, .string ⟨#[]⟩, .slice none 0 0, .slice none 0 0]
def qfx (s : QY) : Value :=
 match qdp s.data.toList with
 | .error x => .tuple #[semZ, .int .i64 (x.2 : Int), .int .i64 x.1]
 | .ok (a, b, c, d, e) => .tuple #[.agg #[.string (s.extract 0 a), .string (s.extract b c), .string (s.extract d e), .slice none 0 0, .slice none 0 0], .int .i64 (e : Int), .int .i64 0]
def RunC (s : QY) (a e : Nat) : Prop := ∀ (z : Int) (w : World), z = (a : Int) → Calls Tryz.prog 28 #[.string s, .int .i64 z, .int .i64 1] w fun r w' => r = .returned (.int .i64 (e : Int)) ∧ w' = w
def ZC (x : QY) (b : Bool) : Prop := ∀ w : World, Calls Tryz.prog 103 #[.string x] w fun r w' => r = .returned (.bool b) ∧ w' = w
theorem qbpc (s : QY) (a e : Nat) (h : e ≤ s.size) : (s.extract a e).size = e - a := by
 rw [qbx, qx, qpw _ _ _ (by rw [qh]; exact h)]
theorem qwh (s : QY) (a : Nat) (ha : a ≤ s.size) (hs : s.size ≤ maxLen) :
  (RunC s a a ∧ numR s.data.toList a = .error (misL s.size a, a)) ∨ (∃ e, a < e ∧ e ≤ s.size ∧ RunC s a e ∧ ((ZC (s.extract a e) true ∧ numR s.data.toList a = .error (14, a + 1)) ∨ (ZC (s.extract a e) false ∧ numR s.data.toList a = .ok e))) := by
 have hR : RunC s a (a + qz 1 (s.data.toList.drop a)) := by
  rintro z w rfl;have := qpn s (a : Int) 1 w hs;rw [qlf s a 1 ha] at this;simpa using this
 have hle := qjn 1 s a ha;unfold numR;rw [qh]
 by_cases h0 : qz 1 (s.data.toList.drop a) = 0
 ·rw [h0] at hR ⊢;exact .inl ⟨hR, by rw [if_pos rfl]⟩
 ·rw [if_neg h0];refine .inr ⟨a + qz 1 (s.data.toList.drop a), by omega, hle, hR, ?_⟩
  generalize a + qz 1 (s.data.toList.drop a) = e at *;have hZ : ZC (s.extract a e) (qcq (seg s.data.toList a e)) := fun w => by
   have := qkf (s.extract a e) w (by rw [qbpc s a e hle]; omega)
   rw [qfb] at this;exact this
  cases hz : qcq (seg s.data.toList a e)
  ·rw [hz] at hZ; exact .inr ⟨hZ, by simp⟩
  ·rw [hz] at hZ; exact .inl ⟨hZ, by simp⟩
theorem qbjl (s : QY) (a : Nat) (ha : a ≤ s.size) :
  (((a : Int) == (s.size : Int)) = true ∧ dotR s.data.toList a = .error (misL s.size a, a)) ∨ (∃ h : a < s.size, ((a : Int) == (s.size : Int)) = false ∧ ((((s[a].toNat : Int) != 46) = true ∧ dotR s.data.toList a = .error (misL s.size a, a)) ∨ (((s[a].toNat : Int) != 46) = false ∧ dotR s.data.toList a = .ok (a + 1)))) := by
 unfold dotR;rw [qh]
 by_cases h : a < s.size
 ·refine .inr ⟨h, by simp; omega, ?_⟩
  rw [qdz s a h]
  by_cases hc : s[a] = 46
  ·exact .inr ⟨by rw [hc]; rfl, by rw [hc, if_pos rfl]⟩
  ·exact .inl ⟨by have := qfl (k := 46) (by omega) hc; simpa [bne] using this, by rw [if_neg (by simpa using hc)]⟩
 ·refine .inl ⟨by simp; omega, ?_⟩
  rw [qft s a h, if_neg (by simp)]
theorem qxb (s : QY) (w : World) (hs : s.size ≤ 9223372036854775806) :
  Calls Tryz.prog 72 #[.string s] w fun e w' => e = .returned (qfx s) ∧ Below w.heap.size w w' := by
 have hs' : s.size ≤ maxLen := by unfold maxLen; omega
 rcases qwh s 0 (by omega) hs' with ⟨r0, hn0⟩ | ⟨a1, he0, hl0, r0, ⟨z0, hn0⟩ | ⟨z0, hn0⟩⟩
 ·have HV := qb (by simp only [qfx, qdp, hn0] : qfx s = .tuple #[semZ, .int .i64 ((0 : Nat) : Int), .int .i64 (misL s.size 0)])
  have R0 := qb r0;clear r0 hn0;go_enter Tryz.func72, Tryz.ntmps72
  (go_wp2_with fail);go_step3
  (go_wp2_with fail);go_step3
  (go_wp2_with fail);refine wp_loop_rounds 4 ?_;rw [rounds_succ];(go_wp2_with fail);refine (R0.out _ _ rfl).mono ?_;rintro e w' ⟨rfl, hw'⟩;rw [hw'];clear hw' w';(go_wp2_with fail);refine (qcl _ 0 _).mono ?_;rintro e w' ⟨rfl, rfl⟩;(go_wp2_with fail);rw [qcdz];refine bodyPost_ret (by simp [results, Tryz.results72, go_sem]; try rfl) rfl ?_
  exact ⟨by rw [HV.out] <;> rfl, ((((qcgm _ w).alloc (qcgl _) _).alloc (by simp) _).alloc (by simp; omega) _)⟩
 ·have HV := qb (by simp only [qfx, qdp, hn0] : qfx s = .tuple #[semZ, .int .i64 ((0 + 1 : Nat) : Int), .int .i64 14])
  have R0 := qb r0;have Z0 := qb z0;clear r0 z0 hn0;go_enter Tryz.func72, Tryz.ntmps72
  (go_wp2_with fail);go_step3
  (go_wp2_with fail);go_step3
  (go_wp2_with fail);refine wp_loop_rounds 4 ?_;rw [rounds_succ];(go_wp2_with fail);refine (R0.out _ _ rfl).mono ?_;rintro e w' ⟨rfl, hw'⟩;rw [hw'];clear hw' w';(go_wp2_with fail);refine (Z0.out _).mono ?_;rintro e w' ⟨rfl, hw'⟩;rw [hw'];clear hw' w';(go_wp2_with fail);rw [qcdz];refine bodyPost_ret (by simp [results, Tryz.results72, go_sem]; try rfl) rfl ?_
  exact ⟨by rw [HV.out] <;> rfl, ((((qcgm _ w).alloc (qcgl _) _).alloc (by simp) _).alloc (by simp; omega) _)⟩
 ·have R0 := qb r0;have Z0 := qb z0;clear r0 z0;rcases qbjl s a1 hl0 with ⟨q0, hd0⟩ | ⟨hx0, q0, ⟨t0, hd0⟩ | ⟨t0, hd0⟩⟩
  ·have HV := qb (by simp only [qfx, qdp, hn0, hd0] : qfx s = .tuple #[semZ, .int .i64 ((a1 : Nat) : Int), .int .i64 (misL s.size a1)])
   clear hn0 hd0;go_enter Tryz.func72, Tryz.ntmps72
   (go_wp2_with fail);go_step3
   (go_wp2_with fail);go_step3
   (go_wp2_with fail);refine wp_loop_rounds 4 ?_;rw [rounds_succ];(go_wp2_with fail);refine (R0.out _ _ rfl).mono ?_;rintro e w' ⟨rfl, hw'⟩;rw [hw'];clear hw' w';(go_wp2_with fail);refine (Z0.out _).mono ?_;rintro e w' ⟨rfl, hw'⟩;rw [hw'];clear hw' w';(go_wp2_with fail);rw [rounds_succ];(go_wp2_with fail);refine (qcl _ a1 _).mono ?_;rintro e w' ⟨rfl, rfl⟩;(go_wp2_with fail);rw [qcdz];refine bodyPost_ret (by simp [results, Tryz.results72, go_sem]; try rfl) rfl ?_
   exact ⟨by rw [HV.out] <;> rfl, ((((qcgm _ w).alloc (qcgl _) _).alloc (by simp) _).alloc (by simp; omega) _)⟩
  ·have HV := qb (by simp only [qfx, qdp, hn0, hd0] : qfx s = .tuple #[semZ, .int .i64 ((a1 : Nat) : Int), .int .i64 (misL s.size a1)])
   clear hn0 hd0;go_enter Tryz.func72, Tryz.ntmps72
   (go_wp2_with fail);go_step3
   (go_wp2_with fail);go_step3
   (go_wp2_with fail);refine wp_loop_rounds 4 ?_;rw [rounds_succ];(go_wp2_with fail);refine (R0.out _ _ rfl).mono ?_;rintro e w' ⟨rfl, hw'⟩;rw [hw'];clear hw' w';(go_wp2_with fail);refine (Z0.out _).mono ?_;rintro e w' ⟨rfl, hw'⟩;rw [hw'];clear hw' w';(go_wp2_with fail);rw [rounds_succ];(go_wp2_with fail);refine (qcl _ a1 _).mono ?_;rintro e w' ⟨rfl, rfl⟩;(go_wp2_with fail);rw [qcdz];refine bodyPost_ret (by simp [results, Tryz.results72, go_sem]; try rfl) rfl ?_
   exact ⟨by rw [HV.out] <;> rfl, ((((qcgm _ w).alloc (qcgl _) _).alloc (by simp) _).alloc (by simp; omega) _)⟩
  ·skip
   rcases qwh s (a1 + 1) (by omega) hs' with ⟨r1, hn1⟩ | ⟨a2, he1, hl1, r1, ⟨z1, hn1⟩ | ⟨z1, hn1⟩⟩
   ·have HV := qb (by simp only [qfx, qdp, hn0, hd0, hn1] : qfx s = .tuple #[semZ, .int .i64 (((a1 + 1) : Nat) : Int), .int .i64 (misL s.size (a1 + 1))])
    have R1 := qb r1;clear r1 hn0 hd0 hn1;go_enter Tryz.func72, Tryz.ntmps72
    (go_wp2_with fail);go_step3
    (go_wp2_with fail);go_step3
    (go_wp2_with fail);refine wp_loop_rounds 4 ?_;rw [rounds_succ];(go_wp2_with fail);refine (R0.out _ _ rfl).mono ?_;rintro e w' ⟨rfl, hw'⟩;rw [hw'];clear hw' w';(go_wp2_with fail);refine (Z0.out _).mono ?_;rintro e w' ⟨rfl, hw'⟩;rw [hw'];clear hw' w';(go_wp2_with fail);rw [rounds_succ];(go_wp2_with fail);refine (R1.out _ _ (by simp)).mono ?_
    rintro e w' ⟨rfl, hw'⟩;rw [hw'];clear hw' w';(go_wp2_with fail);refine (qcl _ (a1 + 1) _).mono ?_;rintro e w' ⟨rfl, rfl⟩;(go_wp2_with fail);rw [qcdz];refine bodyPost_ret (by simp [results, Tryz.results72, go_sem]; try rfl) rfl ?_
    exact ⟨by rw [HV.out] <;> rfl, ((((qcgm _ w).alloc (qcgl _) _).alloc (by simp) _).alloc (by simp; omega) _)⟩
   ·have HV := qb (by simp only [qfx, qdp, hn0, hd0, hn1] : qfx s = .tuple #[semZ, .int .i64 (((a1 + 1) + 1 : Nat) : Int), .int .i64 14])
    have R1 := qb r1;have Z1 := qb z1;clear r1 z1 hn0 hd0 hn1;go_enter Tryz.func72, Tryz.ntmps72
    (go_wp2_with fail);go_step3
    (go_wp2_with fail);go_step3
    (go_wp2_with fail);refine wp_loop_rounds 4 ?_;rw [rounds_succ];(go_wp2_with fail);refine (R0.out _ _ rfl).mono ?_;rintro e w' ⟨rfl, hw'⟩;rw [hw'];clear hw' w';(go_wp2_with fail);refine (Z0.out _).mono ?_;rintro e w' ⟨rfl, hw'⟩;rw [hw'];clear hw' w';(go_wp2_with fail);rw [rounds_succ];(go_wp2_with fail);refine (R1.out _ _ (by simp)).mono ?_
    rintro e w' ⟨rfl, hw'⟩;rw [hw'];clear hw' w';(go_wp2_with fail);refine (Z1.out _).mono ?_;rintro e w' ⟨rfl, hw'⟩;rw [hw'];clear hw' w';(go_wp2_with fail);rw [qcdz];refine bodyPost_ret (by simp [results, Tryz.results72, go_sem]; try rfl) rfl ?_
    exact ⟨by rw [HV.out] <;> rfl, ((((qcgm _ w).alloc (qcgl _) _).alloc (by simp) _).alloc (by simp; omega) _)⟩
   ·have R1 := qb r1;have Z1 := qb z1;clear r1 z1;rcases qbjl s a2 hl1 with ⟨q1, hd1⟩ | ⟨hx1, q1, ⟨t1, hd1⟩ | ⟨t1, hd1⟩⟩
    ·have HV := qb (by simp only [qfx, qdp, hn0, hd0, hn1, hd1] : qfx s = .tuple #[semZ, .int .i64 ((a2 : Nat) : Int), .int .i64 (misL s.size a2)])
     clear hn0 hd0 hn1 hd1;go_enter Tryz.func72, Tryz.ntmps72
     (go_wp2_with fail);go_step3
     (go_wp2_with fail);go_step3
     (go_wp2_with fail);refine wp_loop_rounds 4 ?_;rw [rounds_succ];(go_wp2_with fail);refine (R0.out _ _ rfl).mono ?_;rintro e w' ⟨rfl, hw'⟩;rw [hw'];clear hw' w';(go_wp2_with fail);refine (Z0.out _).mono ?_;rintro e w' ⟨rfl, hw'⟩;rw [hw'];clear hw' w';(go_wp2_with fail);rw [rounds_succ];(go_wp2_with fail);refine (R1.out _ _ (by simp)).mono ?_
     rintro e w' ⟨rfl, hw'⟩;rw [hw'];clear hw' w';(go_wp2_with fail);refine (Z1.out _).mono ?_;rintro e w' ⟨rfl, hw'⟩;rw [hw'];clear hw' w';(go_wp2_with fail);rw [rounds_succ];(go_wp2_with fail);refine (qcl _ a2 _).mono ?_;rintro e w' ⟨rfl, rfl⟩;(go_wp2_with fail);rw [qcdz];refine bodyPost_ret (by simp [results, Tryz.results72, go_sem]; try rfl) rfl ?_
     exact ⟨by rw [HV.out] <;> rfl, ((((qcgm _ w).alloc (qcgl _) _).alloc (by simp) _).alloc (by simp; omega) _)⟩
    ·have HV := qb (by simp only [qfx, qdp, hn0, hd0, hn1, hd1] : qfx s = .tuple #[semZ, .int .i64 ((a2 : Nat) : Int), .int .i64 (misL s.size a2)])
     clear hn0 hd0 hn1 hd1;go_enter Tryz.func72, Tryz.ntmps72
     (go_wp2_with fail);go_step3
     (go_wp2_with fail);go_step3
     (go_wp2_with fail);refine wp_loop_rounds 4 ?_;rw [rounds_succ];(go_wp2_with fail);refine (R0.out _ _ rfl).mono ?_;rintro e w' ⟨rfl, hw'⟩;rw [hw'];clear hw' w';(go_wp2_with fail);refine (Z0.out _).mono ?_;rintro e w' ⟨rfl, hw'⟩;rw [hw'];clear hw' w';(go_wp2_with fail);rw [rounds_succ];(go_wp2_with fail);refine (R1.out _ _ (by simp)).mono ?_
     rintro e w' ⟨rfl, hw'⟩;rw [hw'];clear hw' w';(go_wp2_with fail);refine (Z1.out _).mono ?_;rintro e w' ⟨rfl, hw'⟩;rw [hw'];clear hw' w';(go_wp2_with fail);rw [rounds_succ];(go_wp2_with fail);refine (qcl _ a2 _).mono ?_;rintro e w' ⟨rfl, rfl⟩;(go_wp2_with fail);rw [qcdz];refine bodyPost_ret (by simp [results, Tryz.results72, go_sem]; try rfl) rfl ?_
     exact ⟨by rw [HV.out] <;> rfl, ((((qcgm _ w).alloc (qcgl _) _).alloc (by simp) _).alloc (by simp; omega) _)⟩
    ·skip
     rcases qwh s (a2 + 1) (by omega) hs' with ⟨r2, hn2⟩ | ⟨a3, he2, hl2, r2, ⟨z2, hn2⟩ | ⟨z2, hn2⟩⟩
     ·have HV := qb (by simp only [qfx, qdp, hn0, hd0, hn1, hd1, hn2] : qfx s = .tuple #[semZ, .int .i64 (((a2 + 1) : Nat) : Int), .int .i64 (misL s.size (a2 + 1))])
      have R2 := qb r2;clear r2 hn0 hd0 hn1 hd1 hn2;go_enter Tryz.func72, Tryz.ntmps72
      (go_wp2_with fail);go_step3
      (go_wp2_with fail);go_step3
      (go_wp2_with fail);refine wp_loop_rounds 4 ?_;rw [rounds_succ];(go_wp2_with fail);refine (R0.out _ _ rfl).mono ?_;rintro e w' ⟨rfl, hw'⟩;rw [hw'];clear hw' w';(go_wp2_with fail);refine (Z0.out _).mono ?_;rintro e w' ⟨rfl, hw'⟩;rw [hw'];clear hw' w';(go_wp2_with fail);rw [rounds_succ];(go_wp2_with fail);refine (R1.out _ _ (by simp)).mono ?_
      rintro e w' ⟨rfl, hw'⟩;rw [hw'];clear hw' w';(go_wp2_with fail);refine (Z1.out _).mono ?_;rintro e w' ⟨rfl, hw'⟩;rw [hw'];clear hw' w';(go_wp2_with fail);rw [rounds_succ];(go_wp2_with fail);refine (R2.out _ _ (by simp)).mono ?_
      rintro e w' ⟨rfl, hw'⟩;rw [hw'];clear hw' w';(go_wp2_with fail);refine (qcl _ (a2 + 1) _).mono ?_;rintro e w' ⟨rfl, rfl⟩;(go_wp2_with fail);rw [qcdz];refine bodyPost_ret (by simp [results, Tryz.results72, go_sem]; try rfl) rfl ?_
      exact ⟨by rw [HV.out] <;> rfl, ((((qcgm _ w).alloc (qcgl _) _).alloc (by simp) _).alloc (by simp; omega) _)⟩
     ·have HV := qb (by simp only [qfx, qdp, hn0, hd0, hn1, hd1, hn2] : qfx s = .tuple #[semZ, .int .i64 (((a2 + 1) + 1 : Nat) : Int), .int .i64 14])
      have R2 := qb r2;have Z2 := qb z2;clear r2 z2 hn0 hd0 hn1 hd1 hn2;go_enter Tryz.func72, Tryz.ntmps72
      (go_wp2_with fail);go_step3
      (go_wp2_with fail);go_step3
      (go_wp2_with fail);refine wp_loop_rounds 4 ?_;rw [rounds_succ];(go_wp2_with fail);refine (R0.out _ _ rfl).mono ?_;rintro e w' ⟨rfl, hw'⟩;rw [hw'];clear hw' w';(go_wp2_with fail);refine (Z0.out _).mono ?_;rintro e w' ⟨rfl, hw'⟩;rw [hw'];clear hw' w';(go_wp2_with fail);rw [rounds_succ];(go_wp2_with fail);refine (R1.out _ _ (by simp)).mono ?_
      rintro e w' ⟨rfl, hw'⟩;rw [hw'];clear hw' w';(go_wp2_with fail);refine (Z1.out _).mono ?_;rintro e w' ⟨rfl, hw'⟩;rw [hw'];clear hw' w';(go_wp2_with fail);rw [rounds_succ];(go_wp2_with fail);refine (R2.out _ _ (by simp)).mono ?_
      rintro e w' ⟨rfl, hw'⟩;rw [hw'];clear hw' w';(go_wp2_with fail);refine (Z2.out _).mono ?_;rintro e w' ⟨rfl, hw'⟩;rw [hw'];clear hw' w';(go_wp2_with fail);rw [qcdz];refine bodyPost_ret (by simp [results, Tryz.results72, go_sem]; try rfl) rfl ?_
      exact ⟨by rw [HV.out] <;> rfl, ((((qcgm _ w).alloc (qcgl _) _).alloc (by simp) _).alloc (by simp; omega) _)⟩
     ·have R2 := qb r2;have Z2 := qb z2;clear r2 z2;have HV := qb (by simp only [qfx, qdp, hn0, hd0, hn1, hd1, hn2] : qfx s = .tuple #[.agg #[.string (s.extract 0 a1), .string (s.extract (a1 + 1) a2), .string (s.extract (a2 + 1) a3), .slice none 0 0, .slice none 0 0], .int .i64 (a3 : Int), .int .i64 0])
      clear hn0 hd0 hn1 hd1 hn2;have hne := eqE (s.extract (a2 + 1) a3) (by rw [qbpc s _ _ hl2]; omega)
      go_enter Tryz.func72, Tryz.ntmps72
      (go_wp2_with fail);go_step3
      (go_wp2_with fail);go_step3
      (go_wp2_with fail);refine wp_loop_rounds 4 ?_;rw [rounds_succ];(go_wp2_with fail);refine (R0.out _ _ rfl).mono ?_;rintro e w' ⟨rfl, hw'⟩;rw [hw'];clear hw' w';(go_wp2_with fail);refine (Z0.out _).mono ?_;rintro e w' ⟨rfl, hw'⟩;rw [hw'];clear hw' w';(go_wp2_with fail);rw [rounds_succ];(go_wp2_with fail);refine (R1.out _ _ (by simp)).mono ?_
      rintro e w' ⟨rfl, hw'⟩;rw [hw'];clear hw' w';(go_wp2_with fail);refine (Z1.out _).mono ?_;rintro e w' ⟨rfl, hw'⟩;rw [hw'];clear hw' w';(go_wp2_with fail);rw [rounds_succ];(go_wp2_with fail);refine (R2.out _ _ (by simp)).mono ?_
      rintro e w' ⟨rfl, hw'⟩;rw [hw'];clear hw' w';(go_wp2_with fail);refine (Z2.out _).mono ?_;rintro e w' ⟨rfl, hw'⟩;rw [hw'];clear hw' w';(go_wp2_with fail);rw [rounds_succ];(go_wp2_with fail);rw [qcdz];refine bodyPost_ret (by simp [results, Tryz.results72, go_sem]; try rfl) rfl ?_
      exact ⟨by rw [HV.out] <;> rfl, ((((qcgm _ w).alloc (qcgl _) _).alloc (by simp) _).alloc (by simp; omega) _)⟩
end Go.Proofs.YtpdlgiioahjhiaaGreat
