/- Walks: the document's number of a part. -/
import Derived.Deep.QuietTactic
import Derived.BigQuiet
import Derived.Test.YtpdlgiioahjhiaaGreatPRb
import Derived.Test.YtpdlgiioahjhiaaGreatPEk
import Derived.Test.YtpdlgiioahjhiaaGreatPRd
namespace Go.Proofs.YtpdlgiioahjhiaaGreat
open Go.RowKit Go.Shelf
open Go renaming World → QW
set_option linter.unusedVariables false
set_option maxHeartbeats 1000000
set_option maxRecDepth 100000
def NrAt (W : QW) (B : Nat) (s : QY) (a : Nat) (e p : Int) : Prop := W.heap[B]? = some (.cells #[.string s, .int .i64 (a : Int), .int .i64 e, .int .i64 p] 86 (0, 0))
theorem NrAt.seen {W : QW} {B : Nat} {s : QY} {a : Nat} {e p : Int} (h : NrAt W B s a e p) :
  W.cell? ⟨B, 0, none⟩ = some (.string s) ∧ W.cell? ⟨B, 1, none⟩ = some (.int .i64 (a : Int)) ∧ W.cell? ⟨B, 2, none⟩ = some (.int .i64 e) ∧ W.cell? ⟨B, 3, none⟩ = some (.int .i64 p) ∧ W.frozen? ⟨B, 1, none⟩ = false ∧ W.frozen? ⟨B, 2, none⟩ = false ∧ W.frozen? ⟨B, 3, none⟩ = false :=
 ⟨qd 0 h rfl, qd 1 h rfl, qd 2 h rfl, qd 3 h rfl, qf 1 h, qf 2 h, qf 3 h⟩
theorem NrAt.lt {W : QW} {B : Nat} {s : QY} {a : Nat} {e p : Int} (h : NrAt W B s a e p) : B < W.heap.size := (Array.getElem?_eq_some_iff.1 h).1
theorem NrAt.drewN {W : QW} {B : Nat} {s : QY} {a : Nat} {e p : Int} (h : NrAt W B s a e p) (n : Nat) : NrAt (W.drewN n) B s a e p := by unfold NrAt; rw [qjs]; exact h
theorem NrAt.below {W W' : QW} {B : Nat} {s : QY} {a : Nat} {e p : Int} (h : NrAt W B s a e p) (hb : Below W.heap.size W W') : NrAt W' B s a e p := (hb.block B h.lt).trans h
theorem NrAt.err {W : QW} {B : Nat} {s : QY} {a : Nat} {e p : Int} (h : NrAt W B s a e p) (x : Int) : NrAt (W.setCell ⟨B, 2, none⟩ (.int .i64 x)) B s a x p := qv 2 (.int .i64 x) h
theorem NrAt.place {W : QW} {B : Nat} {s : QY} {a : Nat} {e p : Int} (h : NrAt W B s a e p) (x : Nat) : NrAt (W.setCell ⟨B, 1, none⟩ (.int .i64 (x : Int))) B s x e p := qv 1 (.int .i64 (x : Int)) h
theorem NrAt.step {W : QW} {B : Nat} {s : QY} {a : Nat} {e p : Int} (h : NrAt W B s a e p) : NrAt (W.setCell ⟨B, 1, none⟩ (.int .i64 ((a : Int) + 1))) B s (a + 1) e p := h.place (a + 1)
theorem NrAt.part {W : QW} {B : Nat} {s : QY} {a : Nat} {e p : Int} (h : NrAt W B s a e p) (x : Int) : NrAt (W.setCell ⟨B, 3, none⟩ (.int .i64 x)) B s a e x := qv 3 (.int .i64 x) h
def qrw (W : QW) (B : Nat) : Nat := (intOf ((W.cell? ⟨B, 1, none⟩).getD (.int .i64 0))).toNat
theorem NrAt.rplace {W : QW} {B : Nat} {s : QY} {a : Nat} {e p : Int} (h : NrAt W B s a e p) : qrw W B = a := by
 unfold qrw;rw [h.seen.2.1];simp [intOf]
theorem qcr (B : Nat) (s : QY) (a : Nat) (e p x : Int) (w : QW) (h : NrAt w B s a e p) :
  Calls Tryz.prog 95 #[.pointer (some ⟨B, 0, none⟩), .int .i64 x] w fun r w' => r = .returned (.tuple #[]) ∧ NrAt w' B s a (rerr e x) p ∧ Turn B w w' := by
 obtain ⟨c0, c1, c2, c3, f1, f2, f3⟩ := h.seen;have H := qb h;clear h
 by_cases he : e = 0
 ·subst he;go_enter Tryz.func95, Tryz.ntmps95
  (go_wp2_with fail);go_end0
  exact ⟨rfl, by rw [qbj]; exact H.out.err x, Turn.set _ _ _ _⟩
 ·have hb : (e == 0) = false := by simpa using he
  have HN := qb he;clear he;go_enter Tryz.func95, Tryz.ntmps95
  (go_wp2_with fail);go_end0
  exact ⟨rfl, by rw [qwj x HN.out]; exact H.out, Turn.refl _ _⟩
theorem qgb (B : Nat) (s : QY) (a : Nat) (e p : Int) (w : QW) (h : NrAt w B s a e p) (hs : a ≤ s.size) :
  Calls Tryz.prog 60 #[.pointer (some ⟨B, 0, none⟩)] w fun r w' => r = .returned (.tuple #[]) ∧ NrAt w' B s a (rerr e (misL s.size a)) p ∧ Turn B w w' := by
 obtain ⟨c0, c1, c2, c3, f1, f2, f3⟩ := h.seen;have H := qb h;clear h
 by_cases he : e = 0
 ·subst he
  by_cases ha : a < s.size
  ·have hd : decide ((s.size : Int) ≤ (a : Int)) = false := decide_eq_false (by omega)
   have hd2 : decide (s.size ≤ a) = false := decide_eq_false (by omega)
   have HA := qb ha;clear ha;go_enter Tryz.func60, Tryz.ntmps60
   (go_wp2_with fail);go_quiet (fail)
   (go_wp2_with fail);refine (qcr B s a 0 p 10 _ (H.out.drewN _)).mono ?_;rintro r w1 ⟨rfl, h1, t1⟩;(go_wp2_with fail);go_end0
   exact ⟨rfl, by unfold misL; rw [if_neg (by have := HA.out; omega)]; exact h1, (Turn.drewN _ _ _).trans t1⟩
  ·have hd : decide ((s.size : Int) ≤ (a : Int)) = true := decide_eq_true (by omega)
   have hd2 : decide (s.size ≤ a) = true := decide_eq_true (by omega)
   have HA : Hid (a = s.size) := Nat.le_antisymm hs (Nat.not_lt.1 ha);clear ha;go_enter Tryz.func60, Tryz.ntmps60
   (go_wp2_with fail);go_quiet (fail)
   have H2 := qb (H.out.drewN nq);have hT := qb (Turn.drewN B w nq);clear c0 c1 c2 c3 f1 f2 f3;generalize w.drewN nq = W2 at *;obtain ⟨c0, c1, c2, c3, f1, f2, f3⟩ := H2.out.seen;have H3 := qb (H2.out.err 11);(go_wp2_with fail);refine (qcr B s a 11 p 10 _ H3.out).mono ?_;rintro r w1 ⟨rfl, h1, t1⟩;(go_wp2_with fail);go_end0
   exact ⟨rfl, by unfold misL; rw [if_pos (by have := HA.out; omega)]; exact h1, hT.out.trans ((Turn.set _ _ _ _).trans t1)⟩
 ·have hb : (e == 0) = false := by simpa using he
  have HN := qb he;clear he;go_enter Tryz.func60, Tryz.ntmps60
  (go_wp2_with fail);go_quiet (fail)
  (go_wp2_with fail);refine (qcr B s a e p 10 _ (H.out.drewN _)).mono ?_;rintro r w1 ⟨rfl, h1, t1⟩;(go_wp2_with fail);go_end0
  exact ⟨rfl, by rw [qwj _ HN.out] at h1 ⊢; exact h1, (Turn.drewN _ _ _).trans t1⟩
def stA (a : Nat) (p : Int) : Nat := if 48 ≤ (a : Int) - p then a else a + 1
def stE (a : Nat) (e p : Int) : Int := if 48 ≤ (a : Int) - p then rerr e 12 else e
theorem qfp {a : Nat} {p : Int} (e : Int) (h : (a : Int) - p < 48) : stA a p = a + 1 ∧ stE a e p = e := ⟨if_neg (by omega), if_neg (by omega)⟩
theorem qfs {a : Nat} {p : Int} (e : Int) (h : 48 ≤ (a : Int) - p) : stA a p = a ∧ stE a e p = rerr e 12 := ⟨if_pos h, if_pos h⟩
theorem qbc (B : Nat) (s : QY) (a : Nat) (e : Int) (p : Nat) (w : QW) (h : NrAt w B s a e p) (ha : a ≤ 1000) (hp : p ≤ 1000) :
  Calls Tryz.prog 126 #[.pointer (some ⟨B, 0, none⟩)] w fun r w' => r = .returned (.tuple #[]) ∧ NrAt w' B s (stA a p) (stE a e p) p ∧ Turn B w w' := by
 obtain ⟨c0, c1, c2, c3, f1, f2, f3⟩ := h.seen;have H := qb h;clear h
 by_cases hg : (a : Int) - (p : Int) < 48
 ·rw [(qfp e hg).1, (qfp e hg).2];have hd : decide (48 ≤ (a : Int) - (p : Int)) = false := decide_eq_false (by omega)
  have hd3 : ¬ (48 ≤ (a : Int) - (p : Int)) := by omega
  clear hg;go_enter Tryz.func126, Tryz.ntmps126
  (go_wp2_with fail);go_quiet (fail)
  have H2 := qb (H.out.drewN nq);have hT := qb (Turn.drewN B w nq);clear c0 c1 c2 c3 f1 f2 f3;generalize w.drewN nq = W2 at *;obtain ⟨c0, c1, c2, c3, f1, f2, f3⟩ := H2.out.seen;(go_wp2_with fail);go_end0
  exact ⟨rfl, H2.out.step, hT.out.trans (Turn.set _ _ _ _)⟩
 ·rw [(qfs e (by omega)).1, (qfs e (by omega)).2]
  have hd : decide (48 ≤ (a : Int) - (p : Int)) = true := decide_eq_true (by omega)
  have hd3 : 48 ≤ (a : Int) - (p : Int) := by omega
  clear hg;go_enter Tryz.func126, Tryz.ntmps126
  (go_wp2_with fail);go_quiet (fail)
  (go_wp2_with fail);refine (qcr B s a e p 12 _ (H.out.drewN _)).mono ?_;rintro r w1 ⟨rfl, h1, t1⟩;go_wp2_with fail
  (first | go_end0 | exact bodyPost_ret (results_none rfl _ _ _) rfl ⟨rfl, h1, (Turn.drewN _ _ _).trans t1⟩)
  all_goals exact ⟨rfl, h1, (Turn.drewN _ _ _).trans t1⟩
theorem qcp (B : Nat) (s : QY) (a : Nat) (e p : Int) (c : UInt8) (w : QW) (h : NrAt w B s a e p) :
  Calls Tryz.prog 59 #[.pointer (some ⟨B, 0, none⟩), .int .u8 (c.toNat : Int)] w fun r w' => r = .returned (.bool (decide (e = 0) && atB s.data.toList a c)) ∧ ∃ n, w' = w.drewN n := by
 obtain ⟨c0, c1, c2, c3, f1, f2, f3⟩ := h.seen;clear h
 by_cases he : e = 0
 ·subst he
  by_cases ha : a < s.size
  ·rw [qbmz s a c ha];have hl : decide ((a : Int) < (s.size : Int)) = true := decide_eq_true (by omega)
   have hl2 : decide (a < s.size) = true := decide_eq_true ha;have hb : ((s[a].toNat : Int) == (c.toNat : Int)) = decide ((s[a].toNat : Int) = (c.toNat : Int)) := by by_cases h : (s[a].toNat : Int) = (c.toNat : Int) <;> simp [h]
   generalize decide ((s[a].toNat : Int) = (c.toNat : Int)) = D at *;go_enter Tryz.func59, Tryz.ntmps59
   (go_wp2_with fail);go_quiet (fail)
   (go_wp2_with fail);go_ret
   exact ⟨by simp, _, rfl⟩
  ·rw [qfc s a c ha];have hl : decide ((a : Int) < (s.size : Int)) = false := decide_eq_false (by omega)
   have hl2 : decide (a < s.size) = false := decide_eq_false ha;go_enter Tryz.func59, Tryz.ntmps59
   (go_wp2_with fail);go_quiet (fail)
   (go_wp2_with fail);go_ret
   exact ⟨rfl, _, rfl⟩
 ·rw [show (decide (e = 0) && atB s.data.toList a c) = false by simp [he]]
  have hb : (e == 0) = false := by simpa using he
  clear he;go_enter Tryz.func59, Tryz.ntmps59
  (go_wp2_with fail);go_quiet (fail)
  (go_wp2_with fail);go_ret
  exact ⟨rfl, _, rfl⟩
theorem qbjt (B : Nat) (s : QY) (a : Nat) (e p : Int) (w : QW) (h : NrAt w B s a e p) :
  Calls Tryz.prog 94 #[.pointer (some ⟨B, 0, none⟩)] w fun r w' => r = .returned (.bool (decide (s.size ≤ a) || atB s.data.toList a 124)) ∧ ∃ n, w' = w.drewN n := by
 obtain ⟨c0, c1, c2, c3, f1, f2, f3⟩ := h.seen;clear h
 by_cases ha : a < s.size
 ·rw [qbmz s a 124 ha];have hl : decide ((s.size : Int) ≤ (a : Int)) = false := decide_eq_false (by omega)
  have hl2 : decide (s.size ≤ a) = false := decide_eq_false (by omega)
  rw [hl2];have hb : ((s[a].toNat : Int) == 124) = decide ((s[a].toNat : Int) = ((124 : UInt8).toNat : Int)) := by
   have e9 : ((124 : UInt8).toNat : Int) = 124 := rfl;rw [e9]
   by_cases h : (s[a].toNat : Int) = 124 <;> simp [h]
  generalize decide ((s[a].toNat : Int) = ((124 : UInt8).toNat : Int)) = D at *;go_enter Tryz.func94, Tryz.ntmps94
  (go_wp2_with fail);go_quiet (fail)
  (go_wp2_with fail);go_ret
  exact ⟨by simp, _, rfl⟩
 ·have hl : decide ((s.size : Int) ≤ (a : Int)) = true := decide_eq_true (by omega)
  have hl2 : decide (s.size ≤ a) = true := decide_eq_true (by omega)
  rw [hl2, Bool.true_or];go_enter Tryz.func94, Tryz.ntmps94
  (go_wp2_with fail);go_quiet (fail)
  (go_wp2_with fail);go_ret
  exact ⟨rfl, _, rfl⟩
end Go.Proofs.YtpdlgiioahjhiaaGreat

namespace Go.Proofs.YtpdlgiioahjhiaaGreat
open Go.RowKit Go.Shelf
set_option linter.unusedVariables false
set_option maxHeartbeats 1000000
set_option maxRecDepth 100000
theorem qhx (c : UInt8) (w : World) : Calls Tryz.prog 127 #[.int .u8 (c.toNat : Int)] w fun r w' => r = .returned (.bool (isC (c.toNat : Int) 1)) ∧ w' = w := by
 unfold isC;simp only [if_true]
 by_cases h1 : 48 ≤ (c.toNat : Int) <;> by_cases h2 : (c.toNat : Int) ≤ 57
 all_goals
  go_enter Tryz.func127, Tryz.ntmps127
  (go_wp2_with fail);go_ret
  simp [h1, h2]
theorem qbbq (c : UInt8) (w : World) : Calls Tryz.prog 125 #[.int .u8 (c.toNat : Int)] w fun r w' => r = .returned (.bool (isC (c.toNat : Int) 6)) ∧ w' = w := by
 have hc : isC (c.toNat : Int) 6 = (decide ((c.toNat : Int) = 32) || decide ((c.toNat : Int) = 9)) := rfl;rw [hc];clear hc;generalize (c.toNat : Int) = n at *;have hb1 : (n == 32) = decide (n = 32) := by by_cases h : n = 32 <;> simp [h]
 have hb2 : (n == 9) = decide (n = 9) := by by_cases h : n = 9 <;> simp [h]
 generalize decide (n = 32) = d1 at *;generalize decide (n = 9) = d2 at *;cases d1 <;> cases d2
 all_goals
  go_enter Tryz.func125, Tryz.ntmps125
  (go_wp2_with fail);go_ret
  simp
def opB (c : UInt8) : Bool := c == 120 || c == 88 || c == 42
theorem qzr (c d : UInt8) : (c == d) = ((c.toNat : Int) == (d.toNat : Int)) := by
 rw [Bool.eq_iff_iff];simp only [beq_iff_eq];constructor
 ·intro h; rw [h]
 ·intro h; exact UInt8.toNat_inj.1 (by omega)
theorem qhg (c : UInt8) (w : World) : Calls Tryz.prog 128 #[.int .u8 (c.toNat : Int)] w fun r w' => r = .returned (.bool (opB c)) ∧ w' = w := by
 have hc : opB c = (((c.toNat : Int) == 120) || ((c.toNat : Int) == 88) || ((c.toNat : Int) == 42)) := by
  unfold opB;rw [qzr, qzr, qzr]
  rfl
 rw [hc];clear hc;generalize (c.toNat : Int) = n at *;cases h1 : (n == 120) <;> cases h2 : (n == 88) <;> cases h3 : (n == 42)
 all_goals
  go_enter Tryz.func128, Tryz.ntmps128
  (go_wp2_with fail);go_ret
  simp
theorem qbvh (c : UInt8) (w : World) : Calls Tryz.prog 152 #[.int .u8 (c.toNat : Int)] w fun r w' => r = .returned (.bool (isId c)) ∧ w' = w := by
  have hd := qhx c w
  have e0 : (c == 45) = decide ((c.toNat : Int) = 45) := by
    rw [Bool.eq_iff_iff];simp only [beq_iff_eq, decide_eq_true_eq];constructor
    · rintro rfl; rfl
    · intro h; exact UInt8.toNat_inj.1 (by have : c.toNat = 45 := by omega
                                           rw [this]; rfl)
  have hi : isId c = (decide ((c.toNat : Int) = 45) || ((decide (97 ≤ (c.toNat : Int)) && decide ((c.toNat : Int) ≤ 122)) || (decide (65 ≤ (c.toNat : Int)) && decide ((c.toNat : Int) ≤ 90)) || (decide (48 ≤ (c.toNat : Int)) && decide ((c.toNat : Int) ≤ 57)))) := by
    unfold isId; rw [e0]; rfl
  have hc : isC (c.toNat : Int) 1 = (decide (48 ≤ (c.toNat : Int)) && decide ((c.toNat : Int) ≤ 57)) := rfl;rw [hi];rw [hc] at hd;have HD := qb hd;clear hd hi hc e0;generalize (c.toNat : Int) = n at *
  by_cases h1 : 48 ≤ n <;> by_cases h2 : n ≤ 57 <;> by_cases h3 : 97 ≤ n <;> by_cases h4 : n ≤ 122 <;> by_cases h5 : 65 ≤ n <;> by_cases h6 : n ≤ 90 <;> by_cases h7 : n = 45
  all_goals first
    | (exfalso; omega)
    | (
       have hb : (n == 45) = decide (n = 45) := by by_cases h : n = 45 <;> simp [h]
       simp only [h1, h2, h3, h4, h5, h6, h7, decide_true, decide_false] at HD hb ⊢;go_enter Tryz.func152, Tryz.ntmps152
       (go_wp2_with fail);refine HD.out.mono ?_;rintro r w' ⟨rfl, rfl⟩;(go_wp2_with fail);go_ret
       simp <;> omega)
theorem qxj (s : QY) (w : World) (hs : s.size ≤ maxLen) :
  Calls Tryz.prog 153 #[.string s] w fun e w' => e = .returned (.bool (decide (qz 1 s.data.toList = s.size))) ∧ w' = w := by
 unfold maxLen at hs;obtain ⟨D, hD⟩ : ∃ D, D = decide (qz 1 s.data.toList = s.size) := ⟨_, rfl⟩;rw [← hD];have HD : Hid (D = decide (qz 1 s.data.toList = s.size)) := hD;clear hD;go_enter Tryz.func153, Tryz.ntmps153
 (go_wp2_with fail);go_loop [3] (fun i => ∃ k : Nat, k ≤ s.size ∧ i = .int .i64 k ∧ Hid (qz 1 s.data.toList = k + qz 1 (s.data.toList.drop k))) (fun i => s.size - (intOf i).toNat)
 case atStart => exact ⟨0, by omega, rfl, by show _ = _; simp⟩
 case round =>
  obtain ⟨k, hk, rfl, HR⟩ := hrel
  by_cases hlt : k < s.size
  ·cases hc : isC (s[k].toNat : Int) 1
   ·have hC := qhx s[k] w;rw [hc] at hC;have HC := qb hC;have HM := qb (qhl 1 s k hlt hc);clear hC hc;(go_wp2_with fail);refine HC.out.mono ?_;rintro e w' ⟨rfl, rfl⟩;(go_wp2_with fail);go_ret
    refine ⟨qdj ?_, rfl⟩;rw [HD.out, HR.out, HM.out];simp;omega
   ·have hC := qhx s[k] w;rw [hc] at hC;have HC := qb hC;have HM := qb (qjm 1 s k hlt hc);clear hC hc;(go_wp2_with fail);refine HC.out.mono ?_;rintro e w' ⟨rfl, rfl⟩;(go_wp2_with fail);go_round
    case rel => exact ⟨k + 1, by omega, by go_num, by show _ = _; rw [HR.out, HM.out]; omega⟩
    case measure => simp [intOf]; omega
  ·obtain rfl : k = s.size := by omega
   (go_wp2_with fail);go_ret
   refine ⟨qdj ?_, rfl⟩;rw [HD.out, HR.out, qkj 1 s s.size (Nat.le_refl _)];simp
def bkA (l : QB) (a : Nat) (e : Int) : Nat := if e = 0 then blk l a else a
theorem qjg (B : Nat) (s : QY) (a : Nat) (e p : Int) (w : World) (h : NrAt w B s a e p) (ha : a ≤ s.size) (hs : s.size ≤ 256) :
  Calls Tryz.prog 93 #[.pointer (some ⟨B, 0, none⟩)] w fun r w' => r = .returned (.tuple #[]) ∧ NrAt w' B s (bkA s.data.toList a e) e p ∧ Turn B w w' := by
 obtain ⟨c0, c1, c2, c3, f1, f2, f3⟩ := h.seen;have H := qb h;clear h
 by_cases he : e = 0
 ·subst he;have HB : Hid (bkA s.data.toList a 0 = a + qz 6 (s.data.toList.drop a)) := if_pos rfl;generalize bkA s.data.toList a 0 = b at *;go_enter Tryz.func93, Tryz.ntmps93
  (go_wp2_with fail);clear c0 c1 c2 c3 f1 f2 f3;go_loopw [30] (fun _ wr => ∃ k : Nat, a ≤ k ∧ k ≤ s.size ∧ Hid (NrAt wr B s k 0 p) ∧ Hid (Turn B w wr) ∧ Hid (qz 6 (s.data.toList.drop a) + a = k + qz 6 (s.data.toList.drop k))) (fun _ wr => s.size - qrw wr B)
  case atStart => exact ⟨a, by omega, by omega, H, Turn.refl _ _, by show _ = _; omega⟩
  case round =>
   obtain ⟨k, hak, hk, HRd, HTu, HR⟩ := hrel;obtain ⟨c0, c1, c2, c3, f1, f2, f3⟩ := HRd.out.seen
   by_cases hl : k < s.size
   ·have hd : decide ((k : Int) < (s.size : Int)) = true := decide_eq_true (by omega)
    have hd2 : decide (k < s.size) = true := decide_eq_true hl;have HC := qb (fun n => qbbq s[k] (wr.drewN n));cases hc : isC (s[k].toNat : Int) 6
    ·rw [hc] at HC;have HE : Hid (b = k) := by
      have h0 := qhl 6 s k hl hc;have := HR.out;have := HB.out;show _ = _;omega
     clear hc;(go_wp2_with fail);go_quiet ((go_at_call 125; exact Calls.quiet_of_same (HC.out _)))
     (go_wp2_with fail);go_end0
     exact ⟨rfl, by rw [HE.out]; exact HRd.out.drewN _, HTu.out.trans (Turn.drewN _ _ _)⟩
    ·rw [hc] at HC;have HN : Hid (qz 6 (s.data.toList.drop a) + a = (k + 1) + qz 6 (s.data.toList.drop (k + 1))) := by
      have h0 := qjm 6 s k hl hc;have := HR.out;show _ = _;omega
     clear hc;(go_wp2_with fail);go_quiet ((go_at_call 125; exact Calls.quiet_of_same (HC.out _)))
     have H2 := qb (HRd.out.drewN nq);have hT := qb (HTu.out.trans (Turn.drewN B wr nq));have hM := qb (HRd.out.rplace);clear c0 c1 c2 c3 f1 f2 f3;generalize wr.drewN nq = W2 at *;obtain ⟨c0, c1, c2, c3, f1, f2, f3⟩ := H2.out.seen;have H3 := qb (H2.out.step);(go_wp2_with fail);go_roundw
     case rel => exact ⟨k + 1, by omega, by omega, H3, hT.out.trans (Turn.set _ _ _ _), HN⟩
     case measure => rw [H3.out.rplace, hM.out]; omega
   ·have hd : decide ((k : Int) < (s.size : Int)) = false := decide_eq_false (by omega)
    have hd2 : decide (k < s.size) = false := decide_eq_false hl;have HE : Hid (b = k) := by
     have h0 := qkj 6 s k (by omega)
     have := HR.out;have := HB.out;show _ = _;omega
    (go_wp2_with fail);go_quiet (fail)
    (go_wp2_with fail);go_end0
    exact ⟨rfl, by rw [HE.out]; exact HRd.out.drewN _, HTu.out.trans (Turn.drewN _ _ _)⟩
 ·have HB : Hid (bkA s.data.toList a e = a) := if_neg he;have hb : (e == 0) = false := by simpa using he
  generalize bkA s.data.toList a e = b at *;clear he;go_enter Tryz.func93, Tryz.ntmps93
  (go_wp2_with fail);go_loopw [30] (fun _ wr => Hid (NrAt wr B s a e p) ∧ Hid (Turn B w wr)) (fun _ wr => 0)
  case atStart => exact ⟨H, Turn.refl _ _⟩
  case round =>
   obtain ⟨HRd, HTu⟩ := hrel;clear c0 c1 c2 c3 f1 f2 f3;obtain ⟨c0, c1, c2, c3, f1, f2, f3⟩ := HRd.out.seen;(go_wp2_with fail);go_quiet (fail)
   (go_wp2_with fail);go_end0
   exact ⟨rfl, by rw [HB.out]; exact HRd.out.drewN _, HTu.out.trans (Turn.drewN _ _ _)⟩
end Go.Proofs.YtpdlgiioahjhiaaGreat

namespace Go.Proofs.YtpdlgiioahjhiaaGreat
open Go.RowKit Go.Shelf
open Calls renaming quiet_of_same → qcgr
set_option linter.unusedVariables false
set_option maxHeartbeats 4000000
set_option maxRecDepth 100000
def numN (l : QB) (p f : Nat) : Nat × Int :=
 if qz 1 (l.drop f) = 0 then (f, 0)
 else if p + 48 ≤ f then (f, 12)
 else if l[f]? = some 48 ∧ 2 ≤ qz 1 (l.drop f) then (f + 1, 14)
 else if p + 48 < f + qz 1 (l.drop f) then (p + 48, 12)
 else (f + qz 1 (l.drop f), 0)
structure NumI (l : QB) (p f k : Nat) : Prop where
 le : f ≤ k
 room : k = f ∨ k ≤ p + 48
 run : qz 1 (l.drop f) + f = k + qz 1 (l.drop k)
 zero : f + 2 ≤ k → ¬ l[f]? = some 48
theorem NumI.stop {l : QB} {p f k : Nat} (h : NumI l p f k) (h0 : qz 1 (l.drop k) = 0) : numN l p f = (k, 0) := by
 have h1 := h.le;have h2 := h.room;have h3 := h.run;have h4 := h.zero;unfold numN
 by_cases hr : qz 1 (l.drop f) = 0
 ·rw [if_pos hr];have : k = f := by omega
  rw [this]
 ·rw [if_neg hr, if_neg (by omega), if_neg (fun x => h4 (by omega) x.1), if_neg (by omega)]
  have : f + qz 1 (l.drop f) = k := by omega
  rw [this]
theorem NumI.long {l : QB} {p f k : Nat} (h : NumI l p f k) (h0 : 0 < qz 1 (l.drop k)) (hk : p + 48 ≤ k) (hz : k = f + 1 → ¬ l[f]? = some 48) : numN l p f = (k, 12) := by
 have h1 := h.le;have h2 := h.room;have h3 := h.run;have h4 := h.zero;unfold numN;rw [if_neg (by omega)]
 by_cases he : k = f
 ·rw [if_pos (by omega), he]
 ·rw [if_neg (by omega), if_neg (fun x => by
   by_cases h5 : k = f + 1
   ·exact hz h5 x.1
   ·exact h4 (by omega) x.1), if_pos (by omega)]
  have : p + 48 = k := by omega
  rw [this]
theorem NumI.bad {l : QB} {p f k : Nat} (h : NumI l p f k) (h0 : 0 < qz 1 (l.drop k)) (hk : k = f + 1) (hz : l[f]? = some 48) : numN l p f = (k, 14) := by
 have h2 := h.room;have h3 := h.run;unfold numN;rw [if_neg (by omega), if_neg (by omega), if_pos ⟨hz, by omega⟩, hk]
theorem NumI.next {l : QB} {p f k : Nat} (h : NumI l p f k) (h0 : qz 1 (l.drop k) = qz 1 (l.drop (k + 1)) + 1) (hk : k < p + 48) (hz : k = f + 1 → ¬ l[f]? = some 48) : NumI l p f (k + 1) := by
 have h1 := h.le;have h3 := h.run;have h4 := h.zero;refine ⟨by omega, by omega, by omega, fun h5 => ?_⟩
 by_cases h6 : k = f + 1
 ·exact hz h6
 ·exact h4 (by omega)
def qbrz (W : World) (B : Nat) : Int := intOf ((W.cell? ⟨B, 2, none⟩).getD (.int .i64 0))
theorem NrAt.rerr {W : World} {B : Nat} {s : QY} {a : Nat} {e p : Int} (h : NrAt W B s a e p) : qbrz W B = e := by
 unfold qbrz;rw [h.seen.2.2.1];simp [intOf]
def one0 (e : Int) : Nat := if e = 0 then 1 else 0
theorem qmc : one0 0 = 1 := rfl
theorem qmq {e : Int} (h : e ≠ 0) : one0 e = 0 := if_neg h
theorem qrn (B : Nat) (s : QY) (a p : Nat) (w : World) (h : NrAt w B s a 0 p) (ha : a ≤ s.size) (hs : s.size ≤ 256) (hp : p ≤ s.size) :
  Calls Tryz.prog 129 #[.pointer (some ⟨B, 0, none⟩)] w fun r w' => (∃ t, r = .returned (.string t) ∧ ((numN s.data.toList p a).2 = 0 → t = qg (seg s.data.toList a (numN s.data.toList p a).1))) ∧ NrAt w' B s (numN s.data.toList p a).1 (numN s.data.toList p a).2 p ∧ Turn B w w' := by
 obtain ⟨c0, c1, c2, c3, f1, f2, f3⟩ := h.seen;have H := qb h;clear h;obtain ⟨R, hR⟩ : ∃ R, numN s.data.toList p a = R := ⟨_, rfl⟩;rw [hR];have HR := qb hR;clear hR;go_enter Tryz.func129, Tryz.ntmps129
 (go_wp2_with fail);clear c0 c1 c2 c3 f1 f2 f3;go_loopw [36] (fun _ wr => ∃ (k : Nat) (e : Int), a ≤ k ∧ k ≤ s.size ∧ Hid (NrAt wr B s k e p) ∧ Hid (Turn B w wr) ∧ Hid (e = 0 ∧ NumI s.data.toList p a k ∨ e = 12 ∧ numN s.data.toList p a = (k, 12))) (fun _ wr => (s.size - qrw wr B) * 2 + one0 (qbrz wr B))
 case atStart => exact ⟨a, 0, by omega, ha, H, Turn.refl _ _, .inl ⟨rfl, by omega, .inl rfl, by omega, fun h => by omega⟩⟩
 case round =>
  obtain ⟨k, e, hak, hk, HRd, HTu, HI⟩ := hrel;obtain ⟨c0, c1, c2, c3, f1, f2, f3⟩ := HRd.out.seen;rcases HI.out with ⟨rfl, hI⟩ | ⟨rfl, h12⟩
  ·have HN := qb hI;clear hI HI
   by_cases hl : k < s.size
   ·have hd : decide ((k : Int) < (s.size : Int)) = true := decide_eq_true (by omega)
    have hd2 : decide (k < s.size) = true := decide_eq_true hl;have HC := qb (fun n => qhx s[k] (wr.drewN n));cases hc : isC (s[k].toNat : Int) 1
    ·rw [hc] at HC;have HE : Hid (R = (k, 0)) := HR.out.symm.trans (HN.out.stop (qhl 1 s k hl hc));clear hc;(go_wp2_with fail);go_quiet ((go_at_call 127; exact qcgr (HC.out _)))
     have H2 := qb (HRd.out.drewN nq);have hT := qb (HTu.out.trans (Turn.drewN B wr nq));clear c0 c1 c2 c3 f1 f2 f3;generalize wr.drewN nq = W2 at *;obtain ⟨c0, c1, c2, c3, f1, f2, f3⟩ := H2.out.seen;(go_wp2_with fail);go_quiet (fail)
     (go_wp2_with fail);go_ret
     rw [HE.out];exact ⟨⟨_, rfl, fun _ => by first | rfl | exact qbx s a k⟩, H2.out.drewN _, hT.out.trans (Turn.drewN _ _ _)⟩
    ·rw [hc] at HC;have h0 := qjm 1 s k hl hc;have HP : Hid (0 < qz 1 (s.data.toList.drop k)) := by show _ < _; omega
     have H0 := qb h0;clear hc h0;have has : a < s.size := by omega
     have hz48 := qcbb s a has
     by_cases hz : k = a + 1 ∧ (s[a].toNat : Int) = 48
     ·obtain ⟨hz1, hz2⟩ := hz;have HE : Hid (R = (k, 14)) := HR.out.symm.trans (HN.out.bad HP.out hz1 (hz48.2 hz2));have hzb : ((s[a].toNat : Int) == 48) = true := by rw [hz2]; rfl
      have hzk : ((k : Int) == (a : Int) + 1) = true := by rw [hz1]; simp
      clear hz48 hz2 hz1;(go_wp2_with fail);go_quiet ((go_at_call 127; exact qcgr (HC.out _)))
      have H2 := qb (HRd.out.drewN nq);have hT := qb (HTu.out.trans (Turn.drewN B wr nq));clear c0 c1 c2 c3 f1 f2 f3;generalize wr.drewN nq = W2 at *;obtain ⟨c0, c1, c2, c3, f1, f2, f3⟩ := H2.out.seen;(go_wp2_with fail);refine (qcr B s k 0 p 14 _ H2.out).mono ?_;rintro r w3 ⟨rfl, h3, t3⟩;(go_wp2_with fail);go_ret
      rw [HE.out];exact ⟨⟨_, rfl, fun h => by cases h⟩, h3, hT.out.trans t3⟩
     ·have HZ : Hid (k = a + 1 → ¬ s.data.toList[a]? = some 48) := fun h1 h2 => hz ⟨h1, hz48.1 h2⟩
      by_cases hk1 : k = a + 1
      ·have hzb : ((s[a].toNat : Int) == 48) = false := by
        have : ¬ (s[a].toNat : Int) = 48 := fun h => hz ⟨hk1, h⟩;simpa using this
       have hzk : ((k : Int) == (a : Int) + 1) = true := by rw [hk1]; simp
       clear hz hz48 hk1;(go_wp2_with fail);go_quiet ((go_at_call 127; exact qcgr (HC.out _)))
       have H2 := qb (HRd.out.drewN nq);have hT := qb (HTu.out.trans (Turn.drewN B wr nq));have hM := qb HRd.out.rplace;have hME := qb HRd.out.rerr;clear c0 c1 c2 c3 f1 f2 f3;generalize wr.drewN nq = W2 at *;obtain ⟨c0, c1, c2, c3, f1, f2, f3⟩ := H2.out.seen;(go_wp2_with fail);refine (qbc B s k 0 p _ H2.out (by omega) (by omega)).mono ?_
       rintro r w3 ⟨rfl, h3, t3⟩;have HT3 := qb (hT.out.trans t3);clear t3
       by_cases hlong : p + 48 ≤ k
       ·have HL := qb (HN.out.long HP.out hlong HZ.out);rw [(qfs 0 (by omega)).1, (qfs 0 (by omega)).2, qbj] at h3
        have H3 := qb h3;clear h3;(go_wp2_with fail);go_roundw
        case rel => exact ⟨k, 12, hak, hk, H3, HT3, .inr ⟨rfl, HL.out⟩⟩
        case measure => rw [H3.out.rplace, H3.out.rerr, hM.out, hME.out, qmq (by decide), qmc]; omega
       ·have HL := qb (HN.out.next H0.out (by omega) HZ.out)
        rw [(qfp 0 (by omega)).1, (qfp 0 (by omega)).2] at h3
        have H3 := qb h3;clear h3;(go_wp2_with fail);go_roundw
        case rel => exact ⟨k + 1, 0, by omega, by omega, H3, HT3, .inl ⟨rfl, HL.out⟩⟩
        case measure => rw [H3.out.rplace, H3.out.rerr, hM.out, hME.out]; omega
      ·have hzk : ((k : Int) == (a : Int) + 1) = false := by simp; omega
       clear hz hz48 hk1;(go_wp2_with fail);go_quiet ((go_at_call 127; exact qcgr (HC.out _)))
       have H2 := qb (HRd.out.drewN nq);have hT := qb (HTu.out.trans (Turn.drewN B wr nq));have hM := qb HRd.out.rplace;have hME := qb HRd.out.rerr;clear c0 c1 c2 c3 f1 f2 f3;generalize wr.drewN nq = W2 at *;obtain ⟨c0, c1, c2, c3, f1, f2, f3⟩ := H2.out.seen;(go_wp2_with fail);refine (qbc B s k 0 p _ H2.out (by omega) (by omega)).mono ?_
       rintro r w3 ⟨rfl, h3, t3⟩;have HT3 := qb (hT.out.trans t3);clear t3
       by_cases hlong : p + 48 ≤ k
       ·have HL := qb (HN.out.long HP.out hlong HZ.out);rw [(qfs 0 (by omega)).1, (qfs 0 (by omega)).2, qbj] at h3
        have H3 := qb h3;clear h3;(go_wp2_with fail);go_roundw
        case rel => exact ⟨k, 12, hak, hk, H3, HT3, .inr ⟨rfl, HL.out⟩⟩
        case measure => rw [H3.out.rplace, H3.out.rerr, hM.out, hME.out, qmq (by decide), qmc]; omega
       ·have HL := qb (HN.out.next H0.out (by omega) HZ.out)
        rw [(qfp 0 (by omega)).1, (qfp 0 (by omega)).2] at h3
        have H3 := qb h3;clear h3;(go_wp2_with fail);go_roundw
        case rel => exact ⟨k + 1, 0, by omega, by omega, H3, HT3, .inl ⟨rfl, HL.out⟩⟩
        case measure => rw [H3.out.rplace, H3.out.rerr, hM.out, hME.out]; omega
   ·have hd : decide ((k : Int) < (s.size : Int)) = false := decide_eq_false (by omega)
    have hd2 : decide (k < s.size) = false := decide_eq_false hl;have HE : Hid (R = (k, 0)) := HR.out.symm.trans (HN.out.stop (qkj 1 s k (by omega)))
    (go_wp2_with fail);go_quiet (fail)
    have H2 := qb (HRd.out.drewN nq);have hT := qb (HTu.out.trans (Turn.drewN B wr nq));clear c0 c1 c2 c3 f1 f2 f3;generalize wr.drewN nq = W2 at *;obtain ⟨c0, c1, c2, c3, f1, f2, f3⟩ := H2.out.seen;(go_wp2_with fail);go_quiet (fail)
    (go_wp2_with fail);go_ret
    rw [HE.out];exact ⟨⟨_, rfl, fun _ => by first | rfl | exact qbx s a k⟩, H2.out.drewN _, hT.out.trans (Turn.drewN _ _ _)⟩
  ·have HE : Hid (R = (k, 12)) := HR.out.symm.trans h12;clear h12 HI;(go_wp2_with fail);go_quiet (fail)
   have H2 := qb (HRd.out.drewN nq);have hT := qb (HTu.out.trans (Turn.drewN B wr nq));clear c0 c1 c2 c3 f1 f2 f3;generalize wr.drewN nq = W2 at *;obtain ⟨c0, c1, c2, c3, f1, f2, f3⟩ := H2.out.seen;(go_wp2_with fail);go_quiet (fail)
   (go_wp2_with fail);go_ret
   rw [HE.out];exact ⟨⟨_, rfl, fun h => by cases h⟩, H2.out.drewN _, hT.out.trans (Turn.drewN _ _ _)⟩
end Go.Proofs.YtpdlgiioahjhiaaGreat
