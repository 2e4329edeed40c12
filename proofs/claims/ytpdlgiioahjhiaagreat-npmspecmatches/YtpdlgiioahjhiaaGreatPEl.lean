/- Walks: an operator and a partial. -/
import Derived.Test.YtpdlgiioahjhiaaGreatPLc
import Derived.Test.YtpdlgiioahjhiaaGreatPEk
namespace Go.Proofs.YtpdlgiioahjhiaaGreat
open Go.RowKit Go.Shelf
set_option linter.unusedVariables false
set_option maxHeartbeats 8000000
set_option maxRecDepth 100000
def opD (l : QB) (a : Nat) : QB × Nat :=
 if (l.drop a).take 2 = [60, 61] then ([60, 61], a + 2)
 else if (l.drop a).take 2 = [62, 61] then ([62, 61], a + 2)
 else if (l.drop a).take 2 = [126, 62] then ([126], a + 2)
 else if atB l a 60 || atB l a 62 || atB l a 61 || atB l a 126 || atB l a 94 then ((l.drop a).take 1, a + 1)
 else ([], a)
theorem opD_one {l : QB} {a : Nat} (h1 : (l.drop a).take 2 ≠ [60, 61]) (h2 : (l.drop a).take 2 ≠ [62, 61]) (h3 : (l.drop a).take 2 ≠ [126, 62]) (h : (atB l a 60 || atB l a 62 || atB l a 61 || atB l a 126 || atB l a 94) = true) : opD l a = ((l.drop a).take 1, a + 1) := by
 unfold opD;rw [if_neg h1, if_neg h2, if_neg h3, if_pos h]
theorem opD_none {l : QB} {a : Nat} (h1 : (l.drop a).take 2 ≠ [60, 61]) (h2 : (l.drop a).take 2 ≠ [62, 61]) (h3 : (l.drop a).take 2 ≠ [126, 62]) (h : (atB l a 60 || atB l a 62 || atB l a 61 || atB l a 126 || atB l a 94) = false) : opD l a = ([], a) := by
 unfold opD;rw [if_neg h1, if_neg h2, if_neg h3, if_neg (by rw [h]; decide)]
theorem qbqz (s : QY) (a k : Nat) : (s.extract a (a + k)).data.toList = (s.data.toList.drop a).take k := by
 have h := qbx s a (a + k);rw [h, qj, qblp]
theorem qnj {s : QY} {a : Nat} {c : UInt8} (h : atB s.data.toList a c = true) : a < s.size := by
 by_cases hl : a < s.size
 ·exact hl
 ·rw [qfc s a c hl] at h;cases h
theorem qcck (B : Nat) (s : QY) (a : Nat) (p : Int) (w : World) (h : NrAt w B s a 0 p) (ha : a ≤ s.size) (hs : s.size ≤ 256) :
  Calls Tryz.prog 96 #[.pointer (some ⟨B, 0, none⟩)] w fun r w' => r = .returned (.string (qg (opD s.data.toList a).1)) ∧ NrAt w' B s (opD s.data.toList a).2 0 p ∧ Turn B w w' := by
 obtain ⟨c0, c1, c2, c3, f1, f2, f3⟩ := h.seen;have H := qb h;clear h;obtain ⟨R, hR⟩ : ∃ R, opD s.data.toList a = R := ⟨_, rfl⟩;rw [hR];have HR := qb hR;clear hR;have IS : Hid (∀ c W, NrAt W B s a 0 p → Calls Tryz.prog 59 #[.pointer (some ⟨B, 0, none⟩), .int .u8 (c.toNat : Int)] W fun r w' => r = .returned (.bool (atB s.data.toList a c)) ∧ ∃ n, w' = W.drewN n) := fun c W q => by
  have := qcp B s a 0 p c W q;simpa using this
 have I1 := qb (fun W q => IS.out 60 W q);have I2 := qb (fun W q => IS.out 62 W q);have I3 := qb (fun W q => IS.out 61 W q);have I4 := qb (fun W q => IS.out 126 W q);have I5 := qb (fun W q => IS.out 94 W q);have L1 := qb (@qnj s a 60);have L2 := qb (@qnj s a 62);have L3 := qb (@qnj s a 61);have L4 := qb (@qnj s a 126);have L5 := qb (@qnj s a 94);have O1 := qb (@opD_one s.data.toList a);have O2 := qb (@opD_none s.data.toList a);clear IS;generalize atB s.data.toList a 60 = b1 at *;generalize atB s.data.toList a 62 = b2 at *;generalize atB s.data.toList a 61 = b3 at *;generalize atB s.data.toList a 126 = b4 at *;generalize atB s.data.toList a 94 = b5 at *;have E1 := qb (qbqz s a 1);have E2 := qb (qbqz s a 2);obtain ⟨X, hX⟩ : ∃ X, (s.data.toList.drop a).take 2 = X := ⟨_, rfl⟩;have HX := qb hX;rw [hX] at E2 O1 O2;clear hX
 by_cases h1 : a + 1 < s.size
 ·have hd : decide ((a : Int) + 1 < (s.size : Int)) = true := decide_eq_true (by omega)
  have hd9 : (a : Int) + 1 < (s.size : Int) := by omega
  go_enter Tryz.func96, Tryz.ntmps96
  go_wp2_with fail
  try dsimp only
  go_quiet (fail)
  have H2 := qb (H.out.drewN nq);have hT := qb (Turn.drewN B w nq);clear c0 c1 c2 c3 f1 f2 f3;generalize w.drewN nq = W2 at *;obtain ⟨c0, c1, c2, c3, f1, f2, f3⟩ := H2.out.seen
  try dsimp only
  go_wp2_with fail
  try dsimp only
  go_quiet (fail)
  have H3 := qb (H2.out.drewN nq);have T3 := qb (hT.out.trans (Turn.drewN B W2 nq));clear c0 c1 c2 c3 f1 f2 f3;generalize W2.drewN nq = W3 at *;obtain ⟨c0, c1, c2, c3, f1, f2, f3⟩ := H3.out.seen;generalize s.extract a (a + 2) = t2 at *;have E9 : t2.toList = X := by rw [toL]; exact E2.out
  try dsimp only
  by_cases x1 : X = [60, 61]
  ·have y1 : (t2.toList == [60, 61]) = true := by rw [E9, x1]; rfl
   have HE : Hid (R = ([60, 61], a + 2)) := HR.out.symm.trans (by unfold opD; rw [if_pos (HX.out.trans x1)])
   have HV : Hid (t2 = qg [60, 61]) := by show _ = _; rw [← x1, ← E2.out, qgx]
   clear x1 E9;(go_wp2_with fail);have H9 := qb (H3.out.place (a + 2));have T9 := qb (T3.out.trans (Turn.set B 1 W3 (.int .i64 ((a + 2 : Nat) : Int))));go_ret
   rw [HE.out];exact ⟨by rw [HV.out]; rfl, H9.out, T9.out⟩
  have y1 : (t2.toList == [60, 61]) = false := by rw [E9]; exact beq_eq_false_iff_ne.2 x1
  by_cases x2 : X = [62, 61]
  ·have y2 : (t2.toList == [62, 61]) = true := by rw [E9, x2]; rfl
   have HE : Hid (R = ([62, 61], a + 2)) := HR.out.symm.trans (by unfold opD; rw [if_neg (by rw [HX.out]; exact x1), if_pos (HX.out.trans x2)])
   have HV : Hid (t2 = qg [62, 61]) := by show _ = _; rw [← x2, ← E2.out, qgx]
   clear x1 x2 E9;(go_wp2_with fail);have H9 := qb (H3.out.place (a + 2));have T9 := qb (T3.out.trans (Turn.set B 1 W3 (.int .i64 ((a + 2 : Nat) : Int))));go_ret
   rw [HE.out];exact ⟨by rw [HV.out]; rfl, H9.out, T9.out⟩
  have y2 : (t2.toList == [62, 61]) = false := by rw [E9]; exact beq_eq_false_iff_ne.2 x2
  by_cases x3 : X = [126, 62]
  ·have y3 : (t2.toList == [126, 62]) = true := by rw [E9, x3]; rfl
   have HE : Hid (R = ([126], a + 2)) := HR.out.symm.trans (by unfold opD; rw [if_neg (by rw [HX.out]; exact x1), if_neg (by rw [HX.out]; exact x2), if_pos (HX.out.trans x3)])
   clear x1 x2 x3 E9;(go_wp2_with fail);have H9 := qb (H3.out.place (a + 2));have T9 := qb (T3.out.trans (Turn.set B 1 W3 (.int .i64 ((a + 2 : Nat) : Int))));go_ret
   rw [HE.out];exact ⟨rfl, H9.out, T9.out⟩
  have y3 : (t2.toList == [126, 62]) = false := by rw [E9]; exact beq_eq_false_iff_ne.2 x3
  have N1 := x1;have N2 := x2;have N3 := x3;clear E9 x1 x2 x3;have O1 : Hid (X ≠ [60, 61] → X ≠ [62, 61] → X ≠ [126, 62] → (b1 || b2 || b3 || b4 || b5) = true → opD s.data.toList a = ((s.data.toList.drop a).take 1, a + 1)) := O1;have O2 : Hid (X ≠ [60, 61] → X ≠ [62, 61] → X ≠ [126, 62] → (b1 || b2 || b3 || b4 || b5) = false → opD s.data.toList a = ([], a)) := O2;go_wp2_with fail
  try dsimp only
  refine (I1.out _ H3.out).mono ?_;rintro r w' ⟨rfl, n1, rfl⟩;have H4 := qb (H3.out.drewN n1);have T4 := qb (T3.out.trans (Turn.drewN B W3 n1));clear c0 c1 c2 c3 f1 f2 f3;generalize World.drewN W3 n1 = W4 at *;obtain ⟨c0, c1, c2, c3, f1, f2, f3⟩ := H4.out.seen
  try dsimp only
  cases b1
  case true =>
   have has : a < s.size := L1.out rfl;have HE : Hid (R = ((s.data.toList.drop a).take 1, a + 1)) := HR.out.symm.trans (O1.out N1 N2 N3 (by simp))
   have hw1 : (a : Int) + 1 - 1 = (a : Int) := by omega
   have hq1 : ((a + 1 : Nat) : Int) = (a : Int) + 1 := by omega
   (go_wp2_with fail);have H9 := qb (H4.out.step);have T9 := qb (T4.out.trans (Turn.set B 1 W4 (.int .i64 ((a : Int) + 1))));clear c0 c1 c2 c3 f1 f2 f3;generalize World.setCell W4 ⟨B, 1, none⟩ (.int .i64 ((a : Int) + 1)) = W9 at *;obtain ⟨c0, c1, c2, c3, f1, f2, f3⟩ := H9.out.seen
   try dsimp only
   go_quiet (fail)
   try dsimp only
   (go_wp2_with fail);go_ret
   rw [HE.out];exact ⟨by rw [← E1.out]; rfl, H9.out.drewN _, T9.out.trans (Turn.drewN _ _ _)⟩
  go_wp2_with fail
  try dsimp only
  refine (I2.out _ H4.out).mono ?_;rintro r w' ⟨rfl, n2, rfl⟩;have H5 := qb (H4.out.drewN n2);have T5 := qb (T4.out.trans (Turn.drewN B W4 n2));clear c0 c1 c2 c3 f1 f2 f3;generalize World.drewN W4 n2 = W5 at *;obtain ⟨c0, c1, c2, c3, f1, f2, f3⟩ := H5.out.seen
  try dsimp only
  cases b2
  case true =>
   have has : a < s.size := L2.out rfl;have HE : Hid (R = ((s.data.toList.drop a).take 1, a + 1)) := HR.out.symm.trans (O1.out N1 N2 N3 (by simp))
   have hw1 : (a : Int) + 1 - 1 = (a : Int) := by omega
   have hq1 : ((a + 1 : Nat) : Int) = (a : Int) + 1 := by omega
   (go_wp2_with fail);have H9 := qb (H5.out.step);have T9 := qb (T5.out.trans (Turn.set B 1 W5 (.int .i64 ((a : Int) + 1))));clear c0 c1 c2 c3 f1 f2 f3;generalize World.setCell W5 ⟨B, 1, none⟩ (.int .i64 ((a : Int) + 1)) = W9 at *;obtain ⟨c0, c1, c2, c3, f1, f2, f3⟩ := H9.out.seen
   try dsimp only
   go_quiet (fail)
   try dsimp only
   (go_wp2_with fail);go_ret
   rw [HE.out];exact ⟨by rw [← E1.out]; rfl, H9.out.drewN _, T9.out.trans (Turn.drewN _ _ _)⟩
  go_wp2_with fail
  try dsimp only
  refine (I3.out _ H5.out).mono ?_;rintro r w' ⟨rfl, n3, rfl⟩;have H6 := qb (H5.out.drewN n3);have T6 := qb (T5.out.trans (Turn.drewN B W5 n3));clear c0 c1 c2 c3 f1 f2 f3;generalize World.drewN W5 n3 = W6 at *;obtain ⟨c0, c1, c2, c3, f1, f2, f3⟩ := H6.out.seen
  try dsimp only
  cases b3
  case true =>
   have has : a < s.size := L3.out rfl;have HE : Hid (R = ((s.data.toList.drop a).take 1, a + 1)) := HR.out.symm.trans (O1.out N1 N2 N3 (by simp))
   have hw1 : (a : Int) + 1 - 1 = (a : Int) := by omega
   have hq1 : ((a + 1 : Nat) : Int) = (a : Int) + 1 := by omega
   (go_wp2_with fail);have H9 := qb (H6.out.step);have T9 := qb (T6.out.trans (Turn.set B 1 W6 (.int .i64 ((a : Int) + 1))));clear c0 c1 c2 c3 f1 f2 f3;generalize World.setCell W6 ⟨B, 1, none⟩ (.int .i64 ((a : Int) + 1)) = W9 at *;obtain ⟨c0, c1, c2, c3, f1, f2, f3⟩ := H9.out.seen
   try dsimp only
   go_quiet (fail)
   try dsimp only
   (go_wp2_with fail);go_ret
   rw [HE.out];exact ⟨by rw [← E1.out]; rfl, H9.out.drewN _, T9.out.trans (Turn.drewN _ _ _)⟩
  go_wp2_with fail
  try dsimp only
  refine (I4.out _ H6.out).mono ?_;rintro r w' ⟨rfl, n4, rfl⟩;have H7 := qb (H6.out.drewN n4);have T7 := qb (T6.out.trans (Turn.drewN B W6 n4));clear c0 c1 c2 c3 f1 f2 f3;generalize World.drewN W6 n4 = W7 at *;obtain ⟨c0, c1, c2, c3, f1, f2, f3⟩ := H7.out.seen
  try dsimp only
  cases b4
  case true =>
   have has : a < s.size := L4.out rfl;have HE : Hid (R = ((s.data.toList.drop a).take 1, a + 1)) := HR.out.symm.trans (O1.out N1 N2 N3 (by simp))
   have hw1 : (a : Int) + 1 - 1 = (a : Int) := by omega
   have hq1 : ((a + 1 : Nat) : Int) = (a : Int) + 1 := by omega
   (go_wp2_with fail);have H9 := qb (H7.out.step);have T9 := qb (T7.out.trans (Turn.set B 1 W7 (.int .i64 ((a : Int) + 1))));clear c0 c1 c2 c3 f1 f2 f3;generalize World.setCell W7 ⟨B, 1, none⟩ (.int .i64 ((a : Int) + 1)) = W9 at *;obtain ⟨c0, c1, c2, c3, f1, f2, f3⟩ := H9.out.seen
   try dsimp only
   go_quiet (fail)
   try dsimp only
   (go_wp2_with fail);go_ret
   rw [HE.out];exact ⟨by rw [← E1.out]; rfl, H9.out.drewN _, T9.out.trans (Turn.drewN _ _ _)⟩
  go_wp2_with fail
  try dsimp only
  refine (I5.out _ H7.out).mono ?_;rintro r w' ⟨rfl, n5, rfl⟩;have H8 := qb (H7.out.drewN n5);have T8 := qb (T7.out.trans (Turn.drewN B W7 n5));clear c0 c1 c2 c3 f1 f2 f3;generalize World.drewN W7 n5 = W8 at *;obtain ⟨c0, c1, c2, c3, f1, f2, f3⟩ := H8.out.seen
  try dsimp only
  cases b5
  case true =>
   have has : a < s.size := L5.out rfl;have HE : Hid (R = ((s.data.toList.drop a).take 1, a + 1)) := HR.out.symm.trans (O1.out N1 N2 N3 (by simp))
   have hw1 : (a : Int) + 1 - 1 = (a : Int) := by omega
   have hq1 : ((a + 1 : Nat) : Int) = (a : Int) + 1 := by omega
   (go_wp2_with fail);have H9 := qb (H8.out.step);have T9 := qb (T8.out.trans (Turn.set B 1 W8 (.int .i64 ((a : Int) + 1))));clear c0 c1 c2 c3 f1 f2 f3;generalize World.setCell W8 ⟨B, 1, none⟩ (.int .i64 ((a : Int) + 1)) = W9 at *;obtain ⟨c0, c1, c2, c3, f1, f2, f3⟩ := H9.out.seen
   try dsimp only
   go_quiet (fail)
   try dsimp only
   (go_wp2_with fail);go_ret
   rw [HE.out];exact ⟨by rw [← E1.out]; rfl, H9.out.drewN _, T9.out.trans (Turn.drewN _ _ _)⟩
  have HE : Hid (R = ([], a)) := HR.out.symm.trans (O2.out N1 N2 N3 (by simp))
  (go_wp2_with fail);go_ret
  rw [HE.out];exact ⟨rfl, H8.out, T8.out⟩
 ·have hd : decide ((a : Int) + 1 < (s.size : Int)) = false := decide_eq_false (by omega)
  have hd9 : ¬ (a : Int) + 1 < (s.size : Int) := by omega
  have hlen : X.length ≤ 1 := by
   rw [← HX.out, List.length_take, List.length_drop, qh];omega
  have N1 : X ≠ [60, 61] := fun h => by rw [h] at hlen; simp at hlen
  have N2 : X ≠ [62, 61] := fun h => by rw [h] at hlen; simp at hlen
  have N3 : X ≠ [126, 62] := fun h => by rw [h] at hlen; simp at hlen
  clear hlen;go_enter Tryz.func96, Tryz.ntmps96
  go_wp2_with fail
  try dsimp only
  go_quiet (fail)
  have H3 := qb (H.out.drewN nq);have T3 := qb (Turn.drewN B w nq);clear c0 c1 c2 c3 f1 f2 f3;generalize w.drewN nq = W3 at *;obtain ⟨c0, c1, c2, c3, f1, f2, f3⟩ := H3.out.seen
  try dsimp only
  go_wp2_with fail
  try dsimp only
  refine (I1.out _ H3.out).mono ?_;rintro r w' ⟨rfl, n1, rfl⟩;have H4 := qb (H3.out.drewN n1);have T4 := qb (T3.out.trans (Turn.drewN B W3 n1));clear c0 c1 c2 c3 f1 f2 f3;generalize World.drewN W3 n1 = W4 at *;obtain ⟨c0, c1, c2, c3, f1, f2, f3⟩ := H4.out.seen
  try dsimp only
  cases b1
  case true =>
   have has : a < s.size := L1.out rfl;have HE : Hid (R = ((s.data.toList.drop a).take 1, a + 1)) := HR.out.symm.trans (O1.out N1 N2 N3 (by simp))
   have hw1 : (a : Int) + 1 - 1 = (a : Int) := by omega
   have hq1 : ((a + 1 : Nat) : Int) = (a : Int) + 1 := by omega
   (go_wp2_with fail);have H9 := qb (H4.out.step);have T9 := qb (T4.out.trans (Turn.set B 1 W4 (.int .i64 ((a : Int) + 1))));clear c0 c1 c2 c3 f1 f2 f3;generalize World.setCell W4 ⟨B, 1, none⟩ (.int .i64 ((a : Int) + 1)) = W9 at *;obtain ⟨c0, c1, c2, c3, f1, f2, f3⟩ := H9.out.seen
   try dsimp only
   go_quiet (fail)
   try dsimp only
   (go_wp2_with fail);go_ret
   rw [HE.out];exact ⟨by rw [← E1.out]; rfl, H9.out.drewN _, T9.out.trans (Turn.drewN _ _ _)⟩
  go_wp2_with fail
  try dsimp only
  refine (I2.out _ H4.out).mono ?_;rintro r w' ⟨rfl, n2, rfl⟩;have H5 := qb (H4.out.drewN n2);have T5 := qb (T4.out.trans (Turn.drewN B W4 n2));clear c0 c1 c2 c3 f1 f2 f3;generalize World.drewN W4 n2 = W5 at *;obtain ⟨c0, c1, c2, c3, f1, f2, f3⟩ := H5.out.seen
  try dsimp only
  cases b2
  case true =>
   have has : a < s.size := L2.out rfl;have HE : Hid (R = ((s.data.toList.drop a).take 1, a + 1)) := HR.out.symm.trans (O1.out N1 N2 N3 (by simp))
   have hw1 : (a : Int) + 1 - 1 = (a : Int) := by omega
   have hq1 : ((a + 1 : Nat) : Int) = (a : Int) + 1 := by omega
   (go_wp2_with fail);have H9 := qb (H5.out.step);have T9 := qb (T5.out.trans (Turn.set B 1 W5 (.int .i64 ((a : Int) + 1))));clear c0 c1 c2 c3 f1 f2 f3;generalize World.setCell W5 ⟨B, 1, none⟩ (.int .i64 ((a : Int) + 1)) = W9 at *;obtain ⟨c0, c1, c2, c3, f1, f2, f3⟩ := H9.out.seen
   try dsimp only
   go_quiet (fail)
   try dsimp only
   (go_wp2_with fail);go_ret
   rw [HE.out];exact ⟨by rw [← E1.out]; rfl, H9.out.drewN _, T9.out.trans (Turn.drewN _ _ _)⟩
  go_wp2_with fail
  try dsimp only
  refine (I3.out _ H5.out).mono ?_;rintro r w' ⟨rfl, n3, rfl⟩;have H6 := qb (H5.out.drewN n3);have T6 := qb (T5.out.trans (Turn.drewN B W5 n3));clear c0 c1 c2 c3 f1 f2 f3;generalize World.drewN W5 n3 = W6 at *;obtain ⟨c0, c1, c2, c3, f1, f2, f3⟩ := H6.out.seen
  try dsimp only
  cases b3
  case true =>
   have has : a < s.size := L3.out rfl;have HE : Hid (R = ((s.data.toList.drop a).take 1, a + 1)) := HR.out.symm.trans (O1.out N1 N2 N3 (by simp))
   have hw1 : (a : Int) + 1 - 1 = (a : Int) := by omega
   have hq1 : ((a + 1 : Nat) : Int) = (a : Int) + 1 := by omega
   (go_wp2_with fail);have H9 := qb (H6.out.step);have T9 := qb (T6.out.trans (Turn.set B 1 W6 (.int .i64 ((a : Int) + 1))));clear c0 c1 c2 c3 f1 f2 f3;generalize World.setCell W6 ⟨B, 1, none⟩ (.int .i64 ((a : Int) + 1)) = W9 at *;obtain ⟨c0, c1, c2, c3, f1, f2, f3⟩ := H9.out.seen
   try dsimp only
   go_quiet (fail)
   try dsimp only
   (go_wp2_with fail);go_ret
   rw [HE.out];exact ⟨by rw [← E1.out]; rfl, H9.out.drewN _, T9.out.trans (Turn.drewN _ _ _)⟩
  go_wp2_with fail
  try dsimp only
  refine (I4.out _ H6.out).mono ?_;rintro r w' ⟨rfl, n4, rfl⟩;have H7 := qb (H6.out.drewN n4);have T7 := qb (T6.out.trans (Turn.drewN B W6 n4));clear c0 c1 c2 c3 f1 f2 f3;generalize World.drewN W6 n4 = W7 at *;obtain ⟨c0, c1, c2, c3, f1, f2, f3⟩ := H7.out.seen
  try dsimp only
  cases b4
  case true =>
   have has : a < s.size := L4.out rfl;have HE : Hid (R = ((s.data.toList.drop a).take 1, a + 1)) := HR.out.symm.trans (O1.out N1 N2 N3 (by simp))
   have hw1 : (a : Int) + 1 - 1 = (a : Int) := by omega
   have hq1 : ((a + 1 : Nat) : Int) = (a : Int) + 1 := by omega
   (go_wp2_with fail);have H9 := qb (H7.out.step);have T9 := qb (T7.out.trans (Turn.set B 1 W7 (.int .i64 ((a : Int) + 1))));clear c0 c1 c2 c3 f1 f2 f3;generalize World.setCell W7 ⟨B, 1, none⟩ (.int .i64 ((a : Int) + 1)) = W9 at *;obtain ⟨c0, c1, c2, c3, f1, f2, f3⟩ := H9.out.seen
   try dsimp only
   go_quiet (fail)
   try dsimp only
   (go_wp2_with fail);go_ret
   rw [HE.out];exact ⟨by rw [← E1.out]; rfl, H9.out.drewN _, T9.out.trans (Turn.drewN _ _ _)⟩
  go_wp2_with fail
  try dsimp only
  refine (I5.out _ H7.out).mono ?_;rintro r w' ⟨rfl, n5, rfl⟩;have H8 := qb (H7.out.drewN n5);have T8 := qb (T7.out.trans (Turn.drewN B W7 n5));clear c0 c1 c2 c3 f1 f2 f3;generalize World.drewN W7 n5 = W8 at *;obtain ⟨c0, c1, c2, c3, f1, f2, f3⟩ := H8.out.seen
  try dsimp only
  cases b5
  case true =>
   have has : a < s.size := L5.out rfl;have HE : Hid (R = ((s.data.toList.drop a).take 1, a + 1)) := HR.out.symm.trans (O1.out N1 N2 N3 (by simp))
   have hw1 : (a : Int) + 1 - 1 = (a : Int) := by omega
   have hq1 : ((a + 1 : Nat) : Int) = (a : Int) + 1 := by omega
   (go_wp2_with fail);have H9 := qb (H8.out.step);have T9 := qb (T8.out.trans (Turn.set B 1 W8 (.int .i64 ((a : Int) + 1))));clear c0 c1 c2 c3 f1 f2 f3;generalize World.setCell W8 ⟨B, 1, none⟩ (.int .i64 ((a : Int) + 1)) = W9 at *;obtain ⟨c0, c1, c2, c3, f1, f2, f3⟩ := H9.out.seen
   try dsimp only
   go_quiet (fail)
   try dsimp only
   (go_wp2_with fail);go_ret
   rw [HE.out];exact ⟨by rw [← E1.out]; rfl, H9.out.drewN _, T9.out.trans (Turn.drewN _ _ _)⟩
  have HE : Hid (R = ([], a)) := HR.out.symm.trans (O2.out N1 N2 N3 (by simp))
  (go_wp2_with fail);go_ret
  rw [HE.out];exact ⟨rfl, H8.out, T8.out⟩
end Go.Proofs.YtpdlgiioahjhiaaGreat

namespace Go.Proofs.YtpdlgiioahjhiaaGreat
open Go.RowKit
open _root_.Array renaming getElem?_eq_some_iff → qcgg
open World renaming alloc_heap_new → qcgj
open Go renaming Value → QV
set_option linter.unusedVariables false
set_option maxHeartbeats 4000000
set_option maxRecDepth 100000
theorem put8 {W : World} {B : Nat} {t : TypeId} {u0 u1 u2 u3 u4 u5 u6 u7 : QV} (v0 v1 v2 v3 v4 v5 v6 v7 : QV) (h : W.heap[B]? = some (.cells #[u0, u1, u2, u3, u4, u5, u6, u7] t (0, 0))) :
  ((((((((W.setCell ⟨B, 0, none⟩ v0).setCell ⟨B, 1, none⟩ v1).setCell ⟨B, 2, none⟩ v2).setCell ⟨B, 3, none⟩ v3).setCell ⟨B, 4, none⟩ v4).setCell ⟨B, 5, none⟩ v5).setCell ⟨B, 6, none⟩ v6).setCell ⟨B, 7, none⟩ v7).heap[B]? = some (.cells #[v0, v1, v2, v3, v4, v5, v6, v7] t (0, 0)) :=
 by
 have h0 : (W.setCell ⟨B, 0, none⟩ v0).heap[B]? = some (.cells #[v0, u1, u2, u3, u4, u5, u6, u7] t (0, 0)) := qv 0 v0 h;have h1 : (((W.setCell ⟨B, 0, none⟩ v0)).setCell ⟨B, 1, none⟩ v1).heap[B]? = some (.cells #[v0, v1, u2, u3, u4, u5, u6, u7] t (0, 0)) := qv 1 v1 h0;have h2 : (((((W.setCell ⟨B, 0, none⟩ v0)).setCell ⟨B, 1, none⟩ v1)).setCell ⟨B, 2, none⟩ v2).heap[B]? = some (.cells #[v0, v1, v2, u3, u4, u5, u6, u7] t (0, 0)) := qv 2 v2 h1;have h3 : (((((((W.setCell ⟨B, 0, none⟩ v0)).setCell ⟨B, 1, none⟩ v1)).setCell ⟨B, 2, none⟩ v2)).setCell ⟨B, 3, none⟩ v3).heap[B]? = some (.cells #[v0, v1, v2, v3, u4, u5, u6, u7] t (0, 0)) := qv 3 v3 h2;have h4 : (((((((((W.setCell ⟨B, 0, none⟩ v0)).setCell ⟨B, 1, none⟩ v1)).setCell ⟨B, 2, none⟩ v2)).setCell ⟨B, 3, none⟩ v3)).setCell ⟨B, 4, none⟩ v4).heap[B]? = some (.cells #[v0, v1, v2, v3, v4, u5, u6, u7] t (0, 0)) := qv 4 v4 h3;have h5 : (((((((((((W.setCell ⟨B, 0, none⟩ v0)).setCell ⟨B, 1, none⟩ v1)).setCell ⟨B, 2, none⟩ v2)).setCell ⟨B, 3, none⟩ v3)).setCell ⟨B, 4, none⟩ v4)).setCell ⟨B, 5, none⟩ v5).heap[B]? = some (.cells #[v0, v1, v2, v3, v4, v5, u6, u7] t (0, 0)) := qv 5 v5 h4;have h6 : (((((((((((((W.setCell ⟨B, 0, none⟩ v0)).setCell ⟨B, 1, none⟩ v1)).setCell ⟨B, 2, none⟩ v2)).setCell ⟨B, 3, none⟩ v3)).setCell ⟨B, 4, none⟩ v4)).setCell ⟨B, 5, none⟩ v5)).setCell ⟨B, 6, none⟩ v6).heap[B]? = some (.cells #[v0, v1, v2, v3, v4, v5, v6, u7] t (0, 0)) := qv 6 v6 h5
 have h7 : (((((((((((((((W.setCell ⟨B, 0, none⟩ v0)).setCell ⟨B, 1, none⟩ v1)).setCell ⟨B, 2, none⟩ v2)).setCell ⟨B, 3, none⟩ v3)).setCell ⟨B, 4, none⟩ v4)).setCell ⟨B, 5, none⟩ v5)).setCell ⟨B, 6, none⟩ v6)).setCell ⟨B, 7, none⟩ v7).heap[B]? = some (.cells #[v0, v1, v2, v3, v4, v5, v6, v7] t (0, 0)) := qv 7 v7 h6;exact h7
theorem below8 {w W : World} {B : Nat} (h : Below w.heap.size w W) (hB : w.heap.size ≤ B) (v0 v1 v2 v3 v4 v5 v6 v7 : QV) : Below w.heap.size w ((((((((W.setCell ⟨B, 0, none⟩ v0).setCell ⟨B, 1, none⟩ v1).setCell ⟨B, 2, none⟩ v2).setCell ⟨B, 3, none⟩ v3).setCell ⟨B, 4, none⟩ v4).setCell ⟨B, 5, none⟩ v5).setCell ⟨B, 6, none⟩ v6).setCell ⟨B, 7, none⟩ v7) :=
 (((((((h.setCell hB _).setCell hB _).setCell hB _).setCell hB _).setCell hB _).setCell hB _).setCell hB _).setCell hB _
theorem txt8 {W : World} {v : QV} {ts : List QB} {n B : Nat} (h : Txt W v ts) (hf : qhm n v) (hB : B < n) (v0 v1 v2 v3 v4 v5 v6 v7 : QV) : Txt ((((((((W.setCell ⟨B, 0, none⟩ v0).setCell ⟨B, 1, none⟩ v1).setCell ⟨B, 2, none⟩ v2).setCell ⟨B, 3, none⟩ v3).setCell ⟨B, 4, none⟩ v4).setCell ⟨B, 5, none⟩ v5).setCell ⟨B, 6, none⟩ v6).setCell ⟨B, 7, none⟩ v7) v ts :=
 qdv (qdv (qdv (qdv (qdv (qdv (qdv (qdv h hf hB _ _) hf hB _ _) hf hB _ _) hf hB _ _) hf hB _ _) hf hB _ _) hf hB _ _) hf hB _ _
structure QBs (w W : World) (B1 B2 : Nat) (sg : QY) (f : Nat) (x y z : QY) (p : QV) (t : Int) : Prop where
 res : W.heap[w.heap.size]? = some (.cells #[.string ⟨#[]⟩, .string ⟨#[]⟩, .string ⟨#[]⟩, .slice none 0 0, .slice none 0 0, .int .i64 0, .nilFunc, .int .i64 0] 58 (0, 0))
 op : W.heap[B1]? = some (.cells #[.string sg, .func (.func f) #[] #[]] 148 (0, 0))
 par : W.heap[B2]? = some (.cells #[.string x, .string y, .string z, p, .slice none 0 0, .int .i64 t] 54 (0, 0))
 bel : Below w.heap.size w W
theorem QBs.seenR {w W : World} {B1 B2 : Nat} {sg : QY} {f : Nat} {x y z : QY} {p : QV} {t : Int} (h : QBs w W B1 B2 sg f x y z p t) : W.frozen? ⟨w.heap.size, 0, none⟩ = false ∧ W.frozen? ⟨w.heap.size, 1, none⟩ = false ∧ W.frozen? ⟨w.heap.size, 2, none⟩ = false ∧ W.frozen? ⟨w.heap.size, 3, none⟩ = false ∧ W.frozen? ⟨w.heap.size, 4, none⟩ = false ∧ W.frozen? ⟨w.heap.size, 5, none⟩ = false ∧ W.frozen? ⟨w.heap.size, 6, none⟩ = false ∧ W.frozen? ⟨w.heap.size, 7, none⟩ = false ∧ W.cell? ⟨w.heap.size, 0, none⟩ = some (.string ⟨#[]⟩) ∧ W.cell? ⟨w.heap.size, 1, none⟩ = some (.string ⟨#[]⟩) ∧ W.cell? ⟨w.heap.size, 2, none⟩ = some (.string ⟨#[]⟩) ∧ W.cell? ⟨w.heap.size, 3, none⟩ = some (.slice none 0 0) ∧ W.cell? ⟨w.heap.size, 4, none⟩ = some (.slice none 0 0) ∧ W.cell? ⟨w.heap.size, 5, none⟩ = some (.int .i64 0) ∧ W.cell? ⟨w.heap.size, 6, none⟩ = some (.nilFunc) ∧ W.cell? ⟨w.heap.size, 7, none⟩ = some (.int .i64 0) :=
 ⟨qf 0 h.res, qf 1 h.res, qf 2 h.res, qf 3 h.res, qf 4 h.res, qf 5 h.res, qf 6 h.res, qf 7 h.res, qd 0 h.res rfl, qd 1 h.res rfl, qd 2 h.res rfl, qd 3 h.res rfl, qd 4 h.res rfl, qd 5 h.res rfl, qd 6 h.res rfl, qd 7 h.res rfl⟩
theorem QBs.seen {w W : World} {B1 B2 : Nat} {sg : QY} {f : Nat} {x y z : QY} {p : QV} {t : Int} (h : QBs w W B1 B2 sg f x y z p t) :
  W.cell? ⟨B1, 0, none⟩ = some (.string sg) ∧ W.cell? ⟨B1, 1, none⟩ = some (.func (.func f) #[] #[]) ∧ W.cell? ⟨B2, 0, none⟩ = some (.string x) ∧ W.cell? ⟨B2, 1, none⟩ = some (.string y) ∧ W.cell? ⟨B2, 2, none⟩ = some (.string z) ∧ W.cell? ⟨B2, 3, none⟩ = some p ∧ W.cell? ⟨B2, 4, none⟩ = some (.slice none 0 0) ∧ W.cell? ⟨B2, 5, none⟩ = some (.int .i64 t) :=
 ⟨qd 0 h.op rfl, qd 1 h.op rfl, qd 0 h.par rfl, qd 1 h.par rfl, qd 2 h.par rfl, qd 3 h.par rfl, qd 4 h.par rfl, qd 5 h.par rfl⟩
def qbnv (p : PartL) (v : QV) (g : QV) (r : Int) : QV := .agg #[.string (qg p.maj), .string (qg p.min), .string (qg p.pat), v, .slice none 0 0, .int .i64 (p.told : Int), g, .int .i64 r]
def PartQ (w : World) (f : Nat) (x : PartL × Int × Int) (e : Ending) (w' : World) : Prop :=
 Below w.heap.size w w' ∧ ∃ v, e = .returned (.tuple #[qbnv x.1 v (.func (.func f) #[] #[]) x.2.2, .int .i64 x.2.1]) ∧ Txt w' v x.1.pre ∧ qhm w.heap.size v ∧ Cap v ∧ ∃ a n c, v = .slice a n c
theorem fin88 {R : Ending → World → Prop} (tmps : Array QV) (W : World) (B : Nat) (x y z : QY) (p : QV) (t e r : Int) (f : Nat) (hp : ∃ a n c, p = .slice a n c)
  (h4 : tmps.getD 4 undef = .pointer (some ⟨B, 0, none⟩)) (h5 : tmps.getD 5 undef = .int .i64 e)
  (e1 : W.heap[B]? = some (.cells #[.string x, .string y, .string z, p, .slice none 0 0, .int .i64 t, .func (.func f) #[] #[], .int .i64 r] 58 (0, 0)))
  (hR : R (.returned (.tuple #[.agg #[.string x, .string y, .string z, p, .slice none 0 0, .int .i64 t, .func (.func f) #[] #[], .int .i64 r], .int .i64 e])) W) :
  bodyPost Tryz.prog Tryz.f90 R .ret { tmps := tmps, defers := [] } W := by
 obtain ⟨pa, pn, pc, rfl⟩ := hp;have r0 := qd 0 e1 rfl;have r1 := qd 1 e1 rfl;have r2 := qd 2 e1 rfl;have r3 := qd 3 e1 rfl;have r4 := qd 4 e1 rfl;have r5 := qd 5 e1 rfl;have r6 := qd 6 e1 rfl;have r7 := qd 7 e1 rfl;rw [Array.getD_eq_getD_getElem?] at h4 h5;refine ⟨rfl, _, ?_, hR⟩;simp [results, Tryz.results90, go_sem, h4, h5, r0, r1, r2, r3, r4, r5, r6, r7]
 try rfl
theorem has_len {l p : QB} (h : hasP l p = true) : p.length ≤ l.length := by
 unfold hasP at h;have := congrArg List.length (LawfulBEq.eq_of_beq h);rw [List.length_take] at this;omega
theorem op_has (l : QB) : ∀ k, k ≤ 9 → (opGo l k).1.length ≤ l.length
 | 0, _ => Nat.zero_le _
 | k + 1, h => by
  rw [qjz l k h];unfold qhb;split
  ·rename_i hh; exact has_len hh.1
  ·exact op_has l k (by omega)
def opE (l : QB) (a : Nat) : Nat := blk l (a + (opL l a).1.length)
theorem qbzj {l : QB} {a : Nat} (h : a ≤ l.length) : a + (opL l a).1.length ≤ l.length := by
 have := op_has (l.drop a) 9 (by omega)
 rw [List.length_drop] at this;show a + (opGo (l.drop a) 9).1.length ≤ _;omega
theorem qbmg (s : QY) (a : Nat) (w : World) (hs : s.size ≤ 256) (ha : a ≤ s.size) :
  Calls Tryz.prog 90 #[.string s, .int .i64 (a : Int)] w (PartQ w (opL s.data.toList a).2 (rpL s.data.toList (opE s.data.toList a))) := by
 have CO := qb (fun W => qbbs s a W hs ha);have ho := qbzj (l := s.data.toList) (a := a) (by rw [qh]; exact ha)
 rw [qh] at ho;have R6 := qb (Run6 s (a + (opL s.data.toList a).1.length) hs ho);have hE : opE s.data.toList a ≤ s.size := by
  have := qdh (l := s.data.toList) (a := a + (opL s.data.toList a).1.length) (by rw [qh]; exact ho)
  rw [qh] at this;exact this
 have RP := qb (fun W => qkv s (opE s.data.toList a) W hs hE)
 change Hid (∀ (z : Int), _ → ∀ W, Calls Tryz.prog 28 #[.string s, .int .i64 z, .int .i64 6] W fun r w' => r = .returned (.int .i64 (opE s.data.toList a : Int)) ∧ w' = W) at R6
 generalize opE s.data.toList a = E at *;generalize opL s.data.toList a = o at *;obtain ⟨sg, f⟩ := o;dsimp only at CO ho R6 ⊢;have hsz : (qg sg).size = sg.length := qx sg;have hr0 := qb (qcgj w (.cells #[.string ⟨#[]⟩, .string ⟨#[]⟩, .string ⟨#[]⟩, .slice none 0 0, .slice none 0 0, .int .i64 0, .nilFunc, .int .i64 0] 58));have br0 := qb ((Below.refl _ w).alloc (Nat.le_refl _) (.cells #[.string ⟨#[]⟩, .string ⟨#[]⟩, .string ⟨#[]⟩, .slice none 0 0, .slice none 0 0, .int .i64 0, .nilFunc, .int .i64 0] 58));go_enter Tryz.func90, Tryz.ntmps90
 (go_wp2_with fail);generalize w.alloc (.cells #[.string ⟨#[]⟩, .string ⟨#[]⟩, .string ⟨#[]⟩, .slice none 0 0, .slice none 0 0, .int .i64 0, .nilFunc, .int .i64 0] 58) = W0 at *;refine (CO.out _).mono ?_;rintro e w1 ⟨rfl, hb1⟩;have h1 := qb ((hb1.block _ (qcgg.1 hr0.out).1).trans hr0.out);have b1 := qb (br0.out.trans (hb1.mono br0.out.size));clear hb1 hr0 br0 CO;have hq1 := qb ((qbb.cons h1.out (qbb.nil w1)).alloc (.cells #[.string (qg sg), .func (.func f) #[] #[]] 148));have hq2 := qb (qcgj w1 (.cells #[.string (qg sg), .func (.func f) #[] #[]] 148));have hq3 := qb (b1.out.alloc b1.out.size (.cells #[.string (qg sg), .func (.func f) #[] #[]] 148));(go_wp2_with fail);generalize w1.alloc (.cells #[.string (qg sg), .func (.func f) #[] #[]] 148) = V1 at *;refine (R6.out _ (by simp) _).mono ?_
 rintro e w2 ⟨rfl, rfl⟩;(go_wp2_with fail);refine (RP.out _).mono ?_;rintro e w3 ⟨hb3, v, rfl, t1, fr, cp, av, nv, cv, rfl⟩;have hl1 := qb (qcgg.1 hq1.out.head).1;have hl2 := qb (qcgg.1 hq2.out).1;have hz1 := qb ((hb3.block _ hl1.out).trans hq1.out.head);have hz2 := qb ((hb3.block _ hl2.out).trans hq2.out);have b3 := qb (hq3.out.trans (hb3.mono hq3.out.size));have T1 := qb t1;have FR := qb fr;have CP := qb cp;clear t1 fr cp RP R6 hb3;generalize rpL s.data.toList E = X at *;have hl := (qbb.cons hz1.out (qbb.cons hz2.out (qbb.nil w3))).alloc (.cells #[.string (qg X.1.maj), .string (qg X.1.min), .string (qg X.1.pat), .slice av nv cv, .slice none 0 0, .int .i64 (X.1.told : Int)] 54);have Q := qb (QBs.mk (w := w) (W := w3.alloc (.cells #[.string (qg X.1.maj), .string (qg X.1.min), .string (qg X.1.pat), .slice av nv cv, .slice none 0 0, .int .i64 (X.1.told : Int)] 54)) (B1 := w1.heap.size) (B2 := w3.heap.size) (sg := qg sg) (f := f) hl.head hl.tail.head (qcgj w3 _) (b3.out.alloc b3.out.size _));have T2 := qb (T1.out.below ((Below.refl _ w3).alloc (Nat.le_refl _) (.cells #[.string (qg X.1.maj), .string (qg X.1.min), .string (qg X.1.pat), .slice av nv cv, .slice none 0 0, .int .i64 (X.1.told : Int)] 54)));clear hl;obtain ⟨f0, f1, f2, f3, f4, f5, f6, f7, c0, c1, c2, c3, c4, c5, c6, c7⟩ := Q.out.seenR;obtain ⟨g0, g1, g2, g3, g4, g5, g6, g7⟩ := Q.out.seen;unfold qjj
 try dsimp only
 (go_wp2_with fail);exact fin88 _ _ w.heap.size _ _ _ _ _ _ _ _ ⟨_, _, _, rfl⟩ rfl rfl (put8 _ _ _ _ _ _ _ _ Q.out.res) ⟨below8 Q.out.bel (Nat.le_refl _) _ _ _ _ _ _ _ _, _, rfl, txt8 T2.out FR.out hl1.out _ _ _ _ _ _ _ _, qdn FR.out (by have := hl1.out; omega), CP.out, _, _, _, rfl⟩
end Go.Proofs.YtpdlgiioahjhiaaGreat
