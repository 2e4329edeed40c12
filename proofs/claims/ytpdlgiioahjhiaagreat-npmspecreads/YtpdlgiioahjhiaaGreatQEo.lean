/-
  Walks: the document's operator of a part. · Walks: an operator and a partial. · Walks: the partial with which a from-to begins. · Comparators in memory; one of them, and a version's first one. · Walks: a version's first one; the next one behind a number.
-/
import Derived.Test.YtpdlgiioahjhiaaGreatQLc
import Derived.Deep.RegionHeld3
import Derived.Test.YtpdlgiioahjhiaaGreatQWf
namespace Go.Proofs.YtpdlgiioahjhiaaGreat
open Go.RowKit Go.Shelf
set_option linter.unusedVariables false

def opD (l : List UInt8) (a : Nat) : List UInt8 × Nat :=
  if (l.drop a).take 2 = [60, 61] then ([60, 61], a + 2)
  else if (l.drop a).take 2 = [62, 61] then ([62, 61], a + 2)
  else if (l.drop a).take 2 = [126, 62] then ([126], a + 2)
  else if atB l a 60 || atB l a 62 || atB l a 61 || atB l a 126 || atB l a 94 then ((l.drop a).take 1, a + 1)
  else ([], a)
theorem opD_one {l : List UInt8} {a : Nat} (h1 : (l.drop a).take 2 ≠ [60, 61]) (h2 : (l.drop a).take 2 ≠ [62, 61]) (h3 : (l.drop a).take 2 ≠ [126, 62]) (h : (atB l a 60 || atB l a 62 || atB l a 61 || atB l a 126 || atB l a 94) = true) : opD l a = ((l.drop a).take 1, a + 1) := by
  unfold opD
  rw [if_neg h1, if_neg h2, if_neg h3, if_pos h]
theorem opD_none {l : List UInt8} {a : Nat} (h1 : (l.drop a).take 2 ≠ [60, 61]) (h2 : (l.drop a).take 2 ≠ [62, 61]) (h3 : (l.drop a).take 2 ≠ [126, 62]) (h : (atB l a 60 || atB l a 62 || atB l a 61 || atB l a 126 || atB l a 94) = false) : opD l a = ([], a) := by
  unfold opD
  rw [if_neg h1, if_neg h2, if_neg h3, if_neg (by rw [h]; decide)]
theorem ext_take (s : ByteArray) (a k : Nat) : (s.extract a (a + k)).data.toList = (s.data.toList.drop a).take k := by
  have h := extract_seg s a (a + k)
  rw [h, ofL_data, seg_run]
theorem at_lt {s : ByteArray} {a : Nat} {c : UInt8} (h : atB s.data.toList a c = true) : a < s.size := by
  by_cases hl : a < s.size
  · exact hl
  · rw [atB_out s a c hl] at h
    cases h

set_option maxRecDepth 100000 in
set_option maxHeartbeats 8000000 in
theorem noper_any (B : Nat) (s : ByteArray) (a : Nat) (p : Int) (w : World) (h : NrAt w B s a 0 p) (ha : a ≤ s.size) (hs : s.size ≤ 256) :
    Calls Tryz.prog 96 #[.pointer (some ⟨B, 0, none⟩)] w fun r w' => r = .returned (.string (ofL (opD s.data.toList a).1)) ∧ NrAt w' B s (opD s.data.toList a).2 0 p ∧ Turn B w w' := by
  obtain ⟨c0, c1, c2, c3, f1, f2, f3⟩ := h.seen
  have H := hide h
  clear h
  obtain ⟨R, hR⟩ : ∃ R, opD s.data.toList a = R := ⟨_, rfl⟩
  rw [hR]
  have HR := hide hR
  clear hR
  have IS : Hid (∀ c W, NrAt W B s a 0 p → Calls Tryz.prog 59 #[.pointer (some ⟨B, 0, none⟩), .int .u8 (c.toNat : Int)] W fun r w' => r = .returned (.bool (atB s.data.toList a c)) ∧ ∃ n, w' = W.drewN n) := fun c W q => by
    have := nis_any B s a 0 p c W q
    simpa using this
  have I1 := hide (fun W q => IS.out 60 W q)
  have I2 := hide (fun W q => IS.out 62 W q)
  have I3 := hide (fun W q => IS.out 61 W q)
  have I4 := hide (fun W q => IS.out 126 W q)
  have I5 := hide (fun W q => IS.out 94 W q)
  have L1 := hide (@at_lt s a 60)
  have L2 := hide (@at_lt s a 62)
  have L3 := hide (@at_lt s a 61)
  have L4 := hide (@at_lt s a 126)
  have L5 := hide (@at_lt s a 94)
  have O1 := hide (@opD_one s.data.toList a)
  have O2 := hide (@opD_none s.data.toList a)
  clear IS
  generalize atB s.data.toList a 60 = b1 at *
  generalize atB s.data.toList a 62 = b2 at *
  generalize atB s.data.toList a 61 = b3 at *
  generalize atB s.data.toList a 126 = b4 at *
  generalize atB s.data.toList a 94 = b5 at *
  have E1 := hide (ext_take s a 1)
  have E2 := hide (ext_take s a 2)
  obtain ⟨X, hX⟩ : ∃ X, (s.data.toList.drop a).take 2 = X := ⟨_, rfl⟩
  have HX := hide hX
  rw [hX] at E2 O1 O2
  clear hX
  by_cases h1 : a + 1 < s.size
  · have hd : decide ((a : Int) + 1 < (s.size : Int)) = true := decide_eq_true (by omega)
    have hd9 : (a : Int) + 1 < (s.size : Int) := by omega
    go_enter Tryz.func96, Tryz.ntmps96
    go_wp2_with fail
    try dsimp only
    go_quiet (fail)
    have H2 := hide (H.out.drewN nq)
    have hT := hide (Turn.drewN B w nq)
    clear c0 c1 c2 c3 f1 f2 f3
    generalize w.drewN nq = W2 at *
    obtain ⟨c0, c1, c2, c3, f1, f2, f3⟩ := H2.out.seen
    try dsimp only
    go_wp2_with fail
    try dsimp only
    go_quiet (fail)
    have H3 := hide (H2.out.drewN nq)
    have T3 := hide (hT.out.trans (Turn.drewN B W2 nq))
    clear c0 c1 c2 c3 f1 f2 f3
    generalize W2.drewN nq = W3 at *
    obtain ⟨c0, c1, c2, c3, f1, f2, f3⟩ := H3.out.seen
    generalize s.extract a (a + 2) = t2 at *
    have E9 : t2.toList = X := by rw [toL]; exact E2.out
    try dsimp only
    by_cases x1 : X = [60, 61]
    · have y1 : (t2.toList == [60, 61]) = true := by rw [E9, x1]; rfl
      have HE : Hid (R = ([60, 61], a + 2)) := HR.out.symm.trans (by unfold opD; rw [if_pos (HX.out.trans x1)])
      have HV : Hid (t2 = ofL [60, 61]) := by show _ = _; rw [← x1, ← E2.out, ofL_self]
      clear x1 E9
      go_wp2_with fail
      have H9 := hide (H3.out.place (a + 2))
      have T9 := hide (T3.out.trans (Turn.set B 1 W3 (.int .i64 ((a + 2 : Nat) : Int))))
      go_ret
      rw [HE.out]
      exact ⟨by rw [HV.out]; rfl, H9.out, T9.out⟩
    have y1 : (t2.toList == [60, 61]) = false := by rw [E9]; exact beq_eq_false_iff_ne.2 x1
    by_cases x2 : X = [62, 61]
    · have y2 : (t2.toList == [62, 61]) = true := by rw [E9, x2]; rfl
      have HE : Hid (R = ([62, 61], a + 2)) := HR.out.symm.trans (by unfold opD; rw [if_neg (by rw [HX.out]; exact x1), if_pos (HX.out.trans x2)])
      have HV : Hid (t2 = ofL [62, 61]) := by show _ = _; rw [← x2, ← E2.out, ofL_self]
      clear x1 x2 E9
      go_wp2_with fail
      have H9 := hide (H3.out.place (a + 2))
      have T9 := hide (T3.out.trans (Turn.set B 1 W3 (.int .i64 ((a + 2 : Nat) : Int))))
      go_ret
      rw [HE.out]
      exact ⟨by rw [HV.out]; rfl, H9.out, T9.out⟩
    have y2 : (t2.toList == [62, 61]) = false := by rw [E9]; exact beq_eq_false_iff_ne.2 x2
    by_cases x3 : X = [126, 62]
    · have y3 : (t2.toList == [126, 62]) = true := by rw [E9, x3]; rfl
      have HE : Hid (R = ([126], a + 2)) := HR.out.symm.trans (by unfold opD; rw [if_neg (by rw [HX.out]; exact x1), if_neg (by rw [HX.out]; exact x2), if_pos (HX.out.trans x3)])
      clear x1 x2 x3 E9
      go_wp2_with fail
      have H9 := hide (H3.out.place (a + 2))
      have T9 := hide (T3.out.trans (Turn.set B 1 W3 (.int .i64 ((a + 2 : Nat) : Int))))
      go_ret
      rw [HE.out]
      exact ⟨rfl, H9.out, T9.out⟩
    have y3 : (t2.toList == [126, 62]) = false := by rw [E9]; exact beq_eq_false_iff_ne.2 x3
    have N1 := x1
    have N2 := x2
    have N3 := x3
    clear E9 x1 x2 x3
    have O1 : Hid (X ≠ [60, 61] → X ≠ [62, 61] → X ≠ [126, 62] → (b1 || b2 || b3 || b4 || b5) = true → opD s.data.toList a = ((s.data.toList.drop a).take 1, a + 1)) := O1
    have O2 : Hid (X ≠ [60, 61] → X ≠ [62, 61] → X ≠ [126, 62] → (b1 || b2 || b3 || b4 || b5) = false → opD s.data.toList a = ([], a)) := O2
    go_wp2_with fail
    try dsimp only
    refine (I1.out _ H3.out).mono ?_
    rintro r w' ⟨rfl, n1, rfl⟩
    have H4 := hide (H3.out.drewN n1)
    have T4 := hide (T3.out.trans (Turn.drewN B W3 n1))
    clear c0 c1 c2 c3 f1 f2 f3
    generalize World.drewN W3 n1 = W4 at *
    obtain ⟨c0, c1, c2, c3, f1, f2, f3⟩ := H4.out.seen
    try dsimp only
    cases b1
    case true =>
      have has : a < s.size := L1.out rfl
      have HE : Hid (R = ((s.data.toList.drop a).take 1, a + 1)) := HR.out.symm.trans (O1.out N1 N2 N3 (by simp))
      have hw1 : (a : Int) + 1 - 1 = (a : Int) := by omega
      have hq1 : ((a + 1 : Nat) : Int) = (a : Int) + 1 := by omega
      go_wp2_with fail
      have H9 := hide (H4.out.step)
      have T9 := hide (T4.out.trans (Turn.set B 1 W4 (.int .i64 ((a : Int) + 1))))
      clear c0 c1 c2 c3 f1 f2 f3
      generalize World.setCell W4 ⟨B, 1, none⟩ (.int .i64 ((a : Int) + 1)) = W9 at *
      obtain ⟨c0, c1, c2, c3, f1, f2, f3⟩ := H9.out.seen
      try dsimp only
      go_quiet (fail)
      try dsimp only
      go_wp2_with fail
      go_ret
      rw [HE.out]
      exact ⟨by rw [← E1.out]; rfl, H9.out.drewN _, T9.out.trans (Turn.drewN _ _ _)⟩
    go_wp2_with fail
    try dsimp only
    refine (I2.out _ H4.out).mono ?_
    rintro r w' ⟨rfl, n2, rfl⟩
    have H5 := hide (H4.out.drewN n2)
    have T5 := hide (T4.out.trans (Turn.drewN B W4 n2))
    clear c0 c1 c2 c3 f1 f2 f3
    generalize World.drewN W4 n2 = W5 at *
    obtain ⟨c0, c1, c2, c3, f1, f2, f3⟩ := H5.out.seen
    try dsimp only
    cases b2
    case true =>
      have has : a < s.size := L2.out rfl
      have HE : Hid (R = ((s.data.toList.drop a).take 1, a + 1)) := HR.out.symm.trans (O1.out N1 N2 N3 (by simp))
      have hw1 : (a : Int) + 1 - 1 = (a : Int) := by omega
      have hq1 : ((a + 1 : Nat) : Int) = (a : Int) + 1 := by omega
      go_wp2_with fail
      have H9 := hide (H5.out.step)
      have T9 := hide (T5.out.trans (Turn.set B 1 W5 (.int .i64 ((a : Int) + 1))))
      clear c0 c1 c2 c3 f1 f2 f3
      generalize World.setCell W5 ⟨B, 1, none⟩ (.int .i64 ((a : Int) + 1)) = W9 at *
      obtain ⟨c0, c1, c2, c3, f1, f2, f3⟩ := H9.out.seen
      try dsimp only
      go_quiet (fail)
      try dsimp only
      go_wp2_with fail
      go_ret
      rw [HE.out]
      exact ⟨by rw [← E1.out]; rfl, H9.out.drewN _, T9.out.trans (Turn.drewN _ _ _)⟩
    go_wp2_with fail
    try dsimp only
    refine (I3.out _ H5.out).mono ?_
    rintro r w' ⟨rfl, n3, rfl⟩
    have H6 := hide (H5.out.drewN n3)
    have T6 := hide (T5.out.trans (Turn.drewN B W5 n3))
    clear c0 c1 c2 c3 f1 f2 f3
    generalize World.drewN W5 n3 = W6 at *
    obtain ⟨c0, c1, c2, c3, f1, f2, f3⟩ := H6.out.seen
    try dsimp only
    cases b3
    case true =>
      have has : a < s.size := L3.out rfl
      have HE : Hid (R = ((s.data.toList.drop a).take 1, a + 1)) := HR.out.symm.trans (O1.out N1 N2 N3 (by simp))
      have hw1 : (a : Int) + 1 - 1 = (a : Int) := by omega
      have hq1 : ((a + 1 : Nat) : Int) = (a : Int) + 1 := by omega
      go_wp2_with fail
      have H9 := hide (H6.out.step)
      have T9 := hide (T6.out.trans (Turn.set B 1 W6 (.int .i64 ((a : Int) + 1))))
      clear c0 c1 c2 c3 f1 f2 f3
      generalize World.setCell W6 ⟨B, 1, none⟩ (.int .i64 ((a : Int) + 1)) = W9 at *
      obtain ⟨c0, c1, c2, c3, f1, f2, f3⟩ := H9.out.seen
      try dsimp only
      go_quiet (fail)
      try dsimp only
      go_wp2_with fail
      go_ret
      rw [HE.out]
      exact ⟨by rw [← E1.out]; rfl, H9.out.drewN _, T9.out.trans (Turn.drewN _ _ _)⟩
    go_wp2_with fail
    try dsimp only
    refine (I4.out _ H6.out).mono ?_
    rintro r w' ⟨rfl, n4, rfl⟩
    have H7 := hide (H6.out.drewN n4)
    have T7 := hide (T6.out.trans (Turn.drewN B W6 n4))
    clear c0 c1 c2 c3 f1 f2 f3
    generalize World.drewN W6 n4 = W7 at *
    obtain ⟨c0, c1, c2, c3, f1, f2, f3⟩ := H7.out.seen
    try dsimp only
    cases b4
    case true =>
      have has : a < s.size := L4.out rfl
      have HE : Hid (R = ((s.data.toList.drop a).take 1, a + 1)) := HR.out.symm.trans (O1.out N1 N2 N3 (by simp))
      have hw1 : (a : Int) + 1 - 1 = (a : Int) := by omega
      have hq1 : ((a + 1 : Nat) : Int) = (a : Int) + 1 := by omega
      go_wp2_with fail
      have H9 := hide (H7.out.step)
      have T9 := hide (T7.out.trans (Turn.set B 1 W7 (.int .i64 ((a : Int) + 1))))
      clear c0 c1 c2 c3 f1 f2 f3
      generalize World.setCell W7 ⟨B, 1, none⟩ (.int .i64 ((a : Int) + 1)) = W9 at *
      obtain ⟨c0, c1, c2, c3, f1, f2, f3⟩ := H9.out.seen
      try dsimp only
      go_quiet (fail)
      try dsimp only
      go_wp2_with fail
      go_ret
      rw [HE.out]
      exact ⟨by rw [← E1.out]; rfl, H9.out.drewN _, T9.out.trans (Turn.drewN _ _ _)⟩
    go_wp2_with fail
    try dsimp only
    refine (I5.out _ H7.out).mono ?_
    rintro r w' ⟨rfl, n5, rfl⟩
    have H8 := hide (H7.out.drewN n5)
    have T8 := hide (T7.out.trans (Turn.drewN B W7 n5))
    clear c0 c1 c2 c3 f1 f2 f3
    generalize World.drewN W7 n5 = W8 at *
    obtain ⟨c0, c1, c2, c3, f1, f2, f3⟩ := H8.out.seen
    try dsimp only
    cases b5
    case true =>
      have has : a < s.size := L5.out rfl
      have HE : Hid (R = ((s.data.toList.drop a).take 1, a + 1)) := HR.out.symm.trans (O1.out N1 N2 N3 (by simp))
      have hw1 : (a : Int) + 1 - 1 = (a : Int) := by omega
      have hq1 : ((a + 1 : Nat) : Int) = (a : Int) + 1 := by omega
      go_wp2_with fail
      have H9 := hide (H8.out.step)
      have T9 := hide (T8.out.trans (Turn.set B 1 W8 (.int .i64 ((a : Int) + 1))))
      clear c0 c1 c2 c3 f1 f2 f3
      generalize World.setCell W8 ⟨B, 1, none⟩ (.int .i64 ((a : Int) + 1)) = W9 at *
      obtain ⟨c0, c1, c2, c3, f1, f2, f3⟩ := H9.out.seen
      try dsimp only
      go_quiet (fail)
      try dsimp only
      go_wp2_with fail
      go_ret
      rw [HE.out]
      exact ⟨by rw [← E1.out]; rfl, H9.out.drewN _, T9.out.trans (Turn.drewN _ _ _)⟩
    have HE : Hid (R = ([], a)) := HR.out.symm.trans (O2.out N1 N2 N3 (by simp))
    go_wp2_with fail
    go_ret
    rw [HE.out]
    exact ⟨rfl, H8.out, T8.out⟩
  · have hd : decide ((a : Int) + 1 < (s.size : Int)) = false := decide_eq_false (by omega)
    have hd9 : ¬ (a : Int) + 1 < (s.size : Int) := by omega
    have hlen : X.length ≤ 1 := by
      rw [← HX.out, List.length_take, List.length_drop, len_data]
      omega
    have N1 : X ≠ [60, 61] := fun h => by rw [h] at hlen; simp at hlen
    have N2 : X ≠ [62, 61] := fun h => by rw [h] at hlen; simp at hlen
    have N3 : X ≠ [126, 62] := fun h => by rw [h] at hlen; simp at hlen
    clear hlen
    go_enter Tryz.func96, Tryz.ntmps96
    go_wp2_with fail
    try dsimp only
    go_quiet (fail)
    have H3 := hide (H.out.drewN nq)
    have T3 := hide (Turn.drewN B w nq)
    clear c0 c1 c2 c3 f1 f2 f3
    generalize w.drewN nq = W3 at *
    obtain ⟨c0, c1, c2, c3, f1, f2, f3⟩ := H3.out.seen
    try dsimp only
    go_wp2_with fail
    try dsimp only
    refine (I1.out _ H3.out).mono ?_
    rintro r w' ⟨rfl, n1, rfl⟩
    have H4 := hide (H3.out.drewN n1)
    have T4 := hide (T3.out.trans (Turn.drewN B W3 n1))
    clear c0 c1 c2 c3 f1 f2 f3
    generalize World.drewN W3 n1 = W4 at *
    obtain ⟨c0, c1, c2, c3, f1, f2, f3⟩ := H4.out.seen
    try dsimp only
    cases b1
    case true =>
      have has : a < s.size := L1.out rfl
      have HE : Hid (R = ((s.data.toList.drop a).take 1, a + 1)) := HR.out.symm.trans (O1.out N1 N2 N3 (by simp))
      have hw1 : (a : Int) + 1 - 1 = (a : Int) := by omega
      have hq1 : ((a + 1 : Nat) : Int) = (a : Int) + 1 := by omega
      go_wp2_with fail
      have H9 := hide (H4.out.step)
      have T9 := hide (T4.out.trans (Turn.set B 1 W4 (.int .i64 ((a : Int) + 1))))
      clear c0 c1 c2 c3 f1 f2 f3
      generalize World.setCell W4 ⟨B, 1, none⟩ (.int .i64 ((a : Int) + 1)) = W9 at *
      obtain ⟨c0, c1, c2, c3, f1, f2, f3⟩ := H9.out.seen
      try dsimp only
      go_quiet (fail)
      try dsimp only
      go_wp2_with fail
      go_ret
      rw [HE.out]
      exact ⟨by rw [← E1.out]; rfl, H9.out.drewN _, T9.out.trans (Turn.drewN _ _ _)⟩
    go_wp2_with fail
    try dsimp only
    refine (I2.out _ H4.out).mono ?_
    rintro r w' ⟨rfl, n2, rfl⟩
    have H5 := hide (H4.out.drewN n2)
    have T5 := hide (T4.out.trans (Turn.drewN B W4 n2))
    clear c0 c1 c2 c3 f1 f2 f3
    generalize World.drewN W4 n2 = W5 at *
    obtain ⟨c0, c1, c2, c3, f1, f2, f3⟩ := H5.out.seen
    try dsimp only
    cases b2
    case true =>
      have has : a < s.size := L2.out rfl
      have HE : Hid (R = ((s.data.toList.drop a).take 1, a + 1)) := HR.out.symm.trans (O1.out N1 N2 N3 (by simp))
      have hw1 : (a : Int) + 1 - 1 = (a : Int) := by omega
      have hq1 : ((a + 1 : Nat) : Int) = (a : Int) + 1 := by omega
      go_wp2_with fail
      have H9 := hide (H5.out.step)
      have T9 := hide (T5.out.trans (Turn.set B 1 W5 (.int .i64 ((a : Int) + 1))))
      clear c0 c1 c2 c3 f1 f2 f3
      generalize World.setCell W5 ⟨B, 1, none⟩ (.int .i64 ((a : Int) + 1)) = W9 at *
      obtain ⟨c0, c1, c2, c3, f1, f2, f3⟩ := H9.out.seen
      try dsimp only
      go_quiet (fail)
      try dsimp only
      go_wp2_with fail
      go_ret
      rw [HE.out]
      exact ⟨by rw [← E1.out]; rfl, H9.out.drewN _, T9.out.trans (Turn.drewN _ _ _)⟩
    go_wp2_with fail
    try dsimp only
    refine (I3.out _ H5.out).mono ?_
    rintro r w' ⟨rfl, n3, rfl⟩
    have H6 := hide (H5.out.drewN n3)
    have T6 := hide (T5.out.trans (Turn.drewN B W5 n3))
    clear c0 c1 c2 c3 f1 f2 f3
    generalize World.drewN W5 n3 = W6 at *
    obtain ⟨c0, c1, c2, c3, f1, f2, f3⟩ := H6.out.seen
    try dsimp only
    cases b3
    case true =>
      have has : a < s.size := L3.out rfl
      have HE : Hid (R = ((s.data.toList.drop a).take 1, a + 1)) := HR.out.symm.trans (O1.out N1 N2 N3 (by simp))
      have hw1 : (a : Int) + 1 - 1 = (a : Int) := by omega
      have hq1 : ((a + 1 : Nat) : Int) = (a : Int) + 1 := by omega
      go_wp2_with fail
      have H9 := hide (H6.out.step)
      have T9 := hide (T6.out.trans (Turn.set B 1 W6 (.int .i64 ((a : Int) + 1))))
      clear c0 c1 c2 c3 f1 f2 f3
      generalize World.setCell W6 ⟨B, 1, none⟩ (.int .i64 ((a : Int) + 1)) = W9 at *
      obtain ⟨c0, c1, c2, c3, f1, f2, f3⟩ := H9.out.seen
      try dsimp only
      go_quiet (fail)
      try dsimp only
      go_wp2_with fail
      go_ret
      rw [HE.out]
      exact ⟨by rw [← E1.out]; rfl, H9.out.drewN _, T9.out.trans (Turn.drewN _ _ _)⟩
    go_wp2_with fail
    try dsimp only
    refine (I4.out _ H6.out).mono ?_
    rintro r w' ⟨rfl, n4, rfl⟩
    have H7 := hide (H6.out.drewN n4)
    have T7 := hide (T6.out.trans (Turn.drewN B W6 n4))
    clear c0 c1 c2 c3 f1 f2 f3
    generalize World.drewN W6 n4 = W7 at *
    obtain ⟨c0, c1, c2, c3, f1, f2, f3⟩ := H7.out.seen
    try dsimp only
    cases b4
    case true =>
      have has : a < s.size := L4.out rfl
      have HE : Hid (R = ((s.data.toList.drop a).take 1, a + 1)) := HR.out.symm.trans (O1.out N1 N2 N3 (by simp))
      have hw1 : (a : Int) + 1 - 1 = (a : Int) := by omega
      have hq1 : ((a + 1 : Nat) : Int) = (a : Int) + 1 := by omega
      go_wp2_with fail
      have H9 := hide (H7.out.step)
      have T9 := hide (T7.out.trans (Turn.set B 1 W7 (.int .i64 ((a : Int) + 1))))
      clear c0 c1 c2 c3 f1 f2 f3
      generalize World.setCell W7 ⟨B, 1, none⟩ (.int .i64 ((a : Int) + 1)) = W9 at *
      obtain ⟨c0, c1, c2, c3, f1, f2, f3⟩ := H9.out.seen
      try dsimp only
      go_quiet (fail)
      try dsimp only
      go_wp2_with fail
      go_ret
      rw [HE.out]
      exact ⟨by rw [← E1.out]; rfl, H9.out.drewN _, T9.out.trans (Turn.drewN _ _ _)⟩
    go_wp2_with fail
    try dsimp only
    refine (I5.out _ H7.out).mono ?_
    rintro r w' ⟨rfl, n5, rfl⟩
    have H8 := hide (H7.out.drewN n5)
    have T8 := hide (T7.out.trans (Turn.drewN B W7 n5))
    clear c0 c1 c2 c3 f1 f2 f3
    generalize World.drewN W7 n5 = W8 at *
    obtain ⟨c0, c1, c2, c3, f1, f2, f3⟩ := H8.out.seen
    try dsimp only
    cases b5
    case true =>
      have has : a < s.size := L5.out rfl
      have HE : Hid (R = ((s.data.toList.drop a).take 1, a + 1)) := HR.out.symm.trans (O1.out N1 N2 N3 (by simp))
      have hw1 : (a : Int) + 1 - 1 = (a : Int) := by omega
      have hq1 : ((a + 1 : Nat) : Int) = (a : Int) + 1 := by omega
      go_wp2_with fail
      have H9 := hide (H8.out.step)
      have T9 := hide (T8.out.trans (Turn.set B 1 W8 (.int .i64 ((a : Int) + 1))))
      clear c0 c1 c2 c3 f1 f2 f3
      generalize World.setCell W8 ⟨B, 1, none⟩ (.int .i64 ((a : Int) + 1)) = W9 at *
      obtain ⟨c0, c1, c2, c3, f1, f2, f3⟩ := H9.out.seen
      try dsimp only
      go_quiet (fail)
      try dsimp only
      go_wp2_with fail
      go_ret
      rw [HE.out]
      exact ⟨by rw [← E1.out]; rfl, H9.out.drewN _, T9.out.trans (Turn.drewN _ _ _)⟩
    have HE : Hid (R = ([], a)) := HR.out.symm.trans (O2.out N1 N2 N3 (by simp))
    go_wp2_with fail
    go_ret
    rw [HE.out]
    exact ⟨rfl, H8.out, T8.out⟩

end Go.Proofs.YtpdlgiioahjhiaaGreat

namespace Go.Proofs.YtpdlgiioahjhiaaGreat
open Go.RowKit
set_option linter.unusedVariables false

theorem put8 {W : World} {B : Nat} {t : TypeId} {u0 u1 u2 u3 u4 u5 u6 u7 : Value} (v0 v1 v2 v3 v4 v5 v6 v7 : Value) (h : W.heap[B]? = some (.cells #[u0, u1, u2, u3, u4, u5, u6, u7] t (0, 0))) :
    ((((((((W.setCell ⟨B, 0, none⟩ v0).setCell ⟨B, 1, none⟩ v1).setCell ⟨B, 2, none⟩ v2).setCell ⟨B, 3, none⟩ v3).setCell ⟨B, 4, none⟩ v4).setCell ⟨B, 5, none⟩ v5).setCell ⟨B, 6, none⟩ v6).setCell ⟨B, 7, none⟩ v7).heap[B]? = some (.cells #[v0, v1, v2, v3, v4, v5, v6, v7] t (0, 0)) :=
  by
  have h0 : (W.setCell ⟨B, 0, none⟩ v0).heap[B]? = some (.cells #[v0, u1, u2, u3, u4, u5, u6, u7] t (0, 0)) := set_lies 0 v0 h
  have h1 : (((W.setCell ⟨B, 0, none⟩ v0)).setCell ⟨B, 1, none⟩ v1).heap[B]? = some (.cells #[v0, v1, u2, u3, u4, u5, u6, u7] t (0, 0)) := set_lies 1 v1 h0
  have h2 : (((((W.setCell ⟨B, 0, none⟩ v0)).setCell ⟨B, 1, none⟩ v1)).setCell ⟨B, 2, none⟩ v2).heap[B]? = some (.cells #[v0, v1, v2, u3, u4, u5, u6, u7] t (0, 0)) := set_lies 2 v2 h1
  have h3 : (((((((W.setCell ⟨B, 0, none⟩ v0)).setCell ⟨B, 1, none⟩ v1)).setCell ⟨B, 2, none⟩ v2)).setCell ⟨B, 3, none⟩ v3).heap[B]? = some (.cells #[v0, v1, v2, v3, u4, u5, u6, u7] t (0, 0)) := set_lies 3 v3 h2
  have h4 : (((((((((W.setCell ⟨B, 0, none⟩ v0)).setCell ⟨B, 1, none⟩ v1)).setCell ⟨B, 2, none⟩ v2)).setCell ⟨B, 3, none⟩ v3)).setCell ⟨B, 4, none⟩ v4).heap[B]? = some (.cells #[v0, v1, v2, v3, v4, u5, u6, u7] t (0, 0)) := set_lies 4 v4 h3
  have h5 : (((((((((((W.setCell ⟨B, 0, none⟩ v0)).setCell ⟨B, 1, none⟩ v1)).setCell ⟨B, 2, none⟩ v2)).setCell ⟨B, 3, none⟩ v3)).setCell ⟨B, 4, none⟩ v4)).setCell ⟨B, 5, none⟩ v5).heap[B]? = some (.cells #[v0, v1, v2, v3, v4, v5, u6, u7] t (0, 0)) := set_lies 5 v5 h4
  have h6 : (((((((((((((W.setCell ⟨B, 0, none⟩ v0)).setCell ⟨B, 1, none⟩ v1)).setCell ⟨B, 2, none⟩ v2)).setCell ⟨B, 3, none⟩ v3)).setCell ⟨B, 4, none⟩ v4)).setCell ⟨B, 5, none⟩ v5)).setCell ⟨B, 6, none⟩ v6).heap[B]? = some (.cells #[v0, v1, v2, v3, v4, v5, v6, u7] t (0, 0)) := set_lies 6 v6 h5
  have h7 : (((((((((((((((W.setCell ⟨B, 0, none⟩ v0)).setCell ⟨B, 1, none⟩ v1)).setCell ⟨B, 2, none⟩ v2)).setCell ⟨B, 3, none⟩ v3)).setCell ⟨B, 4, none⟩ v4)).setCell ⟨B, 5, none⟩ v5)).setCell ⟨B, 6, none⟩ v6)).setCell ⟨B, 7, none⟩ v7).heap[B]? = some (.cells #[v0, v1, v2, v3, v4, v5, v6, v7] t (0, 0)) := set_lies 7 v7 h6
  exact h7
theorem below8 {w W : World} {B : Nat} (h : Below w.heap.size w W) (hB : w.heap.size ≤ B) (v0 v1 v2 v3 v4 v5 v6 v7 : Value) : Below w.heap.size w ((((((((W.setCell ⟨B, 0, none⟩ v0).setCell ⟨B, 1, none⟩ v1).setCell ⟨B, 2, none⟩ v2).setCell ⟨B, 3, none⟩ v3).setCell ⟨B, 4, none⟩ v4).setCell ⟨B, 5, none⟩ v5).setCell ⟨B, 6, none⟩ v6).setCell ⟨B, 7, none⟩ v7) :=
  (((((((h.setCell hB _).setCell hB _).setCell hB _).setCell hB _).setCell hB _).setCell hB _).setCell hB _).setCell hB _
theorem txt8 {W : World} {v : Value} {ts : List (List UInt8)} {n B : Nat} (h : Txt W v ts) (hf : Fresh n v) (hB : B < n) (v0 v1 v2 v3 v4 v5 v6 v7 : Value) : Txt ((((((((W.setCell ⟨B, 0, none⟩ v0).setCell ⟨B, 1, none⟩ v1).setCell ⟨B, 2, none⟩ v2).setCell ⟨B, 3, none⟩ v3).setCell ⟨B, 4, none⟩ v4).setCell ⟨B, 5, none⟩ v5).setCell ⟨B, 6, none⟩ v6).setCell ⟨B, 7, none⟩ v7) v ts :=
  txt_set (txt_set (txt_set (txt_set (txt_set (txt_set (txt_set (txt_set h hf hB _ _) hf hB _ _) hf hB _ _) hf hB _ _) hf hB _ _) hf hB _ _) hf hB _ _) hf hB _ _

structure QB (w W : World) (B1 B2 : Nat) (sg : ByteArray) (f : Nat) (x y z : ByteArray) (p : Value) (t : Int) : Prop where
  res : W.heap[w.heap.size]? = some (.cells #[.string ⟨#[]⟩, .string ⟨#[]⟩, .string ⟨#[]⟩, .slice none 0 0, .slice none 0 0, .int .i64 0, .nilFunc, .int .i64 0] 58 (0, 0))
  op : W.heap[B1]? = some (.cells #[.string sg, .func (.func f) #[] #[]] 148 (0, 0))
  par : W.heap[B2]? = some (.cells #[.string x, .string y, .string z, p, .slice none 0 0, .int .i64 t] 54 (0, 0))
  bel : Below w.heap.size w W
theorem QB.seenR {w W : World} {B1 B2 : Nat} {sg : ByteArray} {f : Nat} {x y z : ByteArray} {p : Value} {t : Int} (h : QB w W B1 B2 sg f x y z p t) : W.frozen? ⟨w.heap.size, 0, none⟩ = false ∧ W.frozen? ⟨w.heap.size, 1, none⟩ = false ∧ W.frozen? ⟨w.heap.size, 2, none⟩ = false ∧ W.frozen? ⟨w.heap.size, 3, none⟩ = false ∧ W.frozen? ⟨w.heap.size, 4, none⟩ = false ∧ W.frozen? ⟨w.heap.size, 5, none⟩ = false ∧ W.frozen? ⟨w.heap.size, 6, none⟩ = false ∧ W.frozen? ⟨w.heap.size, 7, none⟩ = false ∧ W.cell? ⟨w.heap.size, 0, none⟩ = some (.string ⟨#[]⟩) ∧ W.cell? ⟨w.heap.size, 1, none⟩ = some (.string ⟨#[]⟩) ∧ W.cell? ⟨w.heap.size, 2, none⟩ = some (.string ⟨#[]⟩) ∧ W.cell? ⟨w.heap.size, 3, none⟩ = some (.slice none 0 0) ∧ W.cell? ⟨w.heap.size, 4, none⟩ = some (.slice none 0 0) ∧ W.cell? ⟨w.heap.size, 5, none⟩ = some (.int .i64 0) ∧ W.cell? ⟨w.heap.size, 6, none⟩ = some (.nilFunc) ∧ W.cell? ⟨w.heap.size, 7, none⟩ = some (.int .i64 0) :=
  ⟨one_free 0 h.res, one_free 1 h.res, one_free 2 h.res, one_free 3 h.res, one_free 4 h.res, one_free 5 h.res, one_free 6 h.res, one_free 7 h.res, cell_at 0 h.res rfl, cell_at 1 h.res rfl, cell_at 2 h.res rfl, cell_at 3 h.res rfl, cell_at 4 h.res rfl, cell_at 5 h.res rfl, cell_at 6 h.res rfl, cell_at 7 h.res rfl⟩
theorem QB.seen {w W : World} {B1 B2 : Nat} {sg : ByteArray} {f : Nat} {x y z : ByteArray} {p : Value} {t : Int} (h : QB w W B1 B2 sg f x y z p t) :
    W.cell? ⟨B1, 0, none⟩ = some (.string sg) ∧ W.cell? ⟨B1, 1, none⟩ = some (.func (.func f) #[] #[]) ∧ W.cell? ⟨B2, 0, none⟩ = some (.string x) ∧ W.cell? ⟨B2, 1, none⟩ = some (.string y) ∧ W.cell? ⟨B2, 2, none⟩ = some (.string z) ∧ W.cell? ⟨B2, 3, none⟩ = some p ∧ W.cell? ⟨B2, 4, none⟩ = some (.slice none 0 0) ∧ W.cell? ⟨B2, 5, none⟩ = some (.int .i64 t) :=
  ⟨cell_at 0 h.op rfl, cell_at 1 h.op rfl, cell_at 0 h.par rfl, cell_at 1 h.par rfl, cell_at 2 h.par rfl, cell_at 3 h.par rfl, cell_at 4 h.par rfl, cell_at 5 h.par rfl⟩

def partF (p : PartL) (v : Value) (g : Value) (r : Int) : Value := .agg #[.string (ofL p.maj), .string (ofL p.min), .string (ofL p.pat), v, .slice none 0 0, .int .i64 (p.told : Int), g, .int .i64 r]
def PartQ (w : World) (f : Nat) (x : PartL × Int × Int) (e : Ending) (w' : World) : Prop :=
  Below w.heap.size w w' ∧ ∃ v, e = .returned (.tuple #[partF x.1 v (.func (.func f) #[] #[]) x.2.2, .int .i64 x.2.1]) ∧ Txt w' v x.1.pre ∧ Fresh w.heap.size v ∧ Cap v ∧ ∃ a n c, v = .slice a n c

theorem fin88 {R : Ending → World → Prop} (tmps : Array Value) (W : World) (B : Nat) (x y z : ByteArray) (p : Value) (t e r : Int) (f : Nat) (hp : ∃ a n c, p = .slice a n c)
    (h4 : tmps.getD 4 undef = .pointer (some ⟨B, 0, none⟩)) (h5 : tmps.getD 5 undef = .int .i64 e)
    (e1 : W.heap[B]? = some (.cells #[.string x, .string y, .string z, p, .slice none 0 0, .int .i64 t, .func (.func f) #[] #[], .int .i64 r] 58 (0, 0)))
    (hR : R (.returned (.tuple #[.agg #[.string x, .string y, .string z, p, .slice none 0 0, .int .i64 t, .func (.func f) #[] #[], .int .i64 r], .int .i64 e])) W) :
    bodyPost Tryz.prog Tryz.f90 R .ret { tmps := tmps, defers := [] } W := by
  obtain ⟨pa, pn, pc, rfl⟩ := hp
  have r0 := cell_at 0 e1 rfl
  have r1 := cell_at 1 e1 rfl
  have r2 := cell_at 2 e1 rfl
  have r3 := cell_at 3 e1 rfl
  have r4 := cell_at 4 e1 rfl
  have r5 := cell_at 5 e1 rfl
  have r6 := cell_at 6 e1 rfl
  have r7 := cell_at 7 e1 rfl
  rw [Array.getD_eq_getD_getElem?] at h4 h5
  refine ⟨rfl, _, ?_, hR⟩
  simp [results, Tryz.results90, go_sem, h4, h5, r0, r1, r2, r3, r4, r5, r6, r7]
  try rfl

theorem has_len {l p : List UInt8} (h : hasP l p = true) : p.length ≤ l.length := by
  unfold hasP at h
  have := congrArg List.length (LawfulBEq.eq_of_beq h)
  rw [List.length_take] at this
  omega
theorem op_has (l : List UInt8) : ∀ k, k ≤ 9 → (opGo l k).1.length ≤ l.length
  | 0, _ => Nat.zero_le _
  | k + 1, h => by
    rw [opGo_succ l k h]
    unfold opStep
    split
    · rename_i hh; exact has_len hh.1
    · exact op_has l k (by omega)
def opE (l : List UInt8) (a : Nat) : Nat := blk l (a + (opL l a).1.length)
theorem op_in {l : List UInt8} {a : Nat} (h : a ≤ l.length) : a + (opL l a).1.length ≤ l.length := by
  have := op_has (l.drop a) 9 (by omega)
  rw [List.length_drop] at this
  show a + (opGo (l.drop a) 9).1.length ≤ _
  omega

set_option maxRecDepth 100000 in
set_option maxHeartbeats 4000000 in
theorem readPart_any (s : ByteArray) (a : Nat) (w : World) (hs : s.size ≤ 256) (ha : a ≤ s.size) :
    Calls Tryz.prog 90 #[.string s, .int .i64 (a : Int)] w (PartQ w (opL s.data.toList a).2 (rpL s.data.toList (opE s.data.toList a))) := by
  have CO := hide (fun W => operatorAt_any s a W hs ha)
  have ho := op_in (l := s.data.toList) (a := a) (by rw [len_data]; exact ha)
  rw [len_data] at ho
  have R6 := hide (Run6 s (a + (opL s.data.toList a).1.length) hs ho)
  have hE : opE s.data.toList a ≤ s.size := by
    have := blk_le (l := s.data.toList) (a := a + (opL s.data.toList a).1.length) (by rw [len_data]; exact ho)
    rw [len_data] at this
    exact this
  have RP := hide (fun W => readPartial_any s (opE s.data.toList a) W hs hE)
  change Hid (∀ (z : Int), _ → ∀ W, Calls Tryz.prog 28 #[.string s, .int .i64 z, .int .i64 6] W fun r w' => r = .returned (.int .i64 (opE s.data.toList a : Int)) ∧ w' = W) at R6
  generalize opE s.data.toList a = E at *
  generalize opL s.data.toList a = o at *
  obtain ⟨sg, f⟩ := o
  dsimp only at CO ho R6 ⊢
  have hsz : (ofL sg).size = sg.length := ofL_size sg
  have hr0 := hide (World.alloc_heap_new w (.cells #[.string ⟨#[]⟩, .string ⟨#[]⟩, .string ⟨#[]⟩, .slice none 0 0, .slice none 0 0, .int .i64 0, .nilFunc, .int .i64 0] 58))
  have br0 := hide ((Below.refl _ w).alloc (Nat.le_refl _) (.cells #[.string ⟨#[]⟩, .string ⟨#[]⟩, .string ⟨#[]⟩, .slice none 0 0, .slice none 0 0, .int .i64 0, .nilFunc, .int .i64 0] 58))
  go_enter Tryz.func90, Tryz.ntmps90
  go_wp2_with fail
  generalize w.alloc (.cells #[.string ⟨#[]⟩, .string ⟨#[]⟩, .string ⟨#[]⟩, .slice none 0 0, .slice none 0 0, .int .i64 0, .nilFunc, .int .i64 0] 58) = W0 at *
  refine (CO.out _).mono ?_
  rintro e w1 ⟨rfl, hb1⟩
  have h1 := hide ((hb1.block _ (Array.getElem?_eq_some_iff.1 hr0.out).1).trans hr0.out)
  have b1 := hide (br0.out.trans (hb1.mono br0.out.size))
  clear hb1 hr0 br0 CO
  have hq1 := hide ((Lies.cons h1.out (Lies.nil w1)).alloc (.cells #[.string (ofL sg), .func (.func f) #[] #[]] 148))
  have hq2 := hide (World.alloc_heap_new w1 (.cells #[.string (ofL sg), .func (.func f) #[] #[]] 148))
  have hq3 := hide (b1.out.alloc b1.out.size (.cells #[.string (ofL sg), .func (.func f) #[] #[]] 148))
  go_wp2_with fail
  generalize w1.alloc (.cells #[.string (ofL sg), .func (.func f) #[] #[]] 148) = V1 at *
  refine (R6.out _ (by simp) _).mono ?_
  rintro e w2 ⟨rfl, rfl⟩
  go_wp2_with fail
  refine (RP.out _).mono ?_
  rintro e w3 ⟨hb3, v, rfl, t1, fr, cp, av, nv, cv, rfl⟩
  have hl1 := hide (Array.getElem?_eq_some_iff.1 hq1.out.head).1
  have hl2 := hide (Array.getElem?_eq_some_iff.1 hq2.out).1
  have hz1 := hide ((hb3.block _ hl1.out).trans hq1.out.head)
  have hz2 := hide ((hb3.block _ hl2.out).trans hq2.out)
  have b3 := hide (hq3.out.trans (hb3.mono hq3.out.size))
  have T1 := hide t1
  have FR := hide fr
  have CP := hide cp
  clear t1 fr cp RP R6 hb3
  generalize rpL s.data.toList E = X at *
  have hl := (Lies.cons hz1.out (Lies.cons hz2.out (Lies.nil w3))).alloc (.cells #[.string (ofL X.1.maj), .string (ofL X.1.min), .string (ofL X.1.pat), .slice av nv cv, .slice none 0 0, .int .i64 (X.1.told : Int)] 54)
  have Q := hide (QB.mk (w := w) (W := w3.alloc (.cells #[.string (ofL X.1.maj), .string (ofL X.1.min), .string (ofL X.1.pat), .slice av nv cv, .slice none 0 0, .int .i64 (X.1.told : Int)] 54)) (B1 := w1.heap.size) (B2 := w3.heap.size) (sg := ofL sg) (f := f) hl.head hl.tail.head (World.alloc_heap_new w3 _) (b3.out.alloc b3.out.size _))
  have T2 := hide (T1.out.below ((Below.refl _ w3).alloc (Nat.le_refl _) (.cells #[.string (ofL X.1.maj), .string (ofL X.1.min), .string (ofL X.1.pat), .slice av nv cv, .slice none 0 0, .int .i64 (X.1.told : Int)] 54)))
  clear hl
  obtain ⟨f0, f1, f2, f3, f4, f5, f6, f7, c0, c1, c2, c3, c4, c5, c6, c7⟩ := Q.out.seenR
  obtain ⟨g0, g1, g2, g3, g4, g5, g6, g7⟩ := Q.out.seen
  unfold partW
  try dsimp only
  go_wp2_with fail
  exact fin88 _ _ w.heap.size _ _ _ _ _ _ _ _ ⟨_, _, _, rfl⟩ rfl rfl (put8 _ _ _ _ _ _ _ _ Q.out.res) ⟨below8 Q.out.bel (Nat.le_refl _) _ _ _ _ _ _ _ _, _, rfl, txt8 T2.out FR.out hl1.out _ _ _ _ _ _ _ _, fresh_mono FR.out (by have := hl1.out; omega), CP.out, _, _, _, rfl⟩

end Go.Proofs.YtpdlgiioahjhiaaGreat

namespace Go.Proofs.YtpdlgiioahjhiaaGreat
open Go.RowKit
set_option linter.unusedVariables false

theorem endP_zero {l : List UInt8} {a : Nat} {p : PartL} {z r : Int} (h : (endP l a p z r).2.2 = 0) : r = 0 ∧ (endP l a p z r).2.1 = z := by
  unfold endP at *
  split at h
  · cases h
  · rename_i h1
    rw [if_neg h1]
    split at h
    · cases h
    · rename_i h2
      rw [if_neg h2]
      exact ⟨h, rfl⟩
theorem vL_le {l : List UInt8} {a : Nat} (ha : a ≤ l.length) : vL l a ≤ l.length ∧ a ≤ vL l a := by
  unfold vL
  split
  · rename_i h
    have := (List.getElem?_eq_some_iff.1 h).1
    omega
  · omega
theorem np_ge {l : List UInt8} {a : Nat} : a ≤ (npL l a).1 := by
  unfold npL
  split
  · simp only; omega
  · split
    · exact Nat.le_refl _
    · split <;> (simp only; omega)
theorem rn_ge {l : List UInt8} : ∀ (k i a : Nat) (sg : List (Nat × Nat)) (x : List (Nat × Nat) × Nat), rnGo l k i a sg = .ok x → a ≤ x.2
  | 0, i, a, sg, x, h => by
    unfold rnGo at h
    split at h
    · cases h
    · cases h; exact np_ge
  | k + 1, i, a, sg, x, h => by
    unfold rnGo at h
    have := np_ge (l := l) (a := a)
    split at h
    · cases h
    · split at h
      · have := rn_ge (l := l) k _ _ _ x h; omega
      · cases h; exact np_ge
theorem rp_ok {l : List UInt8} {a : Nat} (ha : a ≤ l.length) (h : (rpL l a).2.2 = 0) : ∃ e : Nat, (rpL l a).2.1 = (e : Int) ∧ a ≤ e ∧ e ≤ l.length := by
  have hv := vL_le ha
  unfold rpL at *
  cases hg : rnGo l 2 0 (vL l a) [] with
  | error x =>
    rw [hg] at h
    dsimp only at h ⊢
    exact absurd (endP_zero h).1 (rn_ne 2 0 _ [] x hg)
  | ok x =>
    rw [hg] at h
    have hx := ((rn_le 2 0 _ [] hv.1 (Nat.zero_le _)).2 x hg).1
    have hy := rn_ge 2 0 _ [] x hg
    dsimp only at h ⊢
    by_cases h3 : x.1.length = 3
    · rw [if_pos h3] at h ⊢
      obtain ⟨h1, h2⟩ := endP_zero h
      rw [h2]
      obtain ⟨e, he, h4, h5⟩ := pre_ok hx h1
      exact ⟨e, he, by omega, h5⟩
    · rw [if_neg h3] at h ⊢
      obtain ⟨h1, h2⟩ := endP_zero h
      rw [h2]
      exact ⟨x.2, rfl, by omega, hx⟩
def isFrom (l : List UInt8) (x : PartL × Int × Int) : Bool := decide (x.2.2 = 0) && decide (l[blk l x.2.1.toNat]? = some 45)
def FromP (w : World) (x : PartL × Int × Int) (b : Bool) (e : Ending) (w' : World) : Prop :=
  Below w.heap.size w w' ∧ ∃ v, e = .returned (.tuple #[partW x.1 v, .int .i64 x.2.1, .bool b]) ∧ Txt w' v x.1.pre ∧ Fresh w.heap.size v ∧ Cap v ∧ ∃ a n c, v = .slice a n c

theorem drew_below (k : Nat) (W : World) : Below k W W.drew := below_drewN k W 1
theorem drew_heap {W : World} {B : Nat} {o : Option Obj} (h : W.heap[B]? = o) : W.drew.heap[B]? = o := h
theorem fin49 {R : Ending → World → Prop} (tmps : Array Value) (W : World) (B : Nat) (x y z : ByteArray) (p : Value) (t e : Int) (r : Bool) (hp : ∃ a n c, p = .slice a n c)
    (h4 : tmps.getD 4 undef = .pointer (some ⟨B, 0, none⟩)) (h5 : tmps.getD 5 undef = .int .i64 e) (h6 : tmps.getD 6 undef = .bool r)
    (e1 : W.heap[B]? = some (.cells #[.string x, .string y, .string z, p, .slice none 0 0, .int .i64 t] 54 (0, 0)))
    (hR : R (.returned (.tuple #[.agg #[.string x, .string y, .string z, p, .slice none 0 0, .int .i64 t], .int .i64 e, .bool r])) W) :
    bodyPost Tryz.prog Tryz.f51 R .ret { tmps := tmps, defers := [] } W := by
  obtain ⟨pa, pn, pc, rfl⟩ := hp
  have r0 := cell_at 0 e1 rfl
  have r1 := cell_at 1 e1 rfl
  have r2 := cell_at 2 e1 rfl
  have r3 := cell_at 3 e1 rfl
  have r4 := cell_at 4 e1 rfl
  have r5 := cell_at 5 e1 rfl
  rw [Array.getD_eq_getD_getElem?] at h4 h5 h6
  refine ⟨rfl, _, ?_, hR⟩
  simp [results, Tryz.results51, go_sem, h4, h5, h6, r0, r1, r2, r3, r4, r5]
  try rfl

set_option maxRecDepth 100000 in
set_option maxHeartbeats 4000000 in
theorem readFrom_any (s : ByteArray) (a : Nat) (w : World) (hs : s.size ≤ 256) (ha : a ≤ s.size) :
    Calls Tryz.prog 51 #[.string s, .int .i64 (a : Int)] w (FromP w (rpL s.data.toList a) (isFrom s.data.toList (rpL s.data.toList a))) := by
  have RP := hide (fun W => readPartial_any s a W hs ha)
  have RR := hide (fun (z : Int) W => Run_any s z 6 W (by unfold maxLen; omega))
  have hok := hide (fun h => rp_ok (l := s.data.toList) (a := a) (by rw [len_data]; exact ha) h)
  generalize rpL s.data.toList a = X at *
  have hr0 := hide (World.alloc_heap_new w (.cells #[.string ⟨#[]⟩, .string ⟨#[]⟩, .string ⟨#[]⟩, .slice none 0 0, .slice none 0 0, .int .i64 0] 54))
  have br0 := hide ((Below.refl _ w).alloc (Nat.le_refl _) (.cells #[.string ⟨#[]⟩, .string ⟨#[]⟩, .string ⟨#[]⟩, .slice none 0 0, .slice none 0 0, .int .i64 0] 54))
  go_enter Tryz.func51, Tryz.ntmps51
  go_wp2_with fail
  generalize w.alloc (.cells #[.string ⟨#[]⟩, .string ⟨#[]⟩, .string ⟨#[]⟩, .slice none 0 0, .slice none 0 0, .int .i64 0] 54) = W0 at *
  refine (RP.out _).mono ?_
  rintro e w2 ⟨hb2, v, rfl, t1, fr, cp, av, nv, cv, rfl⟩
  have HL := hide (Array.getElem?_eq_some_iff.1 hr0.out).1
  have FR := hide fr
  have CP := hide cp
  have P := hide (PB.start hr0.out br0.out hb2 (ofL X.1.maj) (ofL X.1.min) (ofL X.1.pat) (.slice av nv cv) (X.1.told : Int))
  have T2 := hide (t1.below ((Below.refl _ w2).alloc (Nat.le_refl _) (.cells #[.string (ofL X.1.maj), .string (ofL X.1.min), .string (ofL X.1.pat), .slice av nv cv, .slice none 0 0, .int .i64 (X.1.told : Int)] 54)))
  clear t1 fr cp hb2 RP hr0 br0
  unfold partW
  try dsimp only
  go_wp2_with fail
  generalize w2.alloc (.cells #[.string (ofL X.1.maj), .string (ofL X.1.min), .string (ofL X.1.pat), .slice av nv cv, .slice none 0 0, .int .i64 (X.1.told : Int)] 54) = V at *
  refine (RR.out _ _).mono ?_
  rintro e w3 ⟨rfl, rfl⟩
  obtain ⟨p, z, r⟩ := X
  dsimp only at hok P T2 ⊢
  obtain ⟨q0, q1, q2, q3, q4, q5, q6⟩ := P.out.seen
  obtain ⟨r1, f1, f2, f3, f4, f5, f6, r2, r3, r4, r5, r6⟩ := P.out.seenR
  have hne := P.out.big
  have hne2 : ¬ w.heap.size = w2.heap.size := by omega
  generalize hg : isFrom s.data.toList (p, z, r) = g at *
  have HG := hide hg
  clear hg
  by_cases hr : r = 0
  · obtain ⟨e, he, h1, h2⟩ := hok.out hr
    subst hr he
    rw [len_data] at h2
    rw [runI_in s e 6 h2]
    have hbk : ((e : Int) + (runL 6 (s.data.toList.drop e) : Int)) = ((blk s.data.toList e : Nat) : Int) := by unfold blk; simp
    rw [hbk]
    have hle := blk_le (l := s.data.toList) (a := e) (by rw [len_data]; exact h2)
    rw [len_data] at hle
    have hif : ∀ b, decide (s.data.toList[blk s.data.toList e]? = some 45) = b → g = b := by
      intro b h
      rw [← HG.out]
      unfold isFrom
      dsimp only
      rw [Int.toNat_natCast, h]
      rfl
    generalize blk s.data.toList e = d at *
    have HIF := hide hif
    have HBK := hide hbk
    clear hif hbk hok HG
    by_cases hlt : d < s.size
    · rw [at_some s d hlt] at HIF
      by_cases hc : s[d] = 45
      · have c1 : ((s[d].toNat : Int) == 45) = true := by rw [hc]; rfl
        have HB := HIF.out true (by rw [hc]; rfl)
        subst HB
        clear hc HIF
        go_wp2_with fail
        go_region_held3 (fun W' => W'.cell? ⟨w2.heap.size, 0, none⟩ = some (.string (ofL p.maj)) ∧ W'.cell? ⟨w2.heap.size, 1, none⟩ = some (.string (ofL p.min)) ∧ W'.cell? ⟨w2.heap.size, 2, none⟩ = some (.string (ofL p.pat)) ∧ W'.cell? ⟨w2.heap.size, 3, none⟩ = some (.slice av nv cv) ∧ W'.cell? ⟨w2.heap.size, 4, none⟩ = some (.slice none 0 0) ∧ W'.cell? ⟨w2.heap.size, 5, none⟩ = some (.int .i64 (p.told : Int))) (go_keep) (fail)
        all_goals (go_wp2_with fail; exact fin49 _ _ w.heap.size _ _ _ _ _ _ _ ⟨_, _, _, rfl⟩ rfl rfl rfl (drew_heap (put6 _ _ _ _ _ _ P.out.res)) ⟨(below6 P.out.bel _ _ _ _ _ _).trans (drew_below _ _), _, rfl, (txt6 T2.out FR.out HL.out _ _ _ _ _ _).below (drew_below _ _), fresh_mono FR.out (by have := HL.out; omega), CP.out, _, _, _, rfl⟩)
      · have c1 : ((s[d].toNat : Int) == 45) = false := ne_byte (k := 45) (by omega) hc
        have HB := HIF.out false (by simp [hc])
        subst HB
        clear hc HIF
        go_wp2_with fail
        go_region_held3 (fun W' => W'.cell? ⟨w2.heap.size, 0, none⟩ = some (.string (ofL p.maj)) ∧ W'.cell? ⟨w2.heap.size, 1, none⟩ = some (.string (ofL p.min)) ∧ W'.cell? ⟨w2.heap.size, 2, none⟩ = some (.string (ofL p.pat)) ∧ W'.cell? ⟨w2.heap.size, 3, none⟩ = some (.slice av nv cv) ∧ W'.cell? ⟨w2.heap.size, 4, none⟩ = some (.slice none 0 0) ∧ W'.cell? ⟨w2.heap.size, 5, none⟩ = some (.int .i64 (p.told : Int))) (go_keep) (fail)
        all_goals (go_wp2_with fail; exact fin49 _ _ w.heap.size _ _ _ _ _ _ _ ⟨_, _, _, rfl⟩ rfl rfl rfl (drew_heap (put6 _ _ _ _ _ _ P.out.res)) ⟨(below6 P.out.bel _ _ _ _ _ _).trans (drew_below _ _), _, rfl, (txt6 T2.out FR.out HL.out _ _ _ _ _ _).below (drew_below _ _), fresh_mono FR.out (by have := HL.out; omega), CP.out, _, _, _, rfl⟩)
    · have l1 : decide ((d : Int) < (s.size : Int)) = false := by simp; omega
      have HB := HIF.out false (by rw [at_none s d hlt]; simp)
      subst HB
      clear HIF
      go_wp2_with fail
      go_region
      all_goals (go_wp2_with fail; exact fin49 _ _ w.heap.size _ _ _ _ _ _ _ ⟨_, _, _, rfl⟩ rfl rfl rfl (drew_heap (put6 _ _ _ _ _ _ P.out.res)) ⟨(below6 P.out.bel _ _ _ _ _ _).trans (drew_below _ _), _, rfl, (txt6 T2.out FR.out HL.out _ _ _ _ _ _).below (drew_below _ _), fresh_mono FR.out (by have := HL.out; omega), CP.out, _, _, _, rfl⟩)
  · have hnb : (r == 0) = false := by simpa using hr
    have hf : g = false := by rw [← HG.out]; unfold isFrom; simp [hr]
    subst hf
    clear HG
    go_wp2_with fail
    go_region
    all_goals (go_wp2_with fail; exact fin49 _ _ w.heap.size _ _ _ _ _ _ _ ⟨_, _, _, rfl⟩ rfl rfl rfl (drew_heap (put6 _ _ _ _ _ _ P.out.res)) ⟨(below6 P.out.bel _ _ _ _ _ _).trans (drew_below _ _), _, rfl, (txt6 T2.out FR.out HL.out _ _ _ _ _ _).below (drew_below _ _), fresh_mono FR.out (by have := HL.out; omega), CP.out, _, _, _, rfl⟩)

end Go.Proofs.YtpdlgiioahjhiaaGreat

namespace Go.Proofs.YtpdlgiioahjhiaaGreat
open Go.RowKit
set_option linter.unusedVariables false
variable {A : Nat → Prop}

abbrev Comp := Int × SemL
def CapA (A : Nat → Prop) (v : Value) : Prop := Cap v ∧ ∀ p n c, v = .slice (some p) n c → n = 0 ∨ A p.block
theorem capN {W : World} {v : Value} (h : Txt W v []) : Cap v := by
  obtain ⟨a, c, rfl, _⟩ := h
  rintro a n c h
  cases h
  exact Nat.zero_le _
theorem capZ {W : World} {v : Value} (h : Txt W v []) : CapA A v := by
  refine ⟨capN h, ?_⟩
  obtain ⟨a, c, rfl, _⟩ := h
  rintro p n c h
  cases h
  exact .inl rfl
theorem capA_one {b : Nat} (h : A b) : CapA A (.slice (some ⟨b, 0, none⟩) 1 1) :=
  ⟨by rintro a n c h; cases h; exact Nat.le_refl _, by rintro p n c e; cases e; exact .inr h⟩
def SemV (A : Nat → Prop) (W : World) (v : Value) (x : SemL) : Prop := ∃ vp vb, v = .agg #[.string (ofL x.maj), .string (ofL x.min), .string (ofL x.pat), vp, vb] ∧ Txt W vp x.pre ∧ Txt W vb x.bld ∧ CapA A vp ∧ CapA A vb
theorem SemV.below {W W' : World} {v : Value} {x : SemL} (h : SemV A W v x) (hb : Below W.heap.size W W') : SemV A W' v x := by
  obtain ⟨vp, vb, h1, h2, h3, h4, h5⟩ := h
  exact ⟨vp, vb, h1, h2.below hb, h3.below hb, h4, h5⟩
theorem SemV.toAt {W : World} {v : Value} {x : SemL} (h : SemV A W v x) : SemAt W v x := by
  obtain ⟨vp, vb, h1, h2, h3, _⟩ := h
  exact ⟨vp, vb, h1, h2, h3⟩
def CompC (A : Nat → Prop) (W : World) (c : Comp) (xs : List Value) : Prop :=
  ∃ vp vb, xs = [.int .i64 c.1, .string (ofL c.2.maj), .string (ofL c.2.min), .string (ofL c.2.pat), vp, vb] ∧ Txt W vp c.2.pre ∧ Txt W vb c.2.bld ∧ CapA A vp ∧ CapA A vb
theorem CompC.below {W W' : World} {c : Comp} {xs : List Value} (h : CompC A W c xs) (hb : Below W.heap.size W W') : CompC A W' c xs := by
  obtain ⟨vp, vb, h1, h2, h3, h4, h5⟩ := h
  exact ⟨vp, vb, h1, h2.below hb, h3.below hb, h4, h5⟩
def CompsC (A : Nat → Prop) (W : World) : List Comp → List Value → Prop
  | [], xs => xs = []
  | c :: cs, xs => ∃ ys zs, xs = ys ++ zs ∧ CompC A W c ys ∧ CompsC A W cs zs
theorem CompsC.below {W W' : World} : ∀ {cs : List Comp} {xs : List Value}, CompsC A W cs xs → Below W.heap.size W W' → CompsC A W' cs xs
  | [], _, h, _ => h
  | c :: cs, xs, h, hb => by
    obtain ⟨ys, zs, h1, h2, h3⟩ := h
    exact ⟨ys, zs, h1, h2.below hb, CompsC.below h3 hb⟩
theorem CompsC.app {W : World} : ∀ {cs ds : List Comp} {xs ys : List Value}, CompsC A W cs xs → CompsC A W ds ys → CompsC A W (cs ++ ds) (xs ++ ys)
  | [], ds, xs, ys, h, h' => by cases h; exact h'
  | c :: cs, ds, xs, ys, h, h' => by
    obtain ⟨us, vs, rfl, h2, h3⟩ := h
    exact ⟨us, vs ++ ys, by rw [List.append_assoc], h2, CompsC.app h3 h'⟩
theorem CompsC.len {W : World} : ∀ {cs : List Comp} {xs : List Value}, CompsC A W cs xs → xs.length = cs.length * 6
  | [], xs, h => by cases h; rfl
  | c :: cs, xs, h => by
    obtain ⟨us, vs, rfl, ⟨vp, vb, rfl, _⟩, h3⟩ := h
    have := CompsC.len h3
    simp
    omega
def CompsP (A : Nat → Prop) (w : World) (cs : List Comp) (e : Ending) (w' : World) : Prop :=
  Below w.heap.size w w' ∧ ((cs = [] ∧ e = .returned (.slice none 0 0)) ∨ ∃ b xs, e = .returned (.slice (some ⟨b, 0, none⟩) cs.length cs.length) ∧ w.heap.size ≤ b ∧ w'.heap[b]? = some (.cells (List.toArray xs) 35 (0, 0)) ∧ CompsC A w' cs xs)

set_option maxRecDepth 100000 in
theorem one_any (op : Int) (v : Value) (x : SemL) (w : World) (hv : SemV A w v x) :
    Calls Tryz.prog 121 #[.int .i64 op, v] w (CompsP A w [(op, x)]) := by
  obtain ⟨vp, vb, rfl, t1, t2, c1, c2⟩ := hv
  obtain ⟨a1, k1, rfl, x1⟩ := id t1
  obtain ⟨a2, k2, rfl, x2⟩ := id t2
  have T1 := hide t1
  have T2 := hide t2
  clear t1 t2 x1 x2
  go_enter Tryz.func121, Tryz.ntmps121
  go_wp2_with fail
  go_ret
  have b1 : Below w.heap.size w (w.alloc (.cells #[.string (ofL x.maj), .string (ofL x.min), .string (ofL x.pat), .slice a1 x.pre.length k1, .slice a2 x.bld.length k2] 33)) := (Below.refl _ w).alloc (Nat.le_refl _) _
  refine ⟨b1.alloc b1.size _, .inr ⟨w.heap.size + 1, [.int .i64 op, .string (ofL x.maj), .string (ofL x.min), .string (ofL x.pat), .slice a1 x.pre.length k1, .slice a2 x.bld.length k2], rfl, by omega, ?_, ?_⟩⟩
  · have := World.alloc_heap_new (w.alloc (.cells #[.string (ofL x.maj), .string (ofL x.min), .string (ofL x.pat), .slice a1 x.pre.length k1, .slice a2 x.bld.length k2] 33)) (.cells #[.int .i64 op, .string (ofL x.maj), .string (ofL x.min), .string (ofL x.pat), .slice a1 x.pre.length k1, .slice a2 x.bld.length k2] 35)
    rw [show (w.alloc (.cells #[.string (ofL x.maj), .string (ofL x.min), .string (ofL x.pat), .slice a1 x.pre.length k1, .slice a2 x.bld.length k2] 33)).heap.size = w.heap.size + 1 by simp] at this
    exact this
  · exact ⟨_, [], by rw [List.append_nil], ⟨_, _, rfl, (T1.out.below b1).below ((Below.refl _ _).alloc (Nat.le_refl _) _), (T2.out.below b1).below ((Below.refl _ _).alloc (Nat.le_refl _) _), c1, c2⟩, rfl⟩

end Go.Proofs.YtpdlgiioahjhiaaGreat

namespace Go.Proofs.YtpdlgiioahjhiaaGreat
open Go.RowKit
set_option linter.unusedVariables false
variable {A : Nat → Prop}

theorem fin146 {R : Ending → World → Prop} (tmps : Array Value) (W : World) (B : Nat) (x y z : ByteArray) (p q : Value) (hp : ∃ a n c, p = .slice a n c) (hq : ∃ a n c, q = .slice a n c)
    (h2 : tmps.getD 2 undef = .pointer (some ⟨B, 0, none⟩)) (e1 : W.heap[B]? = some (.cells #[.string x, .string y, .string z, p, q] 33 (0, 0)))
    (hR : R (.returned (.agg #[.string x, .string y, .string z, p, q])) W) : bodyPost Tryz.prog Tryz.f148 R .ret { tmps := tmps, defers := [] } W := by
  obtain ⟨pa, pn, pc, rfl⟩ := hp
  obtain ⟨qa, qn, qc, rfl⟩ := hq
  have r0 := cell_at 0 e1 rfl
  have r1 := cell_at 1 e1 rfl
  have r2 := cell_at 2 e1 rfl
  have r3 := cell_at 3 e1 rfl
  have r4 := cell_at 4 e1 rfl
  rw [Array.getD_eq_getD_getElem?] at h2
  refine ⟨rfl, _, ?_, hR⟩
  simp [results, Tryz.results148, go_sem, h2, r0, r1, r2, r3, r4]
  try rfl
theorem fin120 {R : Ending → World → Prop} (tmps : Array Value) (W : World) (B : Nat) (x y z : ByteArray) (p q : Value) (hp : ∃ a n c, p = .slice a n c) (hq : ∃ a n c, q = .slice a n c)
    (h2 : tmps.getD 4 undef = .pointer (some ⟨B, 0, none⟩)) (e1 : W.heap[B]? = some (.cells #[.string x, .string y, .string z, p, q] 33 (0, 0)))
    (hR : R (.returned (.agg #[.string x, .string y, .string z, p, q])) W) : bodyPost Tryz.prog Tryz.f122 R .ret { tmps := tmps, defers := [] } W := by
  obtain ⟨pa, pn, pc, rfl⟩ := hp
  obtain ⟨qa, qn, qc, rfl⟩ := hq
  have r0 := cell_at 0 e1 rfl
  have r1 := cell_at 1 e1 rfl
  have r2 := cell_at 2 e1 rfl
  have r3 := cell_at 3 e1 rfl
  have r4 := cell_at 4 e1 rfl
  rw [Array.getD_eq_getD_getElem?] at h2
  refine ⟨rfl, _, ?_, hR⟩
  simp [results, Tryz.results122, go_sem, h2, r0, r1, r2, r3, r4]
  try rfl

theorem heap_a1 (w : World) (o1 o2 o3 : Obj) : (((w.alloc o1).alloc o2).alloc o3).heap[w.heap.size + 1]? = some o2 := by
  have h := World.alloc_heap_new (w.alloc o1) o2
  rw [show (w.alloc o1).heap.size = w.heap.size + 1 by simp] at h
  exact ((Lies.cons h (Lies.nil _)).alloc o3).head
theorem heap_a2 (w : World) (o1 o2 o3 : Obj) : (((w.alloc o1).alloc o2).alloc o3).heap[w.heap.size + 1 + 1]? = some o3 := by
  have h := World.alloc_heap_new ((w.alloc o1).alloc o2) o3
  rw [show ((w.alloc o1).alloc o2).heap.size = w.heap.size + 1 + 1 by simp] at h
  exact h
theorem below_a3' (w : World) (o1 o2 o3 : Obj) : Below w.heap.size w (((w.alloc o1).alloc o2).alloc o3) :=
  (((Below.refl _ w).alloc (Nat.le_refl _) o1).alloc (by simp) o2).alloc (by simp; omega) o3
theorem below_a3 (w : World) (o1 o2 o3 : Obj) : Below w.heap.size w (((w.alloc o1).alloc o2).alloc o3) := below_a3' w o1 o2 o3
theorem heap_b1 (w : World) (o1 o2 : Obj) : ((w.alloc o1).alloc o2).heap[w.heap.size + 1]? = some o2 := by
  have h := World.alloc_heap_new (w.alloc o1) o2
  rw [show (w.alloc o1).heap.size = w.heap.size + 1 by simp] at h
  exact h
theorem below_a2 (w : World) (o1 o2 : Obj) : Below w.heap.size w ((w.alloc o1).alloc o2) :=
  ((Below.refl _ w).alloc (Nat.le_refl _) o1).alloc (by simp) o2
def firstL (x : SemL) : SemL := ⟨x.maj, x.min, x.pat, [[48]], x.bld⟩

set_option maxRecDepth 100000 in
set_option maxHeartbeats 1000000 in
theorem first_any (v : Value) (x : SemL) (w : World) (hA : ∀ b, w.heap.size ≤ b → A b) (hv : SemV A w v x) :
    Calls Tryz.prog 148 #[v] w fun e w' => Below w.heap.size w w' ∧ ∃ u, e = .returned u ∧ SemV A w' u (firstL x) := by
  obtain ⟨vp, vb, rfl, t1, t2, c1, c2⟩ := hv
  obtain ⟨a1, k1, rfl, x1⟩ := id t1
  obtain ⟨a2, k2, rfl, x2⟩ := id t2
  have T2 := hide t2
  have HX2 := hide x2
  clear t1 t2 x1 x2
  go_enter Tryz.func148, Tryz.ntmps148
  go_wp2_with fail
  refine fin146 _ _ (w.heap.size + 1) _ _ _ _ _ ⟨_, _, _, rfl⟩ ⟨_, _, _, rfl⟩ rfl (heap_a1 w _ _ _) ⟨below_a3 w _ _ _, _, rfl, _, _, rfl, ?_, (T2.out.below (below_a3' w _ _ _)), capA_one (hA _ (by omega)), c2⟩
  exact ⟨_, 1, rfl, .inr ⟨w.heap.size + 1 + 1, 0, rfl, by simp, fun i hi => by
    have : i = 0 := by simpa [firstL] using hi
    subst this
    exact cell_at 0 (heap_a2 w _ _ _) rfl⟩⟩

end Go.Proofs.YtpdlgiioahjhiaaGreat
