/-
  Walks: the document's reader of one range, two versions, the first within.
-/
import Derived.Test.YtpedljmpobhimaaGreatDoorJe
namespace Go.Proofs.YtpedljmpobhimaaGreatDoor
open Go.RowKit Go.Shelf
set_option linter.unusedVariables false

set_option maxRecDepth 100000 in
set_option maxHeartbeats 4000000 in
theorem one_L4ttf (B : Nat) (s : ByteArray) (a : Nat) (p1 : Nat) (V1 : List UInt8) (p2 : Nat) (V2 : List UInt8) (H2 : Bool) (w : World) (h : DrAt w B s a 0 0) (hs : s.size ≤ 256) (ha : a < s.size) (x1 : hdIn [91] (s.data.toList.drop a) = true) (b1 : vBad (s.data.toList.drop (a + 1)) = false) (hV1 : verAt (s.data.toList.drop (a + 1)) = V1) (hH1 : decide (V1 ≠ []) = false) (hp1 : a + 1 + vK (s.data.toList.drop (a + 1)) = p1) (hl1 : p1 ≤ s.size) (x3 : hdIn [44] (s.data.toList.drop p1) = true) (hl2 : p1 < s.size) (b2 : vBad (s.data.toList.drop (p1 + 1)) = false) (hV2 : verAt (s.data.toList.drop (p1 + 1)) = V2) (hH2 : decide (V2 ≠ []) = H2) (hp2 : p1 + 1 + vK (s.data.toList.drop (p1 + 1)) = p2) (hl3 : p2 ≤ s.size) (hl4 : p2 < s.size) (y1 : hdIn [93] (s.data.toList.drop p2) = true) :
    Calls Tryz.prog 53 #[.pointer (some ⟨B, 0, none⟩)] w (OnePost w B s 0 0 ⟨false, V1, true, H2, V2, true⟩ (p2 + 1)) := by
  have Q0 : Hid (On w B s a 0 0 ⟨false, [], false, false, [], false⟩ ((w.alloc (.cells #[.bool false, .string ⟨#[]⟩, .bool false, .bool false, .string ⟨#[]⟩, .bool false] 54)).alloc (.cells #[.bool false, .string ⟨#[]⟩, .bool false, .bool false, .string ⟨#[]⟩, .bool false] 54))) := On.start h
  have hH1' := hide hH1
  have hV1' := hide hV1
  have hp1' := hide hp1
  have b1' := hide b1
  clear hH1 hV1 hp1 b1
  have hH2' := hide hH2
  have hV2' := hide hV2
  have hp2' := hide hp2
  have b2' := hide b2
  clear hH2 hV2 hp2 b2
  have hl2b : p1 + 1 ≤ s.size := by omega
  have hB := h.lt
  have hne1 : B ≠ w.heap.size + 1 := by omega
  have hne2 : w.heap.size + 1 ≠ B := by omega
  have hne3 : B ≠ w.heap.size := by omega
  have hne4 : w.heap.size ≠ B := by omega
  clear hB
  clear h
  obtain ⟨⟨c0, c1, c2, c3, f1⟩, ⟨m0, m1, m2, m3, m4, m5⟩, ⟨g0, g1, g2, g3, g4, g5⟩, ⟨z0, z1, z2, z3, z4, z5⟩, k0, k1, k2, k3, k4, k5⟩ := Q0.out.seen
  dsimp only at m0 m1 m2 m3 m4 m5
  have ha0 : a ≤ s.size := by omega
  have ha1 : a + 1 ≤ s.size := by omega
  go_enter Tryz.func53, Tryz.ntmps53
  go_wp2_with fail
  generalize (w.alloc (.cells #[.bool false, .string ⟨#[]⟩, .bool false, .bool false, .string ⟨#[]⟩, .bool false] 54)).alloc (.cells #[.bool false, .string ⟨#[]⟩, .bool false, .bool false, .string ⟨#[]⟩, .bool false] 54) = W0 at *
  refine (Q0.out.is hs ha0 91 x1).mono ?_
  rintro r W1 ⟨rfl, q⟩
  have Q1 := hide q
  clear q Q0 c0 c1 c2 c3 f1 m0 m1 m2 m3 m4 m5 g0 g1 g2 g3 g4 g5 z0 z1 z2 z3 z4 z5 k0 k1 k2 k3 k4 k5
  dsimp only
  obtain ⟨⟨c0, c1, c2, c3, f1⟩, ⟨m0, m1, m2, m3, m4, m5⟩, ⟨g0, g1, g2, g3, g4, g5⟩, ⟨z0, z1, z2, z3, z4, z5⟩, k0, k1, k2, k3, k4, k5⟩ := Q1.out.seen
  dsimp only at m0 m1 m2 m3 m4 m5
  go_wp2_with fail
  replace Q1 := hide ((Q1.out.put 2 (.bool true) ⟨false, [], true, false, [], false⟩ rfl).place (a + 1))
  refine (Q1.out.version hs ha1 hV1'.out hH1'.out hp1'.out (by rw [b1'.out]; rfl) (by rw [b1'.out]; rfl) (e' := 0) (p' := 0)).mono ?_
  rintro r W2 ⟨rfl, q⟩
  have Q2 := hide q
  clear q Q1 c0 c1 c2 c3 f1 m0 m1 m2 m3 m4 m5 g0 g1 g2 g3 g4 g5 z0 z1 z2 z3 z4 z5 k0 k1 k2 k3 k4 k5
  dsimp only
  obtain ⟨⟨c0, c1, c2, c3, f1⟩, ⟨m0, m1, m2, m3, m4, m5⟩, ⟨g0, g1, g2, g3, g4, g5⟩, ⟨z0, z1, z2, z3, z4, z5⟩, k0, k1, k2, k3, k4, k5⟩ := Q2.out.seen
  dsimp only at m0 m1 m2 m3 m4 m5
  go_wp2_with fail
  replace Q2 := hide ((Q2.out.put 1 (.string (ofL V1)) ⟨false, V1, true, false, [], false⟩ rfl).put 0 (.bool false) ⟨false, V1, true, false, [], false⟩ rfl)
  refine (Q2.out.is hs hl1 44 x3).mono ?_
  rintro r W3 ⟨rfl, q⟩
  have Q3 := hide q
  clear q Q2 c0 c1 c2 c3 f1 m0 m1 m2 m3 m4 m5 g0 g1 g2 g3 g4 g5 z0 z1 z2 z3 z4 z5 k0 k1 k2 k3 k4 k5
  dsimp only
  obtain ⟨⟨c0, c1, c2, c3, f1⟩, ⟨m0, m1, m2, m3, m4, m5⟩, ⟨g0, g1, g2, g3, g4, g5⟩, ⟨z0, z1, z2, z3, z4, z5⟩, k0, k1, k2, k3, k4, k5⟩ := Q3.out.seen
  dsimp only at m0 m1 m2 m3 m4 m5
  go_wp2_with fail
  replace Q3 := hide (Q3.out.place (p1 + 1))
  refine (Q3.out.version hs hl2b hV2'.out hH2'.out hp2'.out (by rw [b2'.out]; rfl) (by rw [b2'.out]; rfl) (e' := 0) (p' := 0)).mono ?_
  rintro r W4 ⟨rfl, q⟩
  have Q4 := hide q
  clear q Q3 c0 c1 c2 c3 f1 m0 m1 m2 m3 m4 m5 g0 g1 g2 g3 g4 g5 z0 z1 z2 z3 z4 z5 k0 k1 k2 k3 k4 k5
  dsimp only
  obtain ⟨⟨c0, c1, c2, c3, f1⟩, ⟨m0, m1, m2, m3, m4, m5⟩, ⟨g0, g1, g2, g3, g4, g5⟩, ⟨z0, z1, z2, z3, z4, z5⟩, k0, k1, k2, k3, k4, k5⟩ := Q4.out.seen
  dsimp only at m0 m1 m2 m3 m4 m5
  go_wp2_with fail
  replace Q4 := hide ((Q4.out.put 4 (.string (ofL V2)) ⟨false, V1, true, false, V2, false⟩ rfl).put 3 (.bool H2) ⟨false, V1, true, H2, V2, false⟩ rfl)
  refine (Q4.out.is hs hl3 93 y1).mono ?_
  rintro r W5 ⟨rfl, q⟩
  have Q5 := hide q
  clear q Q4 c0 c1 c2 c3 f1 m0 m1 m2 m3 m4 m5 g0 g1 g2 g3 g4 g5 z0 z1 z2 z3 z4 z5 k0 k1 k2 k3 k4 k5
  dsimp only
  obtain ⟨⟨c0, c1, c2, c3, f1⟩, ⟨m0, m1, m2, m3, m4, m5⟩, ⟨g0, g1, g2, g3, g4, g5⟩, ⟨z0, z1, z2, z3, z4, z5⟩, k0, k1, k2, k3, k4, k5⟩ := Q5.out.seen
  dsimp only at m0 m1 m2 m3 m4 m5
  go_wp2_with fail
  replace Q5 := hide ((Q5.out.put 5 (.bool true) ⟨false, V1, true, H2, V2, true⟩ rfl).place (p2 + 1))
  exact Q5.out.fin (by omega) (fun _ => ⟨rfl, rfl⟩) _ (by rfl)

set_option maxRecDepth 100000 in
set_option maxHeartbeats 4000000 in
theorem one_L4tttf (B : Nat) (s : ByteArray) (a : Nat) (p1 : Nat) (V1 : List UInt8) (p2 : Nat) (V2 : List UInt8) (w : World) (h : DrAt w B s a 0 0) (hs : s.size ≤ 256) (ha : a < s.size) (x1 : hdIn [91] (s.data.toList.drop a) = true) (b1 : vBad (s.data.toList.drop (a + 1)) = false) (hV1 : verAt (s.data.toList.drop (a + 1)) = V1) (hH1 : decide (V1 ≠ []) = true) (hp1 : a + 1 + vK (s.data.toList.drop (a + 1)) = p1) (hl1 : p1 ≤ s.size) (x3 : hdIn [44] (s.data.toList.drop p1) = true) (hl2 : p1 < s.size) (b2 : vBad (s.data.toList.drop (p1 + 1)) = false) (hV2 : verAt (s.data.toList.drop (p1 + 1)) = V2) (hH2 : decide (V2 ≠ []) = false) (hp2 : p1 + 1 + vK (s.data.toList.drop (p1 + 1)) = p2) (hl3 : p2 ≤ s.size) (hl4 : p2 < s.size) (y1 : hdIn [93] (s.data.toList.drop p2) = true) :
    Calls Tryz.prog 53 #[.pointer (some ⟨B, 0, none⟩)] w (OnePost w B s 0 0 ⟨true, V1, true, false, V2, true⟩ (p2 + 1)) := by
  have Q0 : Hid (On w B s a 0 0 ⟨false, [], false, false, [], false⟩ ((w.alloc (.cells #[.bool false, .string ⟨#[]⟩, .bool false, .bool false, .string ⟨#[]⟩, .bool false] 54)).alloc (.cells #[.bool false, .string ⟨#[]⟩, .bool false, .bool false, .string ⟨#[]⟩, .bool false] 54))) := On.start h
  have hH1' := hide hH1
  have hV1' := hide hV1
  have hp1' := hide hp1
  have b1' := hide b1
  clear hH1 hV1 hp1 b1
  have hH2' := hide hH2
  have hV2' := hide hV2
  have hp2' := hide hp2
  have b2' := hide b2
  clear hH2 hV2 hp2 b2
  have hl2b : p1 + 1 ≤ s.size := by omega
  have hB := h.lt
  have hne1 : B ≠ w.heap.size + 1 := by omega
  have hne2 : w.heap.size + 1 ≠ B := by omega
  have hne3 : B ≠ w.heap.size := by omega
  have hne4 : w.heap.size ≠ B := by omega
  clear hB
  clear h
  obtain ⟨⟨c0, c1, c2, c3, f1⟩, ⟨m0, m1, m2, m3, m4, m5⟩, ⟨g0, g1, g2, g3, g4, g5⟩, ⟨z0, z1, z2, z3, z4, z5⟩, k0, k1, k2, k3, k4, k5⟩ := Q0.out.seen
  dsimp only at m0 m1 m2 m3 m4 m5
  have ha0 : a ≤ s.size := by omega
  have ha1 : a + 1 ≤ s.size := by omega
  go_enter Tryz.func53, Tryz.ntmps53
  go_wp2_with fail
  generalize (w.alloc (.cells #[.bool false, .string ⟨#[]⟩, .bool false, .bool false, .string ⟨#[]⟩, .bool false] 54)).alloc (.cells #[.bool false, .string ⟨#[]⟩, .bool false, .bool false, .string ⟨#[]⟩, .bool false] 54) = W0 at *
  refine (Q0.out.is hs ha0 91 x1).mono ?_
  rintro r W1 ⟨rfl, q⟩
  have Q1 := hide q
  clear q Q0 c0 c1 c2 c3 f1 m0 m1 m2 m3 m4 m5 g0 g1 g2 g3 g4 g5 z0 z1 z2 z3 z4 z5 k0 k1 k2 k3 k4 k5
  dsimp only
  obtain ⟨⟨c0, c1, c2, c3, f1⟩, ⟨m0, m1, m2, m3, m4, m5⟩, ⟨g0, g1, g2, g3, g4, g5⟩, ⟨z0, z1, z2, z3, z4, z5⟩, k0, k1, k2, k3, k4, k5⟩ := Q1.out.seen
  dsimp only at m0 m1 m2 m3 m4 m5
  go_wp2_with fail
  replace Q1 := hide ((Q1.out.put 2 (.bool true) ⟨false, [], true, false, [], false⟩ rfl).place (a + 1))
  refine (Q1.out.version hs ha1 hV1'.out hH1'.out hp1'.out (by rw [b1'.out]; rfl) (by rw [b1'.out]; rfl) (e' := 0) (p' := 0)).mono ?_
  rintro r W2 ⟨rfl, q⟩
  have Q2 := hide q
  clear q Q1 c0 c1 c2 c3 f1 m0 m1 m2 m3 m4 m5 g0 g1 g2 g3 g4 g5 z0 z1 z2 z3 z4 z5 k0 k1 k2 k3 k4 k5
  dsimp only
  obtain ⟨⟨c0, c1, c2, c3, f1⟩, ⟨m0, m1, m2, m3, m4, m5⟩, ⟨g0, g1, g2, g3, g4, g5⟩, ⟨z0, z1, z2, z3, z4, z5⟩, k0, k1, k2, k3, k4, k5⟩ := Q2.out.seen
  dsimp only at m0 m1 m2 m3 m4 m5
  go_wp2_with fail
  replace Q2 := hide ((Q2.out.put 1 (.string (ofL V1)) ⟨false, V1, true, false, [], false⟩ rfl).put 0 (.bool true) ⟨true, V1, true, false, [], false⟩ rfl)
  refine (Q2.out.is hs hl1 44 x3).mono ?_
  rintro r W3 ⟨rfl, q⟩
  have Q3 := hide q
  clear q Q2 c0 c1 c2 c3 f1 m0 m1 m2 m3 m4 m5 g0 g1 g2 g3 g4 g5 z0 z1 z2 z3 z4 z5 k0 k1 k2 k3 k4 k5
  dsimp only
  obtain ⟨⟨c0, c1, c2, c3, f1⟩, ⟨m0, m1, m2, m3, m4, m5⟩, ⟨g0, g1, g2, g3, g4, g5⟩, ⟨z0, z1, z2, z3, z4, z5⟩, k0, k1, k2, k3, k4, k5⟩ := Q3.out.seen
  dsimp only at m0 m1 m2 m3 m4 m5
  go_wp2_with fail
  replace Q3 := hide (Q3.out.place (p1 + 1))
  refine (Q3.out.version hs hl2b hV2'.out hH2'.out hp2'.out (by rw [b2'.out]; rfl) (by rw [b2'.out]; rfl) (e' := 0) (p' := 0)).mono ?_
  rintro r W4 ⟨rfl, q⟩
  have Q4 := hide q
  clear q Q3 c0 c1 c2 c3 f1 m0 m1 m2 m3 m4 m5 g0 g1 g2 g3 g4 g5 z0 z1 z2 z3 z4 z5 k0 k1 k2 k3 k4 k5
  dsimp only
  obtain ⟨⟨c0, c1, c2, c3, f1⟩, ⟨m0, m1, m2, m3, m4, m5⟩, ⟨g0, g1, g2, g3, g4, g5⟩, ⟨z0, z1, z2, z3, z4, z5⟩, k0, k1, k2, k3, k4, k5⟩ := Q4.out.seen
  dsimp only at m0 m1 m2 m3 m4 m5
  go_wp2_with fail
  replace Q4 := hide ((Q4.out.put 4 (.string (ofL V2)) ⟨true, V1, true, false, V2, false⟩ rfl).put 3 (.bool false) ⟨true, V1, true, false, V2, false⟩ rfl)
  refine (Q4.out.is hs hl3 93 y1).mono ?_
  rintro r W5 ⟨rfl, q⟩
  have Q5 := hide q
  clear q Q4 c0 c1 c2 c3 f1 m0 m1 m2 m3 m4 m5 g0 g1 g2 g3 g4 g5 z0 z1 z2 z3 z4 z5 k0 k1 k2 k3 k4 k5
  dsimp only
  obtain ⟨⟨c0, c1, c2, c3, f1⟩, ⟨m0, m1, m2, m3, m4, m5⟩, ⟨g0, g1, g2, g3, g4, g5⟩, ⟨z0, z1, z2, z3, z4, z5⟩, k0, k1, k2, k3, k4, k5⟩ := Q5.out.seen
  dsimp only at m0 m1 m2 m3 m4 m5
  go_wp2_with fail
  replace Q5 := hide ((Q5.out.put 5 (.bool true) ⟨true, V1, true, false, V2, true⟩ rfl).place (p2 + 1))
  exact Q5.out.fin (by omega) (fun _ => ⟨rfl, rfl⟩) _ (by rfl)

set_option maxRecDepth 100000 in
set_option maxHeartbeats 4000000 in
theorem one_L4ttttlt (B : Nat) (s : ByteArray) (a : Nat) (p1 : Nat) (V1 : List UInt8) (p2 : Nat) (V2 : List UInt8) (C : Int) (w : World) (h : DrAt w B s a 0 0) (hs : s.size ≤ 256) (ha : a < s.size) (x1 : hdIn [91] (s.data.toList.drop a) = true) (b1 : vBad (s.data.toList.drop (a + 1)) = false) (hV1 : verAt (s.data.toList.drop (a + 1)) = V1) (hH1 : decide (V1 ≠ []) = true) (hp1 : a + 1 + vK (s.data.toList.drop (a + 1)) = p1) (hl1 : p1 ≤ s.size) (x3 : hdIn [44] (s.data.toList.drop p1) = true) (hl2 : p1 < s.size) (b2 : vBad (s.data.toList.drop (p1 + 1)) = false) (hV2 : verAt (s.data.toList.drop (p1 + 1)) = V2) (hH2 : decide (V2 ≠ []) = true) (hp2 : p1 + 1 + vK (s.data.toList.drop (p1 + 1)) = p2) (hl3 : p2 ≤ s.size) (hl4 : p2 < s.size) (y1 : hdIn [93] (s.data.toList.drop p2) = true) (hC : cmpT V1 V2 = C) (hc : C < 0) :
    Calls Tryz.prog 53 #[.pointer (some ⟨B, 0, none⟩)] w (OnePost w B s 0 0 ⟨true, V1, true, true, V2, true⟩ (p2 + 1)) := by
  have Q0 : Hid (On w B s a 0 0 ⟨false, [], false, false, [], false⟩ ((w.alloc (.cells #[.bool false, .string ⟨#[]⟩, .bool false, .bool false, .string ⟨#[]⟩, .bool false] 54)).alloc (.cells #[.bool false, .string ⟨#[]⟩, .bool false, .bool false, .string ⟨#[]⟩, .bool false] 54))) := On.start h
  have hH1' := hide hH1
  have hV1' := hide hV1
  have hp1' := hide hp1
  have b1' := hide b1
  clear hH1 hV1 hp1 b1
  have hH2' := hide hH2
  have hV2' := hide hV2
  have hp2' := hide hp2
  have b2' := hide b2
  clear hH2 hV2 hp2 b2
  have hl2b : p1 + 1 ≤ s.size := by omega
  have hC' := hide hC
  clear hC
  have hc1 : ¬ 0 < C := by omega
  have hc2 : (C == 0) = false := by simp; omega
  have hB := h.lt
  have hne1 : B ≠ w.heap.size + 1 := by omega
  have hne2 : w.heap.size + 1 ≠ B := by omega
  have hne3 : B ≠ w.heap.size := by omega
  have hne4 : w.heap.size ≠ B := by omega
  clear hB
  clear h
  obtain ⟨⟨c0, c1, c2, c3, f1⟩, ⟨m0, m1, m2, m3, m4, m5⟩, ⟨g0, g1, g2, g3, g4, g5⟩, ⟨z0, z1, z2, z3, z4, z5⟩, k0, k1, k2, k3, k4, k5⟩ := Q0.out.seen
  dsimp only at m0 m1 m2 m3 m4 m5
  have ha0 : a ≤ s.size := by omega
  have ha1 : a + 1 ≤ s.size := by omega
  go_enter Tryz.func53, Tryz.ntmps53
  go_wp2_with fail
  generalize (w.alloc (.cells #[.bool false, .string ⟨#[]⟩, .bool false, .bool false, .string ⟨#[]⟩, .bool false] 54)).alloc (.cells #[.bool false, .string ⟨#[]⟩, .bool false, .bool false, .string ⟨#[]⟩, .bool false] 54) = W0 at *
  refine (Q0.out.is hs ha0 91 x1).mono ?_
  rintro r W1 ⟨rfl, q⟩
  have Q1 := hide q
  clear q Q0 c0 c1 c2 c3 f1 m0 m1 m2 m3 m4 m5 g0 g1 g2 g3 g4 g5 z0 z1 z2 z3 z4 z5 k0 k1 k2 k3 k4 k5
  dsimp only
  obtain ⟨⟨c0, c1, c2, c3, f1⟩, ⟨m0, m1, m2, m3, m4, m5⟩, ⟨g0, g1, g2, g3, g4, g5⟩, ⟨z0, z1, z2, z3, z4, z5⟩, k0, k1, k2, k3, k4, k5⟩ := Q1.out.seen
  dsimp only at m0 m1 m2 m3 m4 m5
  go_wp2_with fail
  replace Q1 := hide ((Q1.out.put 2 (.bool true) ⟨false, [], true, false, [], false⟩ rfl).place (a + 1))
  refine (Q1.out.version hs ha1 hV1'.out hH1'.out hp1'.out (by rw [b1'.out]; rfl) (by rw [b1'.out]; rfl) (e' := 0) (p' := 0)).mono ?_
  rintro r W2 ⟨rfl, q⟩
  have Q2 := hide q
  clear q Q1 c0 c1 c2 c3 f1 m0 m1 m2 m3 m4 m5 g0 g1 g2 g3 g4 g5 z0 z1 z2 z3 z4 z5 k0 k1 k2 k3 k4 k5
  dsimp only
  obtain ⟨⟨c0, c1, c2, c3, f1⟩, ⟨m0, m1, m2, m3, m4, m5⟩, ⟨g0, g1, g2, g3, g4, g5⟩, ⟨z0, z1, z2, z3, z4, z5⟩, k0, k1, k2, k3, k4, k5⟩ := Q2.out.seen
  dsimp only at m0 m1 m2 m3 m4 m5
  go_wp2_with fail
  replace Q2 := hide ((Q2.out.put 1 (.string (ofL V1)) ⟨false, V1, true, false, [], false⟩ rfl).put 0 (.bool true) ⟨true, V1, true, false, [], false⟩ rfl)
  refine (Q2.out.is hs hl1 44 x3).mono ?_
  rintro r W3 ⟨rfl, q⟩
  have Q3 := hide q
  clear q Q2 c0 c1 c2 c3 f1 m0 m1 m2 m3 m4 m5 g0 g1 g2 g3 g4 g5 z0 z1 z2 z3 z4 z5 k0 k1 k2 k3 k4 k5
  dsimp only
  obtain ⟨⟨c0, c1, c2, c3, f1⟩, ⟨m0, m1, m2, m3, m4, m5⟩, ⟨g0, g1, g2, g3, g4, g5⟩, ⟨z0, z1, z2, z3, z4, z5⟩, k0, k1, k2, k3, k4, k5⟩ := Q3.out.seen
  dsimp only at m0 m1 m2 m3 m4 m5
  go_wp2_with fail
  replace Q3 := hide (Q3.out.place (p1 + 1))
  refine (Q3.out.version hs hl2b hV2'.out hH2'.out hp2'.out (by rw [b2'.out]; rfl) (by rw [b2'.out]; rfl) (e' := 0) (p' := 0)).mono ?_
  rintro r W4 ⟨rfl, q⟩
  have Q4 := hide q
  clear q Q3 c0 c1 c2 c3 f1 m0 m1 m2 m3 m4 m5 g0 g1 g2 g3 g4 g5 z0 z1 z2 z3 z4 z5 k0 k1 k2 k3 k4 k5
  dsimp only
  obtain ⟨⟨c0, c1, c2, c3, f1⟩, ⟨m0, m1, m2, m3, m4, m5⟩, ⟨g0, g1, g2, g3, g4, g5⟩, ⟨z0, z1, z2, z3, z4, z5⟩, k0, k1, k2, k3, k4, k5⟩ := Q4.out.seen
  dsimp only at m0 m1 m2 m3 m4 m5
  go_wp2_with fail
  replace Q4 := hide ((Q4.out.put 4 (.string (ofL V2)) ⟨true, V1, true, false, V2, false⟩ rfl).put 3 (.bool true) ⟨true, V1, true, true, V2, false⟩ rfl)
  refine (Q4.out.is hs hl3 93 y1).mono ?_
  rintro r W5 ⟨rfl, q⟩
  have Q5 := hide q
  clear q Q4 c0 c1 c2 c3 f1 m0 m1 m2 m3 m4 m5 g0 g1 g2 g3 g4 g5 z0 z1 z2 z3 z4 z5 k0 k1 k2 k3 k4 k5
  dsimp only
  obtain ⟨⟨c0, c1, c2, c3, f1⟩, ⟨m0, m1, m2, m3, m4, m5⟩, ⟨g0, g1, g2, g3, g4, g5⟩, ⟨z0, z1, z2, z3, z4, z5⟩, k0, k1, k2, k3, k4, k5⟩ := Q5.out.seen
  dsimp only at m0 m1 m2 m3 m4 m5
  go_wp2_with fail
  replace Q5 := hide ((Q5.out.put 5 (.bool true) ⟨true, V1, true, true, V2, true⟩ rfl).place (p2 + 1))
  refine (Q5.out.cmp V1 V2 hC'.out).mono ?_
  rintro r W6 ⟨rfl, q⟩
  have Q6 := hide q
  clear q Q5 c0 c1 c2 c3 f1 m0 m1 m2 m3 m4 m5 g0 g1 g2 g3 g4 g5 z0 z1 z2 z3 z4 z5 k0 k1 k2 k3 k4 k5
  dsimp only
  obtain ⟨⟨c0, c1, c2, c3, f1⟩, ⟨m0, m1, m2, m3, m4, m5⟩, ⟨g0, g1, g2, g3, g4, g5⟩, ⟨z0, z1, z2, z3, z4, z5⟩, k0, k1, k2, k3, k4, k5⟩ := Q6.out.seen
  dsimp only at m0 m1 m2 m3 m4 m5
  go_wp2_with fail
  replace Q6 := hide Q6.out
  exact Q6.out.fin (by omega) (fun _ => ⟨rfl, rfl⟩) _ (by rfl)

set_option maxRecDepth 100000 in
set_option maxHeartbeats 4000000 in
theorem one_L4tttteq (B : Nat) (s : ByteArray) (a : Nat) (p1 : Nat) (V1 : List UInt8) (p2 : Nat) (V2 : List UInt8) (C : Int) (w : World) (h : DrAt w B s a 0 0) (hs : s.size ≤ 256) (ha : a < s.size) (x1 : hdIn [91] (s.data.toList.drop a) = true) (b1 : vBad (s.data.toList.drop (a + 1)) = false) (hV1 : verAt (s.data.toList.drop (a + 1)) = V1) (hH1 : decide (V1 ≠ []) = true) (hp1 : a + 1 + vK (s.data.toList.drop (a + 1)) = p1) (hl1 : p1 ≤ s.size) (x3 : hdIn [44] (s.data.toList.drop p1) = true) (hl2 : p1 < s.size) (b2 : vBad (s.data.toList.drop (p1 + 1)) = false) (hV2 : verAt (s.data.toList.drop (p1 + 1)) = V2) (hH2 : decide (V2 ≠ []) = true) (hp2 : p1 + 1 + vK (s.data.toList.drop (p1 + 1)) = p2) (hl3 : p2 ≤ s.size) (hl4 : p2 < s.size) (y1 : hdIn [93] (s.data.toList.drop p2) = true) (hC : cmpT V1 V2 = C) (hc : C = 0) :
    Calls Tryz.prog 53 #[.pointer (some ⟨B, 0, none⟩)] w (OnePost w B s 0 0 ⟨true, V1, true, true, V2, true⟩ (p2 + 1)) := by
  have Q0 : Hid (On w B s a 0 0 ⟨false, [], false, false, [], false⟩ ((w.alloc (.cells #[.bool false, .string ⟨#[]⟩, .bool false, .bool false, .string ⟨#[]⟩, .bool false] 54)).alloc (.cells #[.bool false, .string ⟨#[]⟩, .bool false, .bool false, .string ⟨#[]⟩, .bool false] 54))) := On.start h
  have hH1' := hide hH1
  have hV1' := hide hV1
  have hp1' := hide hp1
  have b1' := hide b1
  clear hH1 hV1 hp1 b1
  have hH2' := hide hH2
  have hV2' := hide hV2
  have hp2' := hide hp2
  have b2' := hide b2
  clear hH2 hV2 hp2 b2
  have hl2b : p1 + 1 ≤ s.size := by omega
  have hC' := hide hC
  clear hC
  subst hc
  have hB := h.lt
  have hne1 : B ≠ w.heap.size + 1 := by omega
  have hne2 : w.heap.size + 1 ≠ B := by omega
  have hne3 : B ≠ w.heap.size := by omega
  have hne4 : w.heap.size ≠ B := by omega
  clear hB
  clear h
  obtain ⟨⟨c0, c1, c2, c3, f1⟩, ⟨m0, m1, m2, m3, m4, m5⟩, ⟨g0, g1, g2, g3, g4, g5⟩, ⟨z0, z1, z2, z3, z4, z5⟩, k0, k1, k2, k3, k4, k5⟩ := Q0.out.seen
  dsimp only at m0 m1 m2 m3 m4 m5
  have ha0 : a ≤ s.size := by omega
  have ha1 : a + 1 ≤ s.size := by omega
  go_enter Tryz.func53, Tryz.ntmps53
  go_wp2_with fail
  generalize (w.alloc (.cells #[.bool false, .string ⟨#[]⟩, .bool false, .bool false, .string ⟨#[]⟩, .bool false] 54)).alloc (.cells #[.bool false, .string ⟨#[]⟩, .bool false, .bool false, .string ⟨#[]⟩, .bool false] 54) = W0 at *
  refine (Q0.out.is hs ha0 91 x1).mono ?_
  rintro r W1 ⟨rfl, q⟩
  have Q1 := hide q
  clear q Q0 c0 c1 c2 c3 f1 m0 m1 m2 m3 m4 m5 g0 g1 g2 g3 g4 g5 z0 z1 z2 z3 z4 z5 k0 k1 k2 k3 k4 k5
  dsimp only
  obtain ⟨⟨c0, c1, c2, c3, f1⟩, ⟨m0, m1, m2, m3, m4, m5⟩, ⟨g0, g1, g2, g3, g4, g5⟩, ⟨z0, z1, z2, z3, z4, z5⟩, k0, k1, k2, k3, k4, k5⟩ := Q1.out.seen
  dsimp only at m0 m1 m2 m3 m4 m5
  go_wp2_with fail
  replace Q1 := hide ((Q1.out.put 2 (.bool true) ⟨false, [], true, false, [], false⟩ rfl).place (a + 1))
  refine (Q1.out.version hs ha1 hV1'.out hH1'.out hp1'.out (by rw [b1'.out]; rfl) (by rw [b1'.out]; rfl) (e' := 0) (p' := 0)).mono ?_
  rintro r W2 ⟨rfl, q⟩
  have Q2 := hide q
  clear q Q1 c0 c1 c2 c3 f1 m0 m1 m2 m3 m4 m5 g0 g1 g2 g3 g4 g5 z0 z1 z2 z3 z4 z5 k0 k1 k2 k3 k4 k5
  dsimp only
  obtain ⟨⟨c0, c1, c2, c3, f1⟩, ⟨m0, m1, m2, m3, m4, m5⟩, ⟨g0, g1, g2, g3, g4, g5⟩, ⟨z0, z1, z2, z3, z4, z5⟩, k0, k1, k2, k3, k4, k5⟩ := Q2.out.seen
  dsimp only at m0 m1 m2 m3 m4 m5
  go_wp2_with fail
  replace Q2 := hide ((Q2.out.put 1 (.string (ofL V1)) ⟨false, V1, true, false, [], false⟩ rfl).put 0 (.bool true) ⟨true, V1, true, false, [], false⟩ rfl)
  refine (Q2.out.is hs hl1 44 x3).mono ?_
  rintro r W3 ⟨rfl, q⟩
  have Q3 := hide q
  clear q Q2 c0 c1 c2 c3 f1 m0 m1 m2 m3 m4 m5 g0 g1 g2 g3 g4 g5 z0 z1 z2 z3 z4 z5 k0 k1 k2 k3 k4 k5
  dsimp only
  obtain ⟨⟨c0, c1, c2, c3, f1⟩, ⟨m0, m1, m2, m3, m4, m5⟩, ⟨g0, g1, g2, g3, g4, g5⟩, ⟨z0, z1, z2, z3, z4, z5⟩, k0, k1, k2, k3, k4, k5⟩ := Q3.out.seen
  dsimp only at m0 m1 m2 m3 m4 m5
  go_wp2_with fail
  replace Q3 := hide (Q3.out.place (p1 + 1))
  refine (Q3.out.version hs hl2b hV2'.out hH2'.out hp2'.out (by rw [b2'.out]; rfl) (by rw [b2'.out]; rfl) (e' := 0) (p' := 0)).mono ?_
  rintro r W4 ⟨rfl, q⟩
  have Q4 := hide q
  clear q Q3 c0 c1 c2 c3 f1 m0 m1 m2 m3 m4 m5 g0 g1 g2 g3 g4 g5 z0 z1 z2 z3 z4 z5 k0 k1 k2 k3 k4 k5
  dsimp only
  obtain ⟨⟨c0, c1, c2, c3, f1⟩, ⟨m0, m1, m2, m3, m4, m5⟩, ⟨g0, g1, g2, g3, g4, g5⟩, ⟨z0, z1, z2, z3, z4, z5⟩, k0, k1, k2, k3, k4, k5⟩ := Q4.out.seen
  dsimp only at m0 m1 m2 m3 m4 m5
  go_wp2_with fail
  replace Q4 := hide ((Q4.out.put 4 (.string (ofL V2)) ⟨true, V1, true, false, V2, false⟩ rfl).put 3 (.bool true) ⟨true, V1, true, true, V2, false⟩ rfl)
  refine (Q4.out.is hs hl3 93 y1).mono ?_
  rintro r W5 ⟨rfl, q⟩
  have Q5 := hide q
  clear q Q4 c0 c1 c2 c3 f1 m0 m1 m2 m3 m4 m5 g0 g1 g2 g3 g4 g5 z0 z1 z2 z3 z4 z5 k0 k1 k2 k3 k4 k5
  dsimp only
  obtain ⟨⟨c0, c1, c2, c3, f1⟩, ⟨m0, m1, m2, m3, m4, m5⟩, ⟨g0, g1, g2, g3, g4, g5⟩, ⟨z0, z1, z2, z3, z4, z5⟩, k0, k1, k2, k3, k4, k5⟩ := Q5.out.seen
  dsimp only at m0 m1 m2 m3 m4 m5
  go_wp2_with fail
  replace Q5 := hide ((Q5.out.put 5 (.bool true) ⟨true, V1, true, true, V2, true⟩ rfl).place (p2 + 1))
  refine (Q5.out.cmp V1 V2 hC'.out).mono ?_
  rintro r W6 ⟨rfl, q⟩
  have Q6 := hide q
  clear q Q5 c0 c1 c2 c3 f1 m0 m1 m2 m3 m4 m5 g0 g1 g2 g3 g4 g5 z0 z1 z2 z3 z4 z5 k0 k1 k2 k3 k4 k5
  dsimp only
  obtain ⟨⟨c0, c1, c2, c3, f1⟩, ⟨m0, m1, m2, m3, m4, m5⟩, ⟨g0, g1, g2, g3, g4, g5⟩, ⟨z0, z1, z2, z3, z4, z5⟩, k0, k1, k2, k3, k4, k5⟩ := Q6.out.seen
  dsimp only at m0 m1 m2 m3 m4 m5
  go_wp2_with fail
  replace Q6 := hide Q6.out
  exact Q6.out.fin (by omega) (fun _ => ⟨rfl, rfl⟩) _ (by rfl)

set_option maxRecDepth 100000 in
set_option maxHeartbeats 4000000 in
theorem one_L4ttttgt (B : Nat) (s : ByteArray) (a : Nat) (p1 : Nat) (V1 : List UInt8) (p2 : Nat) (V2 : List UInt8) (C : Int) (w : World) (h : DrAt w B s a 0 0) (hs : s.size ≤ 256) (ha : a < s.size) (x1 : hdIn [91] (s.data.toList.drop a) = true) (b1 : vBad (s.data.toList.drop (a + 1)) = false) (hV1 : verAt (s.data.toList.drop (a + 1)) = V1) (hH1 : decide (V1 ≠ []) = true) (hp1 : a + 1 + vK (s.data.toList.drop (a + 1)) = p1) (hl1 : p1 ≤ s.size) (x3 : hdIn [44] (s.data.toList.drop p1) = true) (hl2 : p1 < s.size) (b2 : vBad (s.data.toList.drop (p1 + 1)) = false) (hV2 : verAt (s.data.toList.drop (p1 + 1)) = V2) (hH2 : decide (V2 ≠ []) = true) (hp2 : p1 + 1 + vK (s.data.toList.drop (p1 + 1)) = p2) (hl3 : p2 ≤ s.size) (hl4 : p2 < s.size) (y1 : hdIn [93] (s.data.toList.drop p2) = true) (hC : cmpT V1 V2 = C) (hc : 0 < C) :
    Calls Tryz.prog 53 #[.pointer (some ⟨B, 0, none⟩)] w (OnePost w B s 21 (a : Int) noM 0) := by
  have Q0 : Hid (On w B s a 0 0 ⟨false, [], false, false, [], false⟩ ((w.alloc (.cells #[.bool false, .string ⟨#[]⟩, .bool false, .bool false, .string ⟨#[]⟩, .bool false] 54)).alloc (.cells #[.bool false, .string ⟨#[]⟩, .bool false, .bool false, .string ⟨#[]⟩, .bool false] 54))) := On.start h
  have hH1' := hide hH1
  have hV1' := hide hV1
  have hp1' := hide hp1
  have b1' := hide b1
  clear hH1 hV1 hp1 b1
  have hH2' := hide hH2
  have hV2' := hide hV2
  have hp2' := hide hp2
  have b2' := hide b2
  clear hH2 hV2 hp2 b2
  have hl2b : p1 + 1 ≤ s.size := by omega
  have hC' := hide hC
  clear hC
  have hc2 : (C == 0) = false := by simp; omega
  have hB := h.lt
  have hne1 : B ≠ w.heap.size + 1 := by omega
  have hne2 : w.heap.size + 1 ≠ B := by omega
  have hne3 : B ≠ w.heap.size := by omega
  have hne4 : w.heap.size ≠ B := by omega
  clear hB
  clear h
  obtain ⟨⟨c0, c1, c2, c3, f1⟩, ⟨m0, m1, m2, m3, m4, m5⟩, ⟨g0, g1, g2, g3, g4, g5⟩, ⟨z0, z1, z2, z3, z4, z5⟩, k0, k1, k2, k3, k4, k5⟩ := Q0.out.seen
  dsimp only at m0 m1 m2 m3 m4 m5
  have ha0 : a ≤ s.size := by omega
  have ha1 : a + 1 ≤ s.size := by omega
  go_enter Tryz.func53, Tryz.ntmps53
  go_wp2_with fail
  generalize (w.alloc (.cells #[.bool false, .string ⟨#[]⟩, .bool false, .bool false, .string ⟨#[]⟩, .bool false] 54)).alloc (.cells #[.bool false, .string ⟨#[]⟩, .bool false, .bool false, .string ⟨#[]⟩, .bool false] 54) = W0 at *
  refine (Q0.out.is hs ha0 91 x1).mono ?_
  rintro r W1 ⟨rfl, q⟩
  have Q1 := hide q
  clear q Q0 c0 c1 c2 c3 f1 m0 m1 m2 m3 m4 m5 g0 g1 g2 g3 g4 g5 z0 z1 z2 z3 z4 z5 k0 k1 k2 k3 k4 k5
  dsimp only
  obtain ⟨⟨c0, c1, c2, c3, f1⟩, ⟨m0, m1, m2, m3, m4, m5⟩, ⟨g0, g1, g2, g3, g4, g5⟩, ⟨z0, z1, z2, z3, z4, z5⟩, k0, k1, k2, k3, k4, k5⟩ := Q1.out.seen
  dsimp only at m0 m1 m2 m3 m4 m5
  go_wp2_with fail
  replace Q1 := hide ((Q1.out.put 2 (.bool true) ⟨false, [], true, false, [], false⟩ rfl).place (a + 1))
  refine (Q1.out.version hs ha1 hV1'.out hH1'.out hp1'.out (by rw [b1'.out]; rfl) (by rw [b1'.out]; rfl) (e' := 0) (p' := 0)).mono ?_
  rintro r W2 ⟨rfl, q⟩
  have Q2 := hide q
  clear q Q1 c0 c1 c2 c3 f1 m0 m1 m2 m3 m4 m5 g0 g1 g2 g3 g4 g5 z0 z1 z2 z3 z4 z5 k0 k1 k2 k3 k4 k5
  dsimp only
  obtain ⟨⟨c0, c1, c2, c3, f1⟩, ⟨m0, m1, m2, m3, m4, m5⟩, ⟨g0, g1, g2, g3, g4, g5⟩, ⟨z0, z1, z2, z3, z4, z5⟩, k0, k1, k2, k3, k4, k5⟩ := Q2.out.seen
  dsimp only at m0 m1 m2 m3 m4 m5
  go_wp2_with fail
  replace Q2 := hide ((Q2.out.put 1 (.string (ofL V1)) ⟨false, V1, true, false, [], false⟩ rfl).put 0 (.bool true) ⟨true, V1, true, false, [], false⟩ rfl)
  refine (Q2.out.is hs hl1 44 x3).mono ?_
  rintro r W3 ⟨rfl, q⟩
  have Q3 := hide q
  clear q Q2 c0 c1 c2 c3 f1 m0 m1 m2 m3 m4 m5 g0 g1 g2 g3 g4 g5 z0 z1 z2 z3 z4 z5 k0 k1 k2 k3 k4 k5
  dsimp only
  obtain ⟨⟨c0, c1, c2, c3, f1⟩, ⟨m0, m1, m2, m3, m4, m5⟩, ⟨g0, g1, g2, g3, g4, g5⟩, ⟨z0, z1, z2, z3, z4, z5⟩, k0, k1, k2, k3, k4, k5⟩ := Q3.out.seen
  dsimp only at m0 m1 m2 m3 m4 m5
  go_wp2_with fail
  replace Q3 := hide (Q3.out.place (p1 + 1))
  refine (Q3.out.version hs hl2b hV2'.out hH2'.out hp2'.out (by rw [b2'.out]; rfl) (by rw [b2'.out]; rfl) (e' := 0) (p' := 0)).mono ?_
  rintro r W4 ⟨rfl, q⟩
  have Q4 := hide q
  clear q Q3 c0 c1 c2 c3 f1 m0 m1 m2 m3 m4 m5 g0 g1 g2 g3 g4 g5 z0 z1 z2 z3 z4 z5 k0 k1 k2 k3 k4 k5
  dsimp only
  obtain ⟨⟨c0, c1, c2, c3, f1⟩, ⟨m0, m1, m2, m3, m4, m5⟩, ⟨g0, g1, g2, g3, g4, g5⟩, ⟨z0, z1, z2, z3, z4, z5⟩, k0, k1, k2, k3, k4, k5⟩ := Q4.out.seen
  dsimp only at m0 m1 m2 m3 m4 m5
  go_wp2_with fail
  replace Q4 := hide ((Q4.out.put 4 (.string (ofL V2)) ⟨true, V1, true, false, V2, false⟩ rfl).put 3 (.bool true) ⟨true, V1, true, true, V2, false⟩ rfl)
  refine (Q4.out.is hs hl3 93 y1).mono ?_
  rintro r W5 ⟨rfl, q⟩
  have Q5 := hide q
  clear q Q4 c0 c1 c2 c3 f1 m0 m1 m2 m3 m4 m5 g0 g1 g2 g3 g4 g5 z0 z1 z2 z3 z4 z5 k0 k1 k2 k3 k4 k5
  dsimp only
  obtain ⟨⟨c0, c1, c2, c3, f1⟩, ⟨m0, m1, m2, m3, m4, m5⟩, ⟨g0, g1, g2, g3, g4, g5⟩, ⟨z0, z1, z2, z3, z4, z5⟩, k0, k1, k2, k3, k4, k5⟩ := Q5.out.seen
  dsimp only at m0 m1 m2 m3 m4 m5
  go_wp2_with fail
  replace Q5 := hide ((Q5.out.put 5 (.bool true) ⟨true, V1, true, true, V2, true⟩ rfl).place (p2 + 1))
  refine (Q5.out.cmp V1 V2 hC'.out).mono ?_
  rintro r W6 ⟨rfl, q⟩
  have Q6 := hide q
  clear q Q5 c0 c1 c2 c3 f1 m0 m1 m2 m3 m4 m5 g0 g1 g2 g3 g4 g5 z0 z1 z2 z3 z4 z5 k0 k1 k2 k3 k4 k5
  dsimp only
  obtain ⟨⟨c0, c1, c2, c3, f1⟩, ⟨m0, m1, m2, m3, m4, m5⟩, ⟨g0, g1, g2, g3, g4, g5⟩, ⟨z0, z1, z2, z3, z4, z5⟩, k0, k1, k2, k3, k4, k5⟩ := Q6.out.seen
  dsimp only at m0 m1 m2 m3 m4 m5
  go_wp2_with fail
  replace Q6 := hide Q6.out
  refine (Q6.out.fail 21 (a : Int)).mono ?_
  rintro r W7 ⟨rfl, q⟩
  have Q7 := hide q
  clear q Q6 c0 c1 c2 c3 f1 m0 m1 m2 m3 m4 m5 g0 g1 g2 g3 g4 g5 z0 z1 z2 z3 z4 z5 k0 k1 k2 k3 k4 k5
  dsimp only
  obtain ⟨⟨c0, c1, c2, c3, f1⟩, ⟨m0, m1, m2, m3, m4, m5⟩, ⟨g0, g1, g2, g3, g4, g5⟩, ⟨z0, z1, z2, z3, z4, z5⟩, k0, k1, k2, k3, k4, k5⟩ := Q7.out.seen
  dsimp only at m0 m1 m2 m3 m4 m5
  go_wp2_with fail
  replace Q7 := hide Q7.out
  exact Q7.out.fin (by omega) (fun h => absurd h (by decide)) _ (by rfl)

set_option maxRecDepth 100000 in
set_option maxHeartbeats 4000000 in
theorem one_L4tff (B : Nat) (s : ByteArray) (a : Nat) (p1 : Nat) (V1 : List UInt8) (p2 : Nat) (V2 : List UInt8) (H2 : Bool) (w : World) (h : DrAt w B s a 0 0) (hs : s.size ≤ 256) (ha : a < s.size) (x1 : hdIn [91] (s.data.toList.drop a) = true) (b1 : vBad (s.data.toList.drop (a + 1)) = false) (hV1 : verAt (s.data.toList.drop (a + 1)) = V1) (hH1 : decide (V1 ≠ []) = false) (hp1 : a + 1 + vK (s.data.toList.drop (a + 1)) = p1) (hl1 : p1 ≤ s.size) (x3 : hdIn [44] (s.data.toList.drop p1) = true) (hl2 : p1 < s.size) (b2 : vBad (s.data.toList.drop (p1 + 1)) = false) (hV2 : verAt (s.data.toList.drop (p1 + 1)) = V2) (hH2 : decide (V2 ≠ []) = H2) (hp2 : p1 + 1 + vK (s.data.toList.drop (p1 + 1)) = p2) (hl3 : p2 ≤ s.size) (hl4 : p2 < s.size) (y1 : hdIn [93] (s.data.toList.drop p2) = false) (y2 : hdIn [41] (s.data.toList.drop p2) = true) :
    Calls Tryz.prog 53 #[.pointer (some ⟨B, 0, none⟩)] w (OnePost w B s 0 0 ⟨false, V1, true, H2, V2, false⟩ (p2 + 1)) := by
  have Q0 : Hid (On w B s a 0 0 ⟨false, [], false, false, [], false⟩ ((w.alloc (.cells #[.bool false, .string ⟨#[]⟩, .bool false, .bool false, .string ⟨#[]⟩, .bool false] 54)).alloc (.cells #[.bool false, .string ⟨#[]⟩, .bool false, .bool false, .string ⟨#[]⟩, .bool false] 54))) := On.start h
  have hH1' := hide hH1
  have hV1' := hide hV1
  have hp1' := hide hp1
  have b1' := hide b1
  clear hH1 hV1 hp1 b1
  have hH2' := hide hH2
  have hV2' := hide hV2
  have hp2' := hide hp2
  have b2' := hide b2
  clear hH2 hV2 hp2 b2
  have hl2b : p1 + 1 ≤ s.size := by omega
  have hB := h.lt
  have hne1 : B ≠ w.heap.size + 1 := by omega
  have hne2 : w.heap.size + 1 ≠ B := by omega
  have hne3 : B ≠ w.heap.size := by omega
  have hne4 : w.heap.size ≠ B := by omega
  clear hB
  clear h
  obtain ⟨⟨c0, c1, c2, c3, f1⟩, ⟨m0, m1, m2, m3, m4, m5⟩, ⟨g0, g1, g2, g3, g4, g5⟩, ⟨z0, z1, z2, z3, z4, z5⟩, k0, k1, k2, k3, k4, k5⟩ := Q0.out.seen
  dsimp only at m0 m1 m2 m3 m4 m5
  have ha0 : a ≤ s.size := by omega
  have ha1 : a + 1 ≤ s.size := by omega
  go_enter Tryz.func53, Tryz.ntmps53
  go_wp2_with fail
  generalize (w.alloc (.cells #[.bool false, .string ⟨#[]⟩, .bool false, .bool false, .string ⟨#[]⟩, .bool false] 54)).alloc (.cells #[.bool false, .string ⟨#[]⟩, .bool false, .bool false, .string ⟨#[]⟩, .bool false] 54) = W0 at *
  refine (Q0.out.is hs ha0 91 x1).mono ?_
  rintro r W1 ⟨rfl, q⟩
  have Q1 := hide q
  clear q Q0 c0 c1 c2 c3 f1 m0 m1 m2 m3 m4 m5 g0 g1 g2 g3 g4 g5 z0 z1 z2 z3 z4 z5 k0 k1 k2 k3 k4 k5
  dsimp only
  obtain ⟨⟨c0, c1, c2, c3, f1⟩, ⟨m0, m1, m2, m3, m4, m5⟩, ⟨g0, g1, g2, g3, g4, g5⟩, ⟨z0, z1, z2, z3, z4, z5⟩, k0, k1, k2, k3, k4, k5⟩ := Q1.out.seen
  dsimp only at m0 m1 m2 m3 m4 m5
  go_wp2_with fail
  replace Q1 := hide ((Q1.out.put 2 (.bool true) ⟨false, [], true, false, [], false⟩ rfl).place (a + 1))
  refine (Q1.out.version hs ha1 hV1'.out hH1'.out hp1'.out (by rw [b1'.out]; rfl) (by rw [b1'.out]; rfl) (e' := 0) (p' := 0)).mono ?_
  rintro r W2 ⟨rfl, q⟩
  have Q2 := hide q
  clear q Q1 c0 c1 c2 c3 f1 m0 m1 m2 m3 m4 m5 g0 g1 g2 g3 g4 g5 z0 z1 z2 z3 z4 z5 k0 k1 k2 k3 k4 k5
  dsimp only
  obtain ⟨⟨c0, c1, c2, c3, f1⟩, ⟨m0, m1, m2, m3, m4, m5⟩, ⟨g0, g1, g2, g3, g4, g5⟩, ⟨z0, z1, z2, z3, z4, z5⟩, k0, k1, k2, k3, k4, k5⟩ := Q2.out.seen
  dsimp only at m0 m1 m2 m3 m4 m5
  go_wp2_with fail
  replace Q2 := hide ((Q2.out.put 1 (.string (ofL V1)) ⟨false, V1, true, false, [], false⟩ rfl).put 0 (.bool false) ⟨false, V1, true, false, [], false⟩ rfl)
  refine (Q2.out.is hs hl1 44 x3).mono ?_
  rintro r W3 ⟨rfl, q⟩
  have Q3 := hide q
  clear q Q2 c0 c1 c2 c3 f1 m0 m1 m2 m3 m4 m5 g0 g1 g2 g3 g4 g5 z0 z1 z2 z3 z4 z5 k0 k1 k2 k3 k4 k5
  dsimp only
  obtain ⟨⟨c0, c1, c2, c3, f1⟩, ⟨m0, m1, m2, m3, m4, m5⟩, ⟨g0, g1, g2, g3, g4, g5⟩, ⟨z0, z1, z2, z3, z4, z5⟩, k0, k1, k2, k3, k4, k5⟩ := Q3.out.seen
  dsimp only at m0 m1 m2 m3 m4 m5
  go_wp2_with fail
  replace Q3 := hide (Q3.out.place (p1 + 1))
  refine (Q3.out.version hs hl2b hV2'.out hH2'.out hp2'.out (by rw [b2'.out]; rfl) (by rw [b2'.out]; rfl) (e' := 0) (p' := 0)).mono ?_
  rintro r W4 ⟨rfl, q⟩
  have Q4 := hide q
  clear q Q3 c0 c1 c2 c3 f1 m0 m1 m2 m3 m4 m5 g0 g1 g2 g3 g4 g5 z0 z1 z2 z3 z4 z5 k0 k1 k2 k3 k4 k5
  dsimp only
  obtain ⟨⟨c0, c1, c2, c3, f1⟩, ⟨m0, m1, m2, m3, m4, m5⟩, ⟨g0, g1, g2, g3, g4, g5⟩, ⟨z0, z1, z2, z3, z4, z5⟩, k0, k1, k2, k3, k4, k5⟩ := Q4.out.seen
  dsimp only at m0 m1 m2 m3 m4 m5
  go_wp2_with fail
  replace Q4 := hide ((Q4.out.put 4 (.string (ofL V2)) ⟨false, V1, true, false, V2, false⟩ rfl).put 3 (.bool H2) ⟨false, V1, true, H2, V2, false⟩ rfl)
  refine (Q4.out.is hs hl3 93 y1).mono ?_
  rintro r W5 ⟨rfl, q⟩
  have Q5 := hide q
  clear q Q4 c0 c1 c2 c3 f1 m0 m1 m2 m3 m4 m5 g0 g1 g2 g3 g4 g5 z0 z1 z2 z3 z4 z5 k0 k1 k2 k3 k4 k5
  dsimp only
  obtain ⟨⟨c0, c1, c2, c3, f1⟩, ⟨m0, m1, m2, m3, m4, m5⟩, ⟨g0, g1, g2, g3, g4, g5⟩, ⟨z0, z1, z2, z3, z4, z5⟩, k0, k1, k2, k3, k4, k5⟩ := Q5.out.seen
  dsimp only at m0 m1 m2 m3 m4 m5
  go_wp2_with fail
  refine (Q5.out.is hs hl3 41 y2).mono ?_
  rintro r W6 ⟨rfl, q⟩
  have Q6 := hide q
  clear q Q5 c0 c1 c2 c3 f1 m0 m1 m2 m3 m4 m5 g0 g1 g2 g3 g4 g5 z0 z1 z2 z3 z4 z5 k0 k1 k2 k3 k4 k5
  dsimp only
  obtain ⟨⟨c0, c1, c2, c3, f1⟩, ⟨m0, m1, m2, m3, m4, m5⟩, ⟨g0, g1, g2, g3, g4, g5⟩, ⟨z0, z1, z2, z3, z4, z5⟩, k0, k1, k2, k3, k4, k5⟩ := Q6.out.seen
  dsimp only at m0 m1 m2 m3 m4 m5
  go_wp2_with fail
  replace Q6 := hide (Q6.out.place (p2 + 1))
  exact Q6.out.fin (by omega) (fun _ => ⟨rfl, rfl⟩) _ (by rfl)

set_option maxRecDepth 100000 in
set_option maxHeartbeats 4000000 in
theorem one_L4tftf (B : Nat) (s : ByteArray) (a : Nat) (p1 : Nat) (V1 : List UInt8) (p2 : Nat) (V2 : List UInt8) (w : World) (h : DrAt w B s a 0 0) (hs : s.size ≤ 256) (ha : a < s.size) (x1 : hdIn [91] (s.data.toList.drop a) = true) (b1 : vBad (s.data.toList.drop (a + 1)) = false) (hV1 : verAt (s.data.toList.drop (a + 1)) = V1) (hH1 : decide (V1 ≠ []) = true) (hp1 : a + 1 + vK (s.data.toList.drop (a + 1)) = p1) (hl1 : p1 ≤ s.size) (x3 : hdIn [44] (s.data.toList.drop p1) = true) (hl2 : p1 < s.size) (b2 : vBad (s.data.toList.drop (p1 + 1)) = false) (hV2 : verAt (s.data.toList.drop (p1 + 1)) = V2) (hH2 : decide (V2 ≠ []) = false) (hp2 : p1 + 1 + vK (s.data.toList.drop (p1 + 1)) = p2) (hl3 : p2 ≤ s.size) (hl4 : p2 < s.size) (y1 : hdIn [93] (s.data.toList.drop p2) = false) (y2 : hdIn [41] (s.data.toList.drop p2) = true) :
    Calls Tryz.prog 53 #[.pointer (some ⟨B, 0, none⟩)] w (OnePost w B s 0 0 ⟨true, V1, true, false, V2, false⟩ (p2 + 1)) := by
  have Q0 : Hid (On w B s a 0 0 ⟨false, [], false, false, [], false⟩ ((w.alloc (.cells #[.bool false, .string ⟨#[]⟩, .bool false, .bool false, .string ⟨#[]⟩, .bool false] 54)).alloc (.cells #[.bool false, .string ⟨#[]⟩, .bool false, .bool false, .string ⟨#[]⟩, .bool false] 54))) := On.start h
  have hH1' := hide hH1
  have hV1' := hide hV1
  have hp1' := hide hp1
  have b1' := hide b1
  clear hH1 hV1 hp1 b1
  have hH2' := hide hH2
  have hV2' := hide hV2
  have hp2' := hide hp2
  have b2' := hide b2
  clear hH2 hV2 hp2 b2
  have hl2b : p1 + 1 ≤ s.size := by omega
  have hB := h.lt
  have hne1 : B ≠ w.heap.size + 1 := by omega
  have hne2 : w.heap.size + 1 ≠ B := by omega
  have hne3 : B ≠ w.heap.size := by omega
  have hne4 : w.heap.size ≠ B := by omega
  clear hB
  clear h
  obtain ⟨⟨c0, c1, c2, c3, f1⟩, ⟨m0, m1, m2, m3, m4, m5⟩, ⟨g0, g1, g2, g3, g4, g5⟩, ⟨z0, z1, z2, z3, z4, z5⟩, k0, k1, k2, k3, k4, k5⟩ := Q0.out.seen
  dsimp only at m0 m1 m2 m3 m4 m5
  have ha0 : a ≤ s.size := by omega
  have ha1 : a + 1 ≤ s.size := by omega
  go_enter Tryz.func53, Tryz.ntmps53
  go_wp2_with fail
  generalize (w.alloc (.cells #[.bool false, .string ⟨#[]⟩, .bool false, .bool false, .string ⟨#[]⟩, .bool false] 54)).alloc (.cells #[.bool false, .string ⟨#[]⟩, .bool false, .bool false, .string ⟨#[]⟩, .bool false] 54) = W0 at *
  refine (Q0.out.is hs ha0 91 x1).mono ?_
  rintro r W1 ⟨rfl, q⟩
  have Q1 := hide q
  clear q Q0 c0 c1 c2 c3 f1 m0 m1 m2 m3 m4 m5 g0 g1 g2 g3 g4 g5 z0 z1 z2 z3 z4 z5 k0 k1 k2 k3 k4 k5
  dsimp only
  obtain ⟨⟨c0, c1, c2, c3, f1⟩, ⟨m0, m1, m2, m3, m4, m5⟩, ⟨g0, g1, g2, g3, g4, g5⟩, ⟨z0, z1, z2, z3, z4, z5⟩, k0, k1, k2, k3, k4, k5⟩ := Q1.out.seen
  dsimp only at m0 m1 m2 m3 m4 m5
  go_wp2_with fail
  replace Q1 := hide ((Q1.out.put 2 (.bool true) ⟨false, [], true, false, [], false⟩ rfl).place (a + 1))
  refine (Q1.out.version hs ha1 hV1'.out hH1'.out hp1'.out (by rw [b1'.out]; rfl) (by rw [b1'.out]; rfl) (e' := 0) (p' := 0)).mono ?_
  rintro r W2 ⟨rfl, q⟩
  have Q2 := hide q
  clear q Q1 c0 c1 c2 c3 f1 m0 m1 m2 m3 m4 m5 g0 g1 g2 g3 g4 g5 z0 z1 z2 z3 z4 z5 k0 k1 k2 k3 k4 k5
  dsimp only
  obtain ⟨⟨c0, c1, c2, c3, f1⟩, ⟨m0, m1, m2, m3, m4, m5⟩, ⟨g0, g1, g2, g3, g4, g5⟩, ⟨z0, z1, z2, z3, z4, z5⟩, k0, k1, k2, k3, k4, k5⟩ := Q2.out.seen
  dsimp only at m0 m1 m2 m3 m4 m5
  go_wp2_with fail
  replace Q2 := hide ((Q2.out.put 1 (.string (ofL V1)) ⟨false, V1, true, false, [], false⟩ rfl).put 0 (.bool true) ⟨true, V1, true, false, [], false⟩ rfl)
  refine (Q2.out.is hs hl1 44 x3).mono ?_
  rintro r W3 ⟨rfl, q⟩
  have Q3 := hide q
  clear q Q2 c0 c1 c2 c3 f1 m0 m1 m2 m3 m4 m5 g0 g1 g2 g3 g4 g5 z0 z1 z2 z3 z4 z5 k0 k1 k2 k3 k4 k5
  dsimp only
  obtain ⟨⟨c0, c1, c2, c3, f1⟩, ⟨m0, m1, m2, m3, m4, m5⟩, ⟨g0, g1, g2, g3, g4, g5⟩, ⟨z0, z1, z2, z3, z4, z5⟩, k0, k1, k2, k3, k4, k5⟩ := Q3.out.seen
  dsimp only at m0 m1 m2 m3 m4 m5
  go_wp2_with fail
  replace Q3 := hide (Q3.out.place (p1 + 1))
  refine (Q3.out.version hs hl2b hV2'.out hH2'.out hp2'.out (by rw [b2'.out]; rfl) (by rw [b2'.out]; rfl) (e' := 0) (p' := 0)).mono ?_
  rintro r W4 ⟨rfl, q⟩
  have Q4 := hide q
  clear q Q3 c0 c1 c2 c3 f1 m0 m1 m2 m3 m4 m5 g0 g1 g2 g3 g4 g5 z0 z1 z2 z3 z4 z5 k0 k1 k2 k3 k4 k5
  dsimp only
  obtain ⟨⟨c0, c1, c2, c3, f1⟩, ⟨m0, m1, m2, m3, m4, m5⟩, ⟨g0, g1, g2, g3, g4, g5⟩, ⟨z0, z1, z2, z3, z4, z5⟩, k0, k1, k2, k3, k4, k5⟩ := Q4.out.seen
  dsimp only at m0 m1 m2 m3 m4 m5
  go_wp2_with fail
  replace Q4 := hide ((Q4.out.put 4 (.string (ofL V2)) ⟨true, V1, true, false, V2, false⟩ rfl).put 3 (.bool false) ⟨true, V1, true, false, V2, false⟩ rfl)
  refine (Q4.out.is hs hl3 93 y1).mono ?_
  rintro r W5 ⟨rfl, q⟩
  have Q5 := hide q
  clear q Q4 c0 c1 c2 c3 f1 m0 m1 m2 m3 m4 m5 g0 g1 g2 g3 g4 g5 z0 z1 z2 z3 z4 z5 k0 k1 k2 k3 k4 k5
  dsimp only
  obtain ⟨⟨c0, c1, c2, c3, f1⟩, ⟨m0, m1, m2, m3, m4, m5⟩, ⟨g0, g1, g2, g3, g4, g5⟩, ⟨z0, z1, z2, z3, z4, z5⟩, k0, k1, k2, k3, k4, k5⟩ := Q5.out.seen
  dsimp only at m0 m1 m2 m3 m4 m5
  go_wp2_with fail
  refine (Q5.out.is hs hl3 41 y2).mono ?_
  rintro r W6 ⟨rfl, q⟩
  have Q6 := hide q
  clear q Q5 c0 c1 c2 c3 f1 m0 m1 m2 m3 m4 m5 g0 g1 g2 g3 g4 g5 z0 z1 z2 z3 z4 z5 k0 k1 k2 k3 k4 k5
  dsimp only
  obtain ⟨⟨c0, c1, c2, c3, f1⟩, ⟨m0, m1, m2, m3, m4, m5⟩, ⟨g0, g1, g2, g3, g4, g5⟩, ⟨z0, z1, z2, z3, z4, z5⟩, k0, k1, k2, k3, k4, k5⟩ := Q6.out.seen
  dsimp only at m0 m1 m2 m3 m4 m5
  go_wp2_with fail
  replace Q6 := hide (Q6.out.place (p2 + 1))
  exact Q6.out.fin (by omega) (fun _ => ⟨rfl, rfl⟩) _ (by rfl)

set_option maxRecDepth 100000 in
set_option maxHeartbeats 4000000 in
theorem one_L4tfttlt (B : Nat) (s : ByteArray) (a : Nat) (p1 : Nat) (V1 : List UInt8) (p2 : Nat) (V2 : List UInt8) (C : Int) (w : World) (h : DrAt w B s a 0 0) (hs : s.size ≤ 256) (ha : a < s.size) (x1 : hdIn [91] (s.data.toList.drop a) = true) (b1 : vBad (s.data.toList.drop (a + 1)) = false) (hV1 : verAt (s.data.toList.drop (a + 1)) = V1) (hH1 : decide (V1 ≠ []) = true) (hp1 : a + 1 + vK (s.data.toList.drop (a + 1)) = p1) (hl1 : p1 ≤ s.size) (x3 : hdIn [44] (s.data.toList.drop p1) = true) (hl2 : p1 < s.size) (b2 : vBad (s.data.toList.drop (p1 + 1)) = false) (hV2 : verAt (s.data.toList.drop (p1 + 1)) = V2) (hH2 : decide (V2 ≠ []) = true) (hp2 : p1 + 1 + vK (s.data.toList.drop (p1 + 1)) = p2) (hl3 : p2 ≤ s.size) (hl4 : p2 < s.size) (y1 : hdIn [93] (s.data.toList.drop p2) = false) (y2 : hdIn [41] (s.data.toList.drop p2) = true) (hC : cmpT V1 V2 = C) (hc : C < 0) :
    Calls Tryz.prog 53 #[.pointer (some ⟨B, 0, none⟩)] w (OnePost w B s 0 0 ⟨true, V1, true, true, V2, false⟩ (p2 + 1)) := by
  have Q0 : Hid (On w B s a 0 0 ⟨false, [], false, false, [], false⟩ ((w.alloc (.cells #[.bool false, .string ⟨#[]⟩, .bool false, .bool false, .string ⟨#[]⟩, .bool false] 54)).alloc (.cells #[.bool false, .string ⟨#[]⟩, .bool false, .bool false, .string ⟨#[]⟩, .bool false] 54))) := On.start h
  have hH1' := hide hH1
  have hV1' := hide hV1
  have hp1' := hide hp1
  have b1' := hide b1
  clear hH1 hV1 hp1 b1
  have hH2' := hide hH2
  have hV2' := hide hV2
  have hp2' := hide hp2
  have b2' := hide b2
  clear hH2 hV2 hp2 b2
  have hl2b : p1 + 1 ≤ s.size := by omega
  have hC' := hide hC
  clear hC
  have hc1 : ¬ 0 < C := by omega
  have hc2 : (C == 0) = false := by simp; omega
  have hB := h.lt
  have hne1 : B ≠ w.heap.size + 1 := by omega
  have hne2 : w.heap.size + 1 ≠ B := by omega
  have hne3 : B ≠ w.heap.size := by omega
  have hne4 : w.heap.size ≠ B := by omega
  clear hB
  clear h
  obtain ⟨⟨c0, c1, c2, c3, f1⟩, ⟨m0, m1, m2, m3, m4, m5⟩, ⟨g0, g1, g2, g3, g4, g5⟩, ⟨z0, z1, z2, z3, z4, z5⟩, k0, k1, k2, k3, k4, k5⟩ := Q0.out.seen
  dsimp only at m0 m1 m2 m3 m4 m5
  have ha0 : a ≤ s.size := by omega
  have ha1 : a + 1 ≤ s.size := by omega
  go_enter Tryz.func53, Tryz.ntmps53
  go_wp2_with fail
  generalize (w.alloc (.cells #[.bool false, .string ⟨#[]⟩, .bool false, .bool false, .string ⟨#[]⟩, .bool false] 54)).alloc (.cells #[.bool false, .string ⟨#[]⟩, .bool false, .bool false, .string ⟨#[]⟩, .bool false] 54) = W0 at *
  refine (Q0.out.is hs ha0 91 x1).mono ?_
  rintro r W1 ⟨rfl, q⟩
  have Q1 := hide q
  clear q Q0 c0 c1 c2 c3 f1 m0 m1 m2 m3 m4 m5 g0 g1 g2 g3 g4 g5 z0 z1 z2 z3 z4 z5 k0 k1 k2 k3 k4 k5
  dsimp only
  obtain ⟨⟨c0, c1, c2, c3, f1⟩, ⟨m0, m1, m2, m3, m4, m5⟩, ⟨g0, g1, g2, g3, g4, g5⟩, ⟨z0, z1, z2, z3, z4, z5⟩, k0, k1, k2, k3, k4, k5⟩ := Q1.out.seen
  dsimp only at m0 m1 m2 m3 m4 m5
  go_wp2_with fail
  replace Q1 := hide ((Q1.out.put 2 (.bool true) ⟨false, [], true, false, [], false⟩ rfl).place (a + 1))
  refine (Q1.out.version hs ha1 hV1'.out hH1'.out hp1'.out (by rw [b1'.out]; rfl) (by rw [b1'.out]; rfl) (e' := 0) (p' := 0)).mono ?_
  rintro r W2 ⟨rfl, q⟩
  have Q2 := hide q
  clear q Q1 c0 c1 c2 c3 f1 m0 m1 m2 m3 m4 m5 g0 g1 g2 g3 g4 g5 z0 z1 z2 z3 z4 z5 k0 k1 k2 k3 k4 k5
  dsimp only
  obtain ⟨⟨c0, c1, c2, c3, f1⟩, ⟨m0, m1, m2, m3, m4, m5⟩, ⟨g0, g1, g2, g3, g4, g5⟩, ⟨z0, z1, z2, z3, z4, z5⟩, k0, k1, k2, k3, k4, k5⟩ := Q2.out.seen
  dsimp only at m0 m1 m2 m3 m4 m5
  go_wp2_with fail
  replace Q2 := hide ((Q2.out.put 1 (.string (ofL V1)) ⟨false, V1, true, false, [], false⟩ rfl).put 0 (.bool true) ⟨true, V1, true, false, [], false⟩ rfl)
  refine (Q2.out.is hs hl1 44 x3).mono ?_
  rintro r W3 ⟨rfl, q⟩
  have Q3 := hide q
  clear q Q2 c0 c1 c2 c3 f1 m0 m1 m2 m3 m4 m5 g0 g1 g2 g3 g4 g5 z0 z1 z2 z3 z4 z5 k0 k1 k2 k3 k4 k5
  dsimp only
  obtain ⟨⟨c0, c1, c2, c3, f1⟩, ⟨m0, m1, m2, m3, m4, m5⟩, ⟨g0, g1, g2, g3, g4, g5⟩, ⟨z0, z1, z2, z3, z4, z5⟩, k0, k1, k2, k3, k4, k5⟩ := Q3.out.seen
  dsimp only at m0 m1 m2 m3 m4 m5
  go_wp2_with fail
  replace Q3 := hide (Q3.out.place (p1 + 1))
  refine (Q3.out.version hs hl2b hV2'.out hH2'.out hp2'.out (by rw [b2'.out]; rfl) (by rw [b2'.out]; rfl) (e' := 0) (p' := 0)).mono ?_
  rintro r W4 ⟨rfl, q⟩
  have Q4 := hide q
  clear q Q3 c0 c1 c2 c3 f1 m0 m1 m2 m3 m4 m5 g0 g1 g2 g3 g4 g5 z0 z1 z2 z3 z4 z5 k0 k1 k2 k3 k4 k5
  dsimp only
  obtain ⟨⟨c0, c1, c2, c3, f1⟩, ⟨m0, m1, m2, m3, m4, m5⟩, ⟨g0, g1, g2, g3, g4, g5⟩, ⟨z0, z1, z2, z3, z4, z5⟩, k0, k1, k2, k3, k4, k5⟩ := Q4.out.seen
  dsimp only at m0 m1 m2 m3 m4 m5
  go_wp2_with fail
  replace Q4 := hide ((Q4.out.put 4 (.string (ofL V2)) ⟨true, V1, true, false, V2, false⟩ rfl).put 3 (.bool true) ⟨true, V1, true, true, V2, false⟩ rfl)
  refine (Q4.out.is hs hl3 93 y1).mono ?_
  rintro r W5 ⟨rfl, q⟩
  have Q5 := hide q
  clear q Q4 c0 c1 c2 c3 f1 m0 m1 m2 m3 m4 m5 g0 g1 g2 g3 g4 g5 z0 z1 z2 z3 z4 z5 k0 k1 k2 k3 k4 k5
  dsimp only
  obtain ⟨⟨c0, c1, c2, c3, f1⟩, ⟨m0, m1, m2, m3, m4, m5⟩, ⟨g0, g1, g2, g3, g4, g5⟩, ⟨z0, z1, z2, z3, z4, z5⟩, k0, k1, k2, k3, k4, k5⟩ := Q5.out.seen
  dsimp only at m0 m1 m2 m3 m4 m5
  go_wp2_with fail
  refine (Q5.out.is hs hl3 41 y2).mono ?_
  rintro r W6 ⟨rfl, q⟩
  have Q6 := hide q
  clear q Q5 c0 c1 c2 c3 f1 m0 m1 m2 m3 m4 m5 g0 g1 g2 g3 g4 g5 z0 z1 z2 z3 z4 z5 k0 k1 k2 k3 k4 k5
  dsimp only
  obtain ⟨⟨c0, c1, c2, c3, f1⟩, ⟨m0, m1, m2, m3, m4, m5⟩, ⟨g0, g1, g2, g3, g4, g5⟩, ⟨z0, z1, z2, z3, z4, z5⟩, k0, k1, k2, k3, k4, k5⟩ := Q6.out.seen
  dsimp only at m0 m1 m2 m3 m4 m5
  go_wp2_with fail
  replace Q6 := hide (Q6.out.place (p2 + 1))
  refine (Q6.out.cmp V1 V2 hC'.out).mono ?_
  rintro r W7 ⟨rfl, q⟩
  have Q7 := hide q
  clear q Q6 c0 c1 c2 c3 f1 m0 m1 m2 m3 m4 m5 g0 g1 g2 g3 g4 g5 z0 z1 z2 z3 z4 z5 k0 k1 k2 k3 k4 k5
  dsimp only
  obtain ⟨⟨c0, c1, c2, c3, f1⟩, ⟨m0, m1, m2, m3, m4, m5⟩, ⟨g0, g1, g2, g3, g4, g5⟩, ⟨z0, z1, z2, z3, z4, z5⟩, k0, k1, k2, k3, k4, k5⟩ := Q7.out.seen
  dsimp only at m0 m1 m2 m3 m4 m5
  go_wp2_with fail
  replace Q7 := hide Q7.out
  exact Q7.out.fin (by omega) (fun _ => ⟨rfl, rfl⟩) _ (by rfl)

set_option maxRecDepth 100000 in
set_option maxHeartbeats 4000000 in
theorem one_L4tftteq (B : Nat) (s : ByteArray) (a : Nat) (p1 : Nat) (V1 : List UInt8) (p2 : Nat) (V2 : List UInt8) (C : Int) (w : World) (h : DrAt w B s a 0 0) (hs : s.size ≤ 256) (ha : a < s.size) (x1 : hdIn [91] (s.data.toList.drop a) = true) (b1 : vBad (s.data.toList.drop (a + 1)) = false) (hV1 : verAt (s.data.toList.drop (a + 1)) = V1) (hH1 : decide (V1 ≠ []) = true) (hp1 : a + 1 + vK (s.data.toList.drop (a + 1)) = p1) (hl1 : p1 ≤ s.size) (x3 : hdIn [44] (s.data.toList.drop p1) = true) (hl2 : p1 < s.size) (b2 : vBad (s.data.toList.drop (p1 + 1)) = false) (hV2 : verAt (s.data.toList.drop (p1 + 1)) = V2) (hH2 : decide (V2 ≠ []) = true) (hp2 : p1 + 1 + vK (s.data.toList.drop (p1 + 1)) = p2) (hl3 : p2 ≤ s.size) (hl4 : p2 < s.size) (y1 : hdIn [93] (s.data.toList.drop p2) = false) (y2 : hdIn [41] (s.data.toList.drop p2) = true) (hC : cmpT V1 V2 = C) (hc : C = 0) :
    Calls Tryz.prog 53 #[.pointer (some ⟨B, 0, none⟩)] w (OnePost w B s 21 (a : Int) noM 0) := by
  have Q0 : Hid (On w B s a 0 0 ⟨false, [], false, false, [], false⟩ ((w.alloc (.cells #[.bool false, .string ⟨#[]⟩, .bool false, .bool false, .string ⟨#[]⟩, .bool false] 54)).alloc (.cells #[.bool false, .string ⟨#[]⟩, .bool false, .bool false, .string ⟨#[]⟩, .bool false] 54))) := On.start h
  have hH1' := hide hH1
  have hV1' := hide hV1
  have hp1' := hide hp1
  have b1' := hide b1
  clear hH1 hV1 hp1 b1
  have hH2' := hide hH2
  have hV2' := hide hV2
  have hp2' := hide hp2
  have b2' := hide b2
  clear hH2 hV2 hp2 b2
  have hl2b : p1 + 1 ≤ s.size := by omega
  have hC' := hide hC
  clear hC
  subst hc
  have hB := h.lt
  have hne1 : B ≠ w.heap.size + 1 := by omega
  have hne2 : w.heap.size + 1 ≠ B := by omega
  have hne3 : B ≠ w.heap.size := by omega
  have hne4 : w.heap.size ≠ B := by omega
  clear hB
  clear h
  obtain ⟨⟨c0, c1, c2, c3, f1⟩, ⟨m0, m1, m2, m3, m4, m5⟩, ⟨g0, g1, g2, g3, g4, g5⟩, ⟨z0, z1, z2, z3, z4, z5⟩, k0, k1, k2, k3, k4, k5⟩ := Q0.out.seen
  dsimp only at m0 m1 m2 m3 m4 m5
  have ha0 : a ≤ s.size := by omega
  have ha1 : a + 1 ≤ s.size := by omega
  go_enter Tryz.func53, Tryz.ntmps53
  go_wp2_with fail
  generalize (w.alloc (.cells #[.bool false, .string ⟨#[]⟩, .bool false, .bool false, .string ⟨#[]⟩, .bool false] 54)).alloc (.cells #[.bool false, .string ⟨#[]⟩, .bool false, .bool false, .string ⟨#[]⟩, .bool false] 54) = W0 at *
  refine (Q0.out.is hs ha0 91 x1).mono ?_
  rintro r W1 ⟨rfl, q⟩
  have Q1 := hide q
  clear q Q0 c0 c1 c2 c3 f1 m0 m1 m2 m3 m4 m5 g0 g1 g2 g3 g4 g5 z0 z1 z2 z3 z4 z5 k0 k1 k2 k3 k4 k5
  dsimp only
  obtain ⟨⟨c0, c1, c2, c3, f1⟩, ⟨m0, m1, m2, m3, m4, m5⟩, ⟨g0, g1, g2, g3, g4, g5⟩, ⟨z0, z1, z2, z3, z4, z5⟩, k0, k1, k2, k3, k4, k5⟩ := Q1.out.seen
  dsimp only at m0 m1 m2 m3 m4 m5
  go_wp2_with fail
  replace Q1 := hide ((Q1.out.put 2 (.bool true) ⟨false, [], true, false, [], false⟩ rfl).place (a + 1))
  refine (Q1.out.version hs ha1 hV1'.out hH1'.out hp1'.out (by rw [b1'.out]; rfl) (by rw [b1'.out]; rfl) (e' := 0) (p' := 0)).mono ?_
  rintro r W2 ⟨rfl, q⟩
  have Q2 := hide q
  clear q Q1 c0 c1 c2 c3 f1 m0 m1 m2 m3 m4 m5 g0 g1 g2 g3 g4 g5 z0 z1 z2 z3 z4 z5 k0 k1 k2 k3 k4 k5
  dsimp only
  obtain ⟨⟨c0, c1, c2, c3, f1⟩, ⟨m0, m1, m2, m3, m4, m5⟩, ⟨g0, g1, g2, g3, g4, g5⟩, ⟨z0, z1, z2, z3, z4, z5⟩, k0, k1, k2, k3, k4, k5⟩ := Q2.out.seen
  dsimp only at m0 m1 m2 m3 m4 m5
  go_wp2_with fail
  replace Q2 := hide ((Q2.out.put 1 (.string (ofL V1)) ⟨false, V1, true, false, [], false⟩ rfl).put 0 (.bool true) ⟨true, V1, true, false, [], false⟩ rfl)
  refine (Q2.out.is hs hl1 44 x3).mono ?_
  rintro r W3 ⟨rfl, q⟩
  have Q3 := hide q
  clear q Q2 c0 c1 c2 c3 f1 m0 m1 m2 m3 m4 m5 g0 g1 g2 g3 g4 g5 z0 z1 z2 z3 z4 z5 k0 k1 k2 k3 k4 k5
  dsimp only
  obtain ⟨⟨c0, c1, c2, c3, f1⟩, ⟨m0, m1, m2, m3, m4, m5⟩, ⟨g0, g1, g2, g3, g4, g5⟩, ⟨z0, z1, z2, z3, z4, z5⟩, k0, k1, k2, k3, k4, k5⟩ := Q3.out.seen
  dsimp only at m0 m1 m2 m3 m4 m5
  go_wp2_with fail
  replace Q3 := hide (Q3.out.place (p1 + 1))
  refine (Q3.out.version hs hl2b hV2'.out hH2'.out hp2'.out (by rw [b2'.out]; rfl) (by rw [b2'.out]; rfl) (e' := 0) (p' := 0)).mono ?_
  rintro r W4 ⟨rfl, q⟩
  have Q4 := hide q
  clear q Q3 c0 c1 c2 c3 f1 m0 m1 m2 m3 m4 m5 g0 g1 g2 g3 g4 g5 z0 z1 z2 z3 z4 z5 k0 k1 k2 k3 k4 k5
  dsimp only
  obtain ⟨⟨c0, c1, c2, c3, f1⟩, ⟨m0, m1, m2, m3, m4, m5⟩, ⟨g0, g1, g2, g3, g4, g5⟩, ⟨z0, z1, z2, z3, z4, z5⟩, k0, k1, k2, k3, k4, k5⟩ := Q4.out.seen
  dsimp only at m0 m1 m2 m3 m4 m5
  go_wp2_with fail
  replace Q4 := hide ((Q4.out.put 4 (.string (ofL V2)) ⟨true, V1, true, false, V2, false⟩ rfl).put 3 (.bool true) ⟨true, V1, true, true, V2, false⟩ rfl)
  refine (Q4.out.is hs hl3 93 y1).mono ?_
  rintro r W5 ⟨rfl, q⟩
  have Q5 := hide q
  clear q Q4 c0 c1 c2 c3 f1 m0 m1 m2 m3 m4 m5 g0 g1 g2 g3 g4 g5 z0 z1 z2 z3 z4 z5 k0 k1 k2 k3 k4 k5
  dsimp only
  obtain ⟨⟨c0, c1, c2, c3, f1⟩, ⟨m0, m1, m2, m3, m4, m5⟩, ⟨g0, g1, g2, g3, g4, g5⟩, ⟨z0, z1, z2, z3, z4, z5⟩, k0, k1, k2, k3, k4, k5⟩ := Q5.out.seen
  dsimp only at m0 m1 m2 m3 m4 m5
  go_wp2_with fail
  refine (Q5.out.is hs hl3 41 y2).mono ?_
  rintro r W6 ⟨rfl, q⟩
  have Q6 := hide q
  clear q Q5 c0 c1 c2 c3 f1 m0 m1 m2 m3 m4 m5 g0 g1 g2 g3 g4 g5 z0 z1 z2 z3 z4 z5 k0 k1 k2 k3 k4 k5
  dsimp only
  obtain ⟨⟨c0, c1, c2, c3, f1⟩, ⟨m0, m1, m2, m3, m4, m5⟩, ⟨g0, g1, g2, g3, g4, g5⟩, ⟨z0, z1, z2, z3, z4, z5⟩, k0, k1, k2, k3, k4, k5⟩ := Q6.out.seen
  dsimp only at m0 m1 m2 m3 m4 m5
  go_wp2_with fail
  replace Q6 := hide (Q6.out.place (p2 + 1))
  refine (Q6.out.cmp V1 V2 hC'.out).mono ?_
  rintro r W7 ⟨rfl, q⟩
  have Q7 := hide q
  clear q Q6 c0 c1 c2 c3 f1 m0 m1 m2 m3 m4 m5 g0 g1 g2 g3 g4 g5 z0 z1 z2 z3 z4 z5 k0 k1 k2 k3 k4 k5
  dsimp only
  obtain ⟨⟨c0, c1, c2, c3, f1⟩, ⟨m0, m1, m2, m3, m4, m5⟩, ⟨g0, g1, g2, g3, g4, g5⟩, ⟨z0, z1, z2, z3, z4, z5⟩, k0, k1, k2, k3, k4, k5⟩ := Q7.out.seen
  dsimp only at m0 m1 m2 m3 m4 m5
  go_wp2_with fail
  replace Q7 := hide Q7.out
  refine (Q7.out.fail 21 (a : Int)).mono ?_
  rintro r W8 ⟨rfl, q⟩
  have Q8 := hide q
  clear q Q7 c0 c1 c2 c3 f1 m0 m1 m2 m3 m4 m5 g0 g1 g2 g3 g4 g5 z0 z1 z2 z3 z4 z5 k0 k1 k2 k3 k4 k5
  dsimp only
  obtain ⟨⟨c0, c1, c2, c3, f1⟩, ⟨m0, m1, m2, m3, m4, m5⟩, ⟨g0, g1, g2, g3, g4, g5⟩, ⟨z0, z1, z2, z3, z4, z5⟩, k0, k1, k2, k3, k4, k5⟩ := Q8.out.seen
  dsimp only at m0 m1 m2 m3 m4 m5
  go_wp2_with fail
  replace Q8 := hide Q8.out
  exact Q8.out.fin (by omega) (fun h => absurd h (by decide)) _ (by rfl)

set_option maxRecDepth 100000 in
set_option maxHeartbeats 4000000 in
theorem one_L4tfttgt (B : Nat) (s : ByteArray) (a : Nat) (p1 : Nat) (V1 : List UInt8) (p2 : Nat) (V2 : List UInt8) (C : Int) (w : World) (h : DrAt w B s a 0 0) (hs : s.size ≤ 256) (ha : a < s.size) (x1 : hdIn [91] (s.data.toList.drop a) = true) (b1 : vBad (s.data.toList.drop (a + 1)) = false) (hV1 : verAt (s.data.toList.drop (a + 1)) = V1) (hH1 : decide (V1 ≠ []) = true) (hp1 : a + 1 + vK (s.data.toList.drop (a + 1)) = p1) (hl1 : p1 ≤ s.size) (x3 : hdIn [44] (s.data.toList.drop p1) = true) (hl2 : p1 < s.size) (b2 : vBad (s.data.toList.drop (p1 + 1)) = false) (hV2 : verAt (s.data.toList.drop (p1 + 1)) = V2) (hH2 : decide (V2 ≠ []) = true) (hp2 : p1 + 1 + vK (s.data.toList.drop (p1 + 1)) = p2) (hl3 : p2 ≤ s.size) (hl4 : p2 < s.size) (y1 : hdIn [93] (s.data.toList.drop p2) = false) (y2 : hdIn [41] (s.data.toList.drop p2) = true) (hC : cmpT V1 V2 = C) (hc : 0 < C) :
    Calls Tryz.prog 53 #[.pointer (some ⟨B, 0, none⟩)] w (OnePost w B s 21 (a : Int) noM 0) := by
  have Q0 : Hid (On w B s a 0 0 ⟨false, [], false, false, [], false⟩ ((w.alloc (.cells #[.bool false, .string ⟨#[]⟩, .bool false, .bool false, .string ⟨#[]⟩, .bool false] 54)).alloc (.cells #[.bool false, .string ⟨#[]⟩, .bool false, .bool false, .string ⟨#[]⟩, .bool false] 54))) := On.start h
  have hH1' := hide hH1
  have hV1' := hide hV1
  have hp1' := hide hp1
  have b1' := hide b1
  clear hH1 hV1 hp1 b1
  have hH2' := hide hH2
  have hV2' := hide hV2
  have hp2' := hide hp2
  have b2' := hide b2
  clear hH2 hV2 hp2 b2
  have hl2b : p1 + 1 ≤ s.size := by omega
  have hC' := hide hC
  clear hC
  have hc2 : (C == 0) = false := by simp; omega
  have hB := h.lt
  have hne1 : B ≠ w.heap.size + 1 := by omega
  have hne2 : w.heap.size + 1 ≠ B := by omega
  have hne3 : B ≠ w.heap.size := by omega
  have hne4 : w.heap.size ≠ B := by omega
  clear hB
  clear h
  obtain ⟨⟨c0, c1, c2, c3, f1⟩, ⟨m0, m1, m2, m3, m4, m5⟩, ⟨g0, g1, g2, g3, g4, g5⟩, ⟨z0, z1, z2, z3, z4, z5⟩, k0, k1, k2, k3, k4, k5⟩ := Q0.out.seen
  dsimp only at m0 m1 m2 m3 m4 m5
  have ha0 : a ≤ s.size := by omega
  have ha1 : a + 1 ≤ s.size := by omega
  go_enter Tryz.func53, Tryz.ntmps53
  go_wp2_with fail
  generalize (w.alloc (.cells #[.bool false, .string ⟨#[]⟩, .bool false, .bool false, .string ⟨#[]⟩, .bool false] 54)).alloc (.cells #[.bool false, .string ⟨#[]⟩, .bool false, .bool false, .string ⟨#[]⟩, .bool false] 54) = W0 at *
  refine (Q0.out.is hs ha0 91 x1).mono ?_
  rintro r W1 ⟨rfl, q⟩
  have Q1 := hide q
  clear q Q0 c0 c1 c2 c3 f1 m0 m1 m2 m3 m4 m5 g0 g1 g2 g3 g4 g5 z0 z1 z2 z3 z4 z5 k0 k1 k2 k3 k4 k5
  dsimp only
  obtain ⟨⟨c0, c1, c2, c3, f1⟩, ⟨m0, m1, m2, m3, m4, m5⟩, ⟨g0, g1, g2, g3, g4, g5⟩, ⟨z0, z1, z2, z3, z4, z5⟩, k0, k1, k2, k3, k4, k5⟩ := Q1.out.seen
  dsimp only at m0 m1 m2 m3 m4 m5
  go_wp2_with fail
  replace Q1 := hide ((Q1.out.put 2 (.bool true) ⟨false, [], true, false, [], false⟩ rfl).place (a + 1))
  refine (Q1.out.version hs ha1 hV1'.out hH1'.out hp1'.out (by rw [b1'.out]; rfl) (by rw [b1'.out]; rfl) (e' := 0) (p' := 0)).mono ?_
  rintro r W2 ⟨rfl, q⟩
  have Q2 := hide q
  clear q Q1 c0 c1 c2 c3 f1 m0 m1 m2 m3 m4 m5 g0 g1 g2 g3 g4 g5 z0 z1 z2 z3 z4 z5 k0 k1 k2 k3 k4 k5
  dsimp only
  obtain ⟨⟨c0, c1, c2, c3, f1⟩, ⟨m0, m1, m2, m3, m4, m5⟩, ⟨g0, g1, g2, g3, g4, g5⟩, ⟨z0, z1, z2, z3, z4, z5⟩, k0, k1, k2, k3, k4, k5⟩ := Q2.out.seen
  dsimp only at m0 m1 m2 m3 m4 m5
  go_wp2_with fail
  replace Q2 := hide ((Q2.out.put 1 (.string (ofL V1)) ⟨false, V1, true, false, [], false⟩ rfl).put 0 (.bool true) ⟨true, V1, true, false, [], false⟩ rfl)
  refine (Q2.out.is hs hl1 44 x3).mono ?_
  rintro r W3 ⟨rfl, q⟩
  have Q3 := hide q
  clear q Q2 c0 c1 c2 c3 f1 m0 m1 m2 m3 m4 m5 g0 g1 g2 g3 g4 g5 z0 z1 z2 z3 z4 z5 k0 k1 k2 k3 k4 k5
  dsimp only
  obtain ⟨⟨c0, c1, c2, c3, f1⟩, ⟨m0, m1, m2, m3, m4, m5⟩, ⟨g0, g1, g2, g3, g4, g5⟩, ⟨z0, z1, z2, z3, z4, z5⟩, k0, k1, k2, k3, k4, k5⟩ := Q3.out.seen
  dsimp only at m0 m1 m2 m3 m4 m5
  go_wp2_with fail
  replace Q3 := hide (Q3.out.place (p1 + 1))
  refine (Q3.out.version hs hl2b hV2'.out hH2'.out hp2'.out (by rw [b2'.out]; rfl) (by rw [b2'.out]; rfl) (e' := 0) (p' := 0)).mono ?_
  rintro r W4 ⟨rfl, q⟩
  have Q4 := hide q
  clear q Q3 c0 c1 c2 c3 f1 m0 m1 m2 m3 m4 m5 g0 g1 g2 g3 g4 g5 z0 z1 z2 z3 z4 z5 k0 k1 k2 k3 k4 k5
  dsimp only
  obtain ⟨⟨c0, c1, c2, c3, f1⟩, ⟨m0, m1, m2, m3, m4, m5⟩, ⟨g0, g1, g2, g3, g4, g5⟩, ⟨z0, z1, z2, z3, z4, z5⟩, k0, k1, k2, k3, k4, k5⟩ := Q4.out.seen
  dsimp only at m0 m1 m2 m3 m4 m5
  go_wp2_with fail
  replace Q4 := hide ((Q4.out.put 4 (.string (ofL V2)) ⟨true, V1, true, false, V2, false⟩ rfl).put 3 (.bool true) ⟨true, V1, true, true, V2, false⟩ rfl)
  refine (Q4.out.is hs hl3 93 y1).mono ?_
  rintro r W5 ⟨rfl, q⟩
  have Q5 := hide q
  clear q Q4 c0 c1 c2 c3 f1 m0 m1 m2 m3 m4 m5 g0 g1 g2 g3 g4 g5 z0 z1 z2 z3 z4 z5 k0 k1 k2 k3 k4 k5
  dsimp only
  obtain ⟨⟨c0, c1, c2, c3, f1⟩, ⟨m0, m1, m2, m3, m4, m5⟩, ⟨g0, g1, g2, g3, g4, g5⟩, ⟨z0, z1, z2, z3, z4, z5⟩, k0, k1, k2, k3, k4, k5⟩ := Q5.out.seen
  dsimp only at m0 m1 m2 m3 m4 m5
  go_wp2_with fail
  refine (Q5.out.is hs hl3 41 y2).mono ?_
  rintro r W6 ⟨rfl, q⟩
  have Q6 := hide q
  clear q Q5 c0 c1 c2 c3 f1 m0 m1 m2 m3 m4 m5 g0 g1 g2 g3 g4 g5 z0 z1 z2 z3 z4 z5 k0 k1 k2 k3 k4 k5
  dsimp only
  obtain ⟨⟨c0, c1, c2, c3, f1⟩, ⟨m0, m1, m2, m3, m4, m5⟩, ⟨g0, g1, g2, g3, g4, g5⟩, ⟨z0, z1, z2, z3, z4, z5⟩, k0, k1, k2, k3, k4, k5⟩ := Q6.out.seen
  dsimp only at m0 m1 m2 m3 m4 m5
  go_wp2_with fail
  replace Q6 := hide (Q6.out.place (p2 + 1))
  refine (Q6.out.cmp V1 V2 hC'.out).mono ?_
  rintro r W7 ⟨rfl, q⟩
  have Q7 := hide q
  clear q Q6 c0 c1 c2 c3 f1 m0 m1 m2 m3 m4 m5 g0 g1 g2 g3 g4 g5 z0 z1 z2 z3 z4 z5 k0 k1 k2 k3 k4 k5
  dsimp only
  obtain ⟨⟨c0, c1, c2, c3, f1⟩, ⟨m0, m1, m2, m3, m4, m5⟩, ⟨g0, g1, g2, g3, g4, g5⟩, ⟨z0, z1, z2, z3, z4, z5⟩, k0, k1, k2, k3, k4, k5⟩ := Q7.out.seen
  dsimp only at m0 m1 m2 m3 m4 m5
  go_wp2_with fail
  replace Q7 := hide Q7.out
  refine (Q7.out.fail 21 (a : Int)).mono ?_
  rintro r W8 ⟨rfl, q⟩
  have Q8 := hide q
  clear q Q7 c0 c1 c2 c3 f1 m0 m1 m2 m3 m4 m5 g0 g1 g2 g3 g4 g5 z0 z1 z2 z3 z4 z5 k0 k1 k2 k3 k4 k5
  dsimp only
  obtain ⟨⟨c0, c1, c2, c3, f1⟩, ⟨m0, m1, m2, m3, m4, m5⟩, ⟨g0, g1, g2, g3, g4, g5⟩, ⟨z0, z1, z2, z3, z4, z5⟩, k0, k1, k2, k3, k4, k5⟩ := Q8.out.seen
  dsimp only at m0 m1 m2 m3 m4 m5
  go_wp2_with fail
  replace Q8 := hide Q8.out
  exact Q8.out.fin (by omega) (fun h => absurd h (by decide)) _ (by rfl)

end Go.Proofs.YtpedljmpobhimaaGreatDoor
