/-
  The walk of SemverReads.
-/
import Derived.Test.YtkngmgdcnplkgaaRi
import Derived.Test.YtkngmgdcnplkgaaSh
namespace Go.Proofs.Ytkngmgdcnplkgaa
open Go.RowKit Go.Shelf
set_option linter.unusedVariables false

set_option maxRecDepth 100000 in
set_option maxHeartbeats 2000000 in
theorem reads_walk (PA : ∀ (s : ByteArray) (w : World), s.size ≤ 64 → Calls Try.prog 9 #[.string s] w (PPost s w)) (s : ByteArray) (w : World) :
    Calls Try.prog 3 #[.string s] w fun e w' => e = .returned (.bool true) ∧ Below w.heap.size w w' := by
  have P1 := hide (Parse_two PA s w)
  have R1 := hide (fun W => rParse_any s W)
  have C1 := hide (fun W => Canon_any PA s W)
  have C2 := hide (fun W => rCanon_any s W)
  have A1 := hide (fun W => awake_any PA W)
  have sx := semP_short s.data.toList
  generalize semP s.data.toList = x at *
  generalize fauP s.data.toList = f at *
  generalize canonL s.data.toList = C at *
  obtain ⟨f1, f2⟩ := f
  simp only at P1 R1
  go_enter Try.func3, Try.ntmps3
  go_wp2_with fail
  refine P1.out.mono ?_
  rintro e w1 ⟨b1, v1, rfl, hv1⟩
  have V1 := hide hv1.toAt
  obtain ⟨vp1, vb1, rfl, ⟨a1, c1, rfl, _⟩, ⟨a2, c2, rfl, _⟩, _, _⟩ := hv1
  go_wp2_with fail
  have b2 := ((Below.refl w1.heap.size w1).alloc (Nat.le_refl _) (.cells #[.string (ofL x.maj), .string (ofL x.min), .string (ofL x.pat), .slice a1 x.pre.length c1, .slice a2 x.bld.length c2] 24)).alloc (by simp) (.cells #[.int .i64 f1, .int .i64 (f2 : Int)] 27)
  have k1 := World.alloc_heap_new w1 (.cells #[.string (ofL x.maj), .string (ofL x.min), .string (ofL x.pat), .slice a1 x.pre.length c1, .slice a2 x.bld.length c2] 24)
  have k2 := World.alloc_heap_new (w1.alloc (.cells #[.string (ofL x.maj), .string (ofL x.min), .string (ofL x.pat), .slice a1 x.pre.length c1, .slice a2 x.bld.length c2] 24)) (.cells #[.int .i64 f1, .int .i64 (f2 : Int)] 27)
  simp only [World.size_alloc] at k2
  have k1' := hide ((Below.heap_alloc (w1.alloc (.cells #[.string (ofL x.maj), .string (ofL x.min), .string (ofL x.pat), .slice a1 x.pre.length c1, .slice a2 x.bld.length c2] 24)) (.cells #[.int .i64 f1, .int .i64 (f2 : Int)] 27) w1.heap.size (by simp)).trans k1)
  have k2' := hide k2
  clear k1 k2
  refine (R1.out _).mono ?_
  rintro e w3 ⟨b3, v3, rfl, hv3⟩
  simp only [World.size_alloc] at b3
  have V3 := hide hv3.toAt
  obtain ⟨vp3, vb3, rfl, ⟨a3, c3, rfl, _⟩, ⟨a4, c4, rfl, _⟩, _, _⟩ := hv3
  have b13 := b2.trans (b3.mono (by omega))
  have B3 := b1.trans (b13.mono b1.size)
  have g1 := (b3.block w1.heap.size (by omega)).trans k1'.out
  have g2 := (b3.block (w1.heap.size + 1) (by omega)).trans k2'.out
  have hlt1 := (Array.getElem?_eq_some_iff.1 g1).1
  have hlt2 := (Array.getElem?_eq_some_iff.1 g2).1
  obtain ⟨q0, q1, q2, q3, q4⟩ := seen5 g1
  have y2 := cell_at 0 g2 rfl
  have y3 := cell_at 1 g2 rfl
  have G2 := hide g2
  clear g1 g2 k1' k2'
  go_wp2_with fail
  have b4 := ((Below.refl w3.heap.size w3).alloc (Nat.le_refl _) (.cells #[.string (ofL x.maj), .string (ofL x.min), .string (ofL x.pat), .slice a3 x.pre.length c3, .slice a4 x.bld.length c4] 24)).alloc (by simp) (.cells #[.int .i64 f1, .int .i64 (f2 : Int)] 27)
  refine (Same_eq _ _ x _ (V1.out.below (b13.trans (b4.mono b13.size))) (V3.out.below b4) sx).mono ?_
  rintro e w5 ⟨rfl, b5⟩
  simp only [World.size_alloc] at b5
  have B4 := B3.trans (b4.mono B3.size)
  have B5 := B4.trans (b5.mono (by have := B3.size; omega))
  have m2 := World.alloc_heap_new (w3.alloc (.cells #[.string (ofL x.maj), .string (ofL x.min), .string (ofL x.pat), .slice a3 x.pre.length c3, .slice a4 x.bld.length c4] 24)) (.cells #[.int .i64 f1, .int .i64 (f2 : Int)] 27)
  simp only [World.size_alloc] at m2
  have m3 := (b5.block (w3.heap.size + 1) (by omega)).trans m2
  have m4 := (b5.block (w1.heap.size + 1) (by omega)).trans ((b4.block (w1.heap.size + 1) (by omega)).trans G2.out)
  have n2 := cell_at 0 m3 rfl
  have n3 := cell_at 1 m3 rfl
  have n4 := cell_at 0 m4 rfl
  have n5 := cell_at 1 m4 rfl
  clear q0 q1 q2 q3 q4 y2 y3 m2 m3 m4
  go_wp2_with fail
  refine (C1.out _).mono ?_
  rintro e w6 ⟨rfl, b6⟩
  go_wp2_with fail
  refine (C2.out _).mono ?_
  rintro e w7 ⟨rfl, b7⟩
  go_wp2_with fail
  refine (A1.out _).mono ?_
  rintro e w8 ⟨rfl, b8⟩
  go_wp2_with fail
  go_ret
  have B6 := B5.trans (b6.mono B5.size)
  have B7 := B6.trans (b7.mono B6.size)
  exact ⟨rfl, B7.trans (b8.mono B7.size)⟩

end Go.Proofs.Ytkngmgdcnplkgaa
