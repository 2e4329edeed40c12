/-
  The walk of SemverWrites.
-/
import Derived.Test.YtkngmgdcnplkgaaFg
import Derived.Test.YtkngmgdcnplkgaaFe
import Derived.Test.YtkngmgdcnplkgaaSh
import Derived.Deep.RegionHeld3
namespace Go.Proofs.Ytkngmgdcnplkgaa
open Go.RowKit Go.Shelf
set_option linter.unusedVariables false

theorem nextW_short (x : SemL) (p : Int) (h1 : x.maj.length ≤ 140737488355328) (h2 : x.min.length ≤ 140737488355328) (h3 : x.pat.length ≤ 140737488355328) : ShortS (nextW x p) := by
  have hn : ShortS semN := ⟨by simp [semN], by simp [semN], by simp [semN], ⟨by simp [semN], by simp [semN]⟩, ⟨by simp [semN], by simp [semN]⟩⟩
  unfold nextW
  split
  · split
    · split
      · exact rais_short x p h1 h2 h3
      · exact hn
    · exact hn
  · exact hn

set_option maxRecDepth 100000 in
set_option maxHeartbeats 2000000 in
theorem writes_walk (AW : ∀ w, Calls Try.prog 14 #[] w fun e w' => e = .returned (.bool true) ∧ Below w.heap.size w w') (v : Value) (x : SemL) (p : Int) (w : World) (hv : SemAt w v x) (hc : CapS v) (hl : lenS x ≤ 1048576) :
    Calls Try.prog 4 #[v, .int .i64 p] w fun e w' => e = .returned (.bool true) ∧ Below w.heap.size w w' := by
  have sx := short_of x hl
  have hl0 := hl
  unfold lenS at hl0
  have A1 := hide AW
  have F1 := hide (fun W (hW : Below w.heap.size w W) => Fit_any v x W (hv.below hW) sx)
  have F2 := hide (fun W (hW : Below w.heap.size w W) => rFit_any v x W (hv.below hW) hl)
  have G1 := hide (fun W (hW : Below w.heap.size w W) => Format_any v x W (hv.below hW) hc hl)
  have G2 := hide (fun W (hW : Below w.heap.size w W) => (show Calls Try.prog 18 #[v] W fun e w' => e = .returned (.string (ofL (fmtL x))) ∧ Below W.heap.size W w' from rFormat_any v x W (hv.below hW) hl))
  have SN := hide (nextW_short x p (by omega) (by omega) (by omega))
  have N1 := hide (fun W (hW : Below w.heap.size w W) => NextV_any v x p W (hv.below hW) sx (by omega) (by omega) (by omega))
  have N2 := hide (fun W (hW : Below w.heap.size w W) => rNextV_any v x p W (hv.below hW) hl)
  obtain ⟨vp, vb, rfl, ⟨a1, c1, rfl, _⟩, ⟨a2, c2, rfl, _⟩⟩ := hv
  clear AW hc sx hl0
  generalize fitW x = F at *
  generalize ofL (fmtL x) = T at *
  generalize nextW x p = Y at *
  have b0 := (Below.refl w.heap.size w).alloc (Nat.le_refl _) (.cells #[.string (ofL x.maj), .string (ofL x.min), .string (ofL x.pat), .slice a1 x.pre.length c1, .slice a2 x.bld.length c2] 24)
  have kk := World.alloc_heap_new w (.cells #[.string (ofL x.maj), .string (ofL x.min), .string (ofL x.pat), .slice a1 x.pre.length c1, .slice a2 x.bld.length c2] 24)
  go_enter Try.func4, Try.ntmps4
  go_wp2_with fail
  generalize hw0 : w.alloc (.cells #[.string (ofL x.maj), .string (ofL x.min), .string (ofL x.pat), .slice a1 x.pre.length c1, .slice a2 x.bld.length c2] 24) = w0 at *
  clear hw0
  obtain ⟨m0, m1, m2, m3, m4⟩ := seen5 kk
  have B0 : Below w.heap.size w w0.drew := b0.drew
  have k0 : w0.drew.heap[w.heap.size]? = some (.cells #[.string (ofL x.maj), .string (ofL x.min), .string (ofL x.pat), .slice a1 x.pre.length c1, .slice a2 x.bld.length c2] 24 (0, 0)) := kk
  have hz0 := (Array.getElem?_eq_some_iff.1 k0).1
  clear kk b0
  go_region_held3 (fun w' => w'.cell? ⟨w.heap.size, 0, none⟩ = some (.string (ofL x.maj)) ∧ w'.cell? ⟨w.heap.size, 1, none⟩ = some (.string (ofL x.min)) ∧ w'.cell? ⟨w.heap.size, 2, none⟩ = some (.string (ofL x.pat)) ∧ w'.cell? ⟨w.heap.size, 3, none⟩ = some (.slice a1 x.pre.length c1) ∧ w'.cell? ⟨w.heap.size, 4, none⟩ = some (.slice a2 x.bld.length c2)) (go_keep)
    ((first
      | (go_at_call 15; refine (F1.out _ B0).mono ?_; rintro e w1 ⟨rfl, b1⟩; have B1 := B0.trans (b1.mono B0.size); have k1 := (b1.block w.heap.size hz0).trans k0; have hz1 := (Array.getElem?_eq_some_iff.1 k1).1; obtain ⟨m0, m1, m2, m3, m4⟩ := seen5 k1)
      | (go_at_call 16; refine (F2.out _ B1).mono ?_; rintro e w2 ⟨rfl, b2⟩; have B2 := B1.trans (b2.mono B1.size); have k2 := (b2.block w.heap.size hz1).trans k1; have hz2 := (Array.getElem?_eq_some_iff.1 k2).1; obtain ⟨m0, m1, m2, m3, m4⟩ := seen5 k2)
      | (go_at_call 17; refine (G1.out _ B2).mono ?_; rintro e w3 ⟨rfl, b3⟩; have B3 := B2.trans (b3.mono B2.size); have k3 := (b3.block w.heap.size hz2).trans k2; have hz3 := (Array.getElem?_eq_some_iff.1 k3).1; obtain ⟨m0, m1, m2, m3, m4⟩ := seen5 k3)
      | (go_at_call 18; refine (G2.out _ B3).mono ?_; rintro e w4 ⟨rfl, b4⟩; have B4 := B3.trans (b4.mono B3.size); have k4 := (b4.block w.heap.size hz3).trans k3; have hz4 := (Array.getElem?_eq_some_iff.1 k4).1; obtain ⟨m0, m1, m2, m3, m4⟩ := seen5 k4)
      | (go_at_call 19; refine (N1.out _ B4).mono ?_; rintro e w5 ⟨b5, u5, rfl, hu5⟩; have B5 := B4.trans (b5.mono B4.size); have k5 := (b5.block w.heap.size hz4).trans k4; have hz5 := (Array.getElem?_eq_some_iff.1 k5).1; obtain ⟨m0, m1, m2, m3, m4⟩ := seen5 k5)
      | (go_at_call 20; refine (N2.out _ B5).mono ?_; rintro e w6 ⟨b6, u6, rfl, hu6⟩; have B6 := B5.trans (b6.mono B5.size); have k6 := (b6.block w.heap.size hz5).trans k5; have hz6 := (Array.getElem?_eq_some_iff.1 k6).1; obtain ⟨m0, m1, m2, m3, m4⟩ := seen5 k6)
      | (go_at_call 11; refine (Same_eq u5 u6 Y w6 (hu5.below b6) hu6 SN.out).mono ?_; rintro e w7 ⟨rfl, b7⟩; have B7 := B6.trans (b7.mono B6.size); have k7 := (b7.block w.heap.size hz6).trans k6; have hz7 := (Array.getElem?_eq_some_iff.1 k7).1; obtain ⟨m0, m1, m2, m3, m4⟩ := seen5 k7)
      | (go_at_call 14; refine (A1.out _).mono ?_; rintro e w8 ⟨rfl, b8⟩; have B8 := B7.trans (b8.mono B7.size); have k8 := (b8.block w.heap.size hz7).trans k7; have hz8 := (Array.getElem?_eq_some_iff.1 k8).1; obtain ⟨m0, m1, m2, m3, m4⟩ := seen5 k8)
      | fail))
  go_wp2_with fail
  go_ret
  exact ⟨rfl, B8⟩

end Go.Proofs.Ytkngmgdcnplkgaa
