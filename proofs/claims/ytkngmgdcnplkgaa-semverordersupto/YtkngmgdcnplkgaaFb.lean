/-
  Walks: which versions are fit.
-/
import Derived.Test.YtkngmgdcnplkgaaFa
namespace Go.Proofs.Ytkngmgdcnplkgaa
open Go.RowKit
set_option linter.unusedVariables false

set_option maxRecDepth 100000 in
set_option maxHeartbeats 1000000 in
theorem Fit_any (v : Value) (x : SemL) (w : World) (hv : SemAt w v x) (sx : ShortS x) :
    Calls Try.prog 15 #[v] w fun e w' => e = .returned (.bool (fitW x)) ∧ Below w.heap.size w w' := by
  have HS := hide (fun W (hW : Below w.heap.size w W) => size_any v x W (hv.below hW) sx)
  obtain ⟨p1, q1, rfl, t1, u1⟩ := hv
  obtain ⟨a1, c1, rfl, hx1⟩ := id t1
  obtain ⟨a2, c2, rfl, hx2⟩ := id u1
  clear hx1 hx2
  have C1 := hide (fun w => num_ofL x.maj w sx.1)
  have C2 := hide (fun w => num_ofL x.min w sx.2.1)
  have C3 := hide (fun w => num_ofL x.pat w sx.2.2.1)
  have C4 := hide (fun W (hW : Below w.heap.size w W) => all_any 38 preB pre_ofL (.inl rfl) _ x.pre W (t1.below hW) sx.2.2.2.1)
  have C5 := hide (fun W (hW : Below w.heap.size w W) => all_any 39 idB id_ofL (.inr rfl) _ x.bld W (u1.below hW) sx.2.2.2.2)
  have HF : Hid (fitW x = (decide (wrap64 (lenS x : Int) ≤ 64) && numB x.maj && numB x.min && numB x.pat && x.pre.all preB && x.bld.all idB)) := rfl
  generalize fitW x = F at *
  generalize wrap64 (lenS x : Int) = N at *
  generalize numB x.maj = d1 at *
  generalize numB x.min = d2 at *
  generalize numB x.pat = d3 at *
  generalize x.pre.all preB = d4 at *
  generalize x.bld.all idB = d5 at *
  clear t1 u1 sx
  have b0 : Below w.heap.size w (w.alloc (.cells #[.string (ofL x.maj), .string (ofL x.min), .string (ofL x.pat), .slice a1 x.pre.length c1, .slice a2 x.bld.length c2] 24)) := (Below.refl _ w).alloc (Nat.le_refl _) _
  generalize hNd : decide (N ≤ 64) = D at *
  cases D
  rotate_left
  · cases d1
    · go_enter Try.func15, Try.ntmps15
      go_wp2_with fail
      refine (HS.out _ b0).mono ?_
      rintro e w1 ⟨rfl, b1⟩
      have b2 : Below w.heap.size w w1 := b0.trans (b1.mono (by simp))
      have e1 := (b1.block w.heap.size (by simp)).trans (World.alloc_heap_new w _)
      have r0 := cell_at 0 e1 rfl
      have r1 := cell_at 1 e1 rfl
      have r2 := cell_at 2 e1 rfl
      have r3 := cell_at 3 e1 rfl
      have r4 := cell_at 4 e1 rfl
      clear b1 e1
      go_wp2_with fail
      refine (C1.out _).mono ?_
      rintro e w' ⟨rfl, hw'⟩
      rw [hw']
      clear hw' w'
      go_wp2_with fail
      go_ret
      exact ⟨ret_b (by rw [HF.out] <;> rfl), b2⟩
    · cases d2
      · go_enter Try.func15, Try.ntmps15
        go_wp2_with fail
        refine (HS.out _ b0).mono ?_
        rintro e w1 ⟨rfl, b1⟩
        have b2 : Below w.heap.size w w1 := b0.trans (b1.mono (by simp))
        have e1 := (b1.block w.heap.size (by simp)).trans (World.alloc_heap_new w _)
        have r0 := cell_at 0 e1 rfl
        have r1 := cell_at 1 e1 rfl
        have r2 := cell_at 2 e1 rfl
        have r3 := cell_at 3 e1 rfl
        have r4 := cell_at 4 e1 rfl
        clear b1 e1
        go_wp2_with fail
        refine (C1.out _).mono ?_
        rintro e w' ⟨rfl, hw'⟩
        rw [hw']
        clear hw' w'
        go_wp2_with fail
        refine (C2.out _).mono ?_
        rintro e w' ⟨rfl, hw'⟩
        rw [hw']
        clear hw' w'
        go_wp2_with fail
        go_ret
        exact ⟨ret_b (by rw [HF.out] <;> rfl), b2⟩
      · cases d3
        · go_enter Try.func15, Try.ntmps15
          go_wp2_with fail
          refine (HS.out _ b0).mono ?_
          rintro e w1 ⟨rfl, b1⟩
          have b2 : Below w.heap.size w w1 := b0.trans (b1.mono (by simp))
          have e1 := (b1.block w.heap.size (by simp)).trans (World.alloc_heap_new w _)
          have r0 := cell_at 0 e1 rfl
          have r1 := cell_at 1 e1 rfl
          have r2 := cell_at 2 e1 rfl
          have r3 := cell_at 3 e1 rfl
          have r4 := cell_at 4 e1 rfl
          clear b1 e1
          go_wp2_with fail
          refine (C1.out _).mono ?_
          rintro e w' ⟨rfl, hw'⟩
          rw [hw']
          clear hw' w'
          go_wp2_with fail
          refine (C2.out _).mono ?_
          rintro e w' ⟨rfl, hw'⟩
          rw [hw']
          clear hw' w'
          go_wp2_with fail
          refine (C3.out _).mono ?_
          rintro e w' ⟨rfl, hw'⟩
          rw [hw']
          clear hw' w'
          go_wp2_with fail
          go_ret
          exact ⟨ret_b (by rw [HF.out] <;> rfl), b2⟩
        · cases d4
          · go_enter Try.func15, Try.ntmps15
            go_wp2_with fail
            refine (HS.out _ b0).mono ?_
            rintro e w1 ⟨rfl, b1⟩
            have b2 : Below w.heap.size w w1 := b0.trans (b1.mono (by simp))
            have e1 := (b1.block w.heap.size (by simp)).trans (World.alloc_heap_new w _)
            have r0 := cell_at 0 e1 rfl
            have r1 := cell_at 1 e1 rfl
            have r2 := cell_at 2 e1 rfl
            have r3 := cell_at 3 e1 rfl
            have r4 := cell_at 4 e1 rfl
            clear b1 e1
            go_wp2_with fail
            refine (C1.out _).mono ?_
            rintro e w' ⟨rfl, hw'⟩
            rw [hw']
            clear hw' w'
            go_wp2_with fail
            refine (C2.out _).mono ?_
            rintro e w' ⟨rfl, hw'⟩
            rw [hw']
            clear hw' w'
            go_wp2_with fail
            refine (C3.out _).mono ?_
            rintro e w' ⟨rfl, hw'⟩
            rw [hw']
            clear hw' w'
            go_wp2_with fail
            refine (C4.out _ b2).mono ?_
            rintro e w' ⟨rfl, hw'⟩
            rw [hw']
            clear hw' w'
            go_wp2_with fail
            go_ret
            exact ⟨ret_b (by rw [HF.out] <;> rfl), b2⟩
          · go_enter Try.func15, Try.ntmps15
            go_wp2_with fail
            refine (HS.out _ b0).mono ?_
            rintro e w1 ⟨rfl, b1⟩
            have b2 : Below w.heap.size w w1 := b0.trans (b1.mono (by simp))
            have e1 := (b1.block w.heap.size (by simp)).trans (World.alloc_heap_new w _)
            have r0 := cell_at 0 e1 rfl
            have r1 := cell_at 1 e1 rfl
            have r2 := cell_at 2 e1 rfl
            have r3 := cell_at 3 e1 rfl
            have r4 := cell_at 4 e1 rfl
            clear b1 e1
            go_wp2_with fail
            refine (C1.out _).mono ?_
            rintro e w' ⟨rfl, hw'⟩
            rw [hw']
            clear hw' w'
            go_wp2_with fail
            refine (C2.out _).mono ?_
            rintro e w' ⟨rfl, hw'⟩
            rw [hw']
            clear hw' w'
            go_wp2_with fail
            refine (C3.out _).mono ?_
            rintro e w' ⟨rfl, hw'⟩
            rw [hw']
            clear hw' w'
            go_wp2_with fail
            refine (C4.out _ b2).mono ?_
            rintro e w' ⟨rfl, hw'⟩
            rw [hw']
            clear hw' w'
            go_wp2_with fail
            refine (C5.out _ b2).mono ?_
            rintro e w' ⟨rfl, hw'⟩
            rw [hw']
            clear hw' w'
            go_wp2_with fail
            go_ret
            exact ⟨ret_b (by rw [HF.out] <;> rfl), b2⟩
  · go_enter Try.func15, Try.ntmps15
    go_wp2_with fail
    refine (HS.out _ b0).mono ?_
    rintro e w1 ⟨rfl, b1⟩
    have b2 : Below w.heap.size w w1 := b0.trans (b1.mono (by simp))
    have e1 := (b1.block w.heap.size (by simp)).trans (World.alloc_heap_new w _)
    have r0 := cell_at 0 e1 rfl
    have r1 := cell_at 1 e1 rfl
    have r2 := cell_at 2 e1 rfl
    have r3 := cell_at 3 e1 rfl
    have r4 := cell_at 4 e1 rfl
    clear b1 e1
    go_wp2_with fail
    go_ret
    exact ⟨ret_b (by rw [HF.out] <;> rfl), b2⟩

end Go.Proofs.Ytkngmgdcnplkgaa
