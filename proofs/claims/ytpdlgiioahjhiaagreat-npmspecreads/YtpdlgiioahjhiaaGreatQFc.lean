/-
  Walks: which versions are fit. · Walks: the order of versions, fit or not; the version with one part raised.
-/
import Derived.Test.YtpdlgiioahjhiaaGreatQFa
namespace Go.Proofs.YtpdlgiioahjhiaaGreat
open Go.RowKit
set_option linter.unusedVariables false

set_option maxRecDepth 100000 in
set_option maxHeartbeats 1000000 in
theorem Fit_any (v : Value) (x : SemL) (w : World) (hv : SemAt w v x) (sx : ShortS x) :
    Calls Tryz.prog 35 #[v] w fun e w' => e = .returned (.bool (fitW x)) ∧ Below w.heap.size w w' := by
  have HS := hide (fun W (hW : Below w.heap.size w W) => size_any v x W (hv.below hW) sx)
  obtain ⟨p1, q1, rfl, t1, u1⟩ := hv
  obtain ⟨a1, c1, rfl, hx1⟩ := id t1
  obtain ⟨a2, c2, rfl, hx2⟩ := id u1
  clear hx1 hx2
  have C1 := hide (fun w => num_ofL x.maj w sx.1)
  have C2 := hide (fun w => num_ofL x.min w sx.2.1)
  have C3 := hide (fun w => num_ofL x.pat w sx.2.2.1)
  have C4 := hide (fun W (hW : Below w.heap.size w W) => all_any 69 preB pre_ofL (.inl rfl) _ x.pre W (t1.below hW) sx.2.2.2.1)
  have C5 := hide (fun W (hW : Below w.heap.size w W) => all_any 70 idB id_ofL (.inr rfl) _ x.bld W (u1.below hW) sx.2.2.2.2)
  have HF : Hid (fitW x = (decide (wrap64 (lenS x : Int) ≤ 64) && numB x.maj && numB x.min && numB x.pat && x.pre.all preB && x.bld.all idB)) := rfl
  generalize fitW x = F at *
  generalize wrap64 (lenS x : Int) = N at *
  generalize numB x.maj = d1 at *
  generalize numB x.min = d2 at *
  generalize numB x.pat = d3 at *
  generalize x.pre.all preB = d4 at *
  generalize x.bld.all idB = d5 at *
  clear t1 u1 sx
  have b0 : Below w.heap.size w (w.alloc (.cells #[.string (ofL x.maj), .string (ofL x.min), .string (ofL x.pat), .slice a1 x.pre.length c1, .slice a2 x.bld.length c2] 33)) := (Below.refl _ w).alloc (Nat.le_refl _) _
  generalize hNd : decide (N ≤ 64) = D at *
  cases D
  rotate_left
  · cases d1
    · go_enter Tryz.func35, Tryz.ntmps35
      go_wp2_with fail
      refine (HS.out _ b0).mono ?_
      rintro e w1 ⟨rfl, b1⟩
      have b2 : Below w.heap.size w w1 := b0.trans (b1.mono (by simp))
      have e1 := (b1.block w.heap.size (by simp)).trans (World.alloc_heap_new w _)
      have r0 := cell_at 0 e1 rfl
      have r1 := cell_at 1 e1 rfl
      have r2 := cell_at 2 e1 rfl
      have r3 := cell_at 3 e1 rfl
      have r4 := cell_at 4 e1 rfl
      clear b1 e1
      go_wp2_with fail
      refine (C1.out _).mono ?_
      rintro e w' ⟨rfl, hw'⟩
      rw [hw']
      clear hw' w'
      go_wp2_with fail
      go_ret
      exact ⟨ret_b (by rw [HF.out] <;> rfl), b2⟩
    · cases d2
      · go_enter Tryz.func35, Tryz.ntmps35
        go_wp2_with fail
        refine (HS.out _ b0).mono ?_
        rintro e w1 ⟨rfl, b1⟩
        have b2 : Below w.heap.size w w1 := b0.trans (b1.mono (by simp))
        have e1 := (b1.block w.heap.size (by simp)).trans (World.alloc_heap_new w _)
        have r0 := cell_at 0 e1 rfl
        have r1 := cell_at 1 e1 rfl
        have r2 := cell_at 2 e1 rfl
        have r3 := cell_at 3 e1 rfl
        have r4 := cell_at 4 e1 rfl
        clear b1 e1
        go_wp2_with fail
        refine (C1.out _).mono ?_
        rintro e w' ⟨rfl, hw'⟩
        rw [hw']
        clear hw' w'
        go_wp2_with fail
        refine (C2.out _).mono ?_
        rintro e w' ⟨rfl, hw'⟩
        rw [hw']
        clear hw' w'
        go_wp2_with fail
        go_ret
        exact ⟨ret_b (by rw [HF.out] <;> rfl), b2⟩
      · cases d3
        · go_enter Tryz.func35, Tryz.ntmps35
          go_wp2_with fail
          refine (HS.out _ b0).mono ?_
          rintro e w1 ⟨rfl, b1⟩
          have b2 : Below w.heap.size w w1 := b0.trans (b1.mono (by simp))
          have e1 := (b1.block w.heap.size (by simp)).trans (World.alloc_heap_new w _)
          have r0 := cell_at 0 e1 rfl
          have r1 := cell_at 1 e1 rfl
          have r2 := cell_at 2 e1 rfl
          have r3 := cell_at 3 e1 rfl
          have r4 := cell_at 4 e1 rfl
          clear b1 e1
          go_wp2_with fail
          refine (C1.out _).mono ?_
          rintro e w' ⟨rfl, hw'⟩
          rw [hw']
          clear hw' w'
          go_wp2_with fail
          refine (C2.out _).mono ?_
          rintro e w' ⟨rfl, hw'⟩
          rw [hw']
          clear hw' w'
          go_wp2_with fail
          refine (C3.out _).mono ?_
          rintro e w' ⟨rfl, hw'⟩
          rw [hw']
          clear hw' w'
          go_wp2_with fail
          go_ret
          exact ⟨ret_b (by rw [HF.out] <;> rfl), b2⟩
        · cases d4
          · go_enter Tryz.func35, Tryz.ntmps35
            go_wp2_with fail
            refine (HS.out _ b0).mono ?_
            rintro e w1 ⟨rfl, b1⟩
            have b2 : Below w.heap.size w w1 := b0.trans (b1.mono (by simp))
            have e1 := (b1.block w.heap.size (by simp)).trans (World.alloc_heap_new w _)
            have r0 := cell_at 0 e1 rfl
            have r1 := cell_at 1 e1 rfl
            have r2 := cell_at 2 e1 rfl
            have r3 := cell_at 3 e1 rfl
            have r4 := cell_at 4 e1 rfl
            clear b1 e1
            go_wp2_with fail
            refine (C1.out _).mono ?_
            rintro e w' ⟨rfl, hw'⟩
            rw [hw']
            clear hw' w'
            go_wp2_with fail
            refine (C2.out _).mono ?_
            rintro e w' ⟨rfl, hw'⟩
            rw [hw']
            clear hw' w'
            go_wp2_with fail
            refine (C3.out _).mono ?_
            rintro e w' ⟨rfl, hw'⟩
            rw [hw']
            clear hw' w'
            go_wp2_with fail
            refine (C4.out _ b2).mono ?_
            rintro e w' ⟨rfl, hw'⟩
            rw [hw']
            clear hw' w'
            go_wp2_with fail
            go_ret
            exact ⟨ret_b (by rw [HF.out] <;> rfl), b2⟩
          · go_enter Tryz.func35, Tryz.ntmps35
            go_wp2_with fail
            refine (HS.out _ b0).mono ?_
            rintro e w1 ⟨rfl, b1⟩
            have b2 : Below w.heap.size w w1 := b0.trans (b1.mono (by simp))
            have e1 := (b1.block w.heap.size (by simp)).trans (World.alloc_heap_new w _)
            have r0 := cell_at 0 e1 rfl
            have r1 := cell_at 1 e1 rfl
            have r2 := cell_at 2 e1 rfl
            have r3 := cell_at 3 e1 rfl
            have r4 := cell_at 4 e1 rfl
            clear b1 e1
            go_wp2_with fail
            refine (C1.out _).mono ?_
            rintro e w' ⟨rfl, hw'⟩
            rw [hw']
            clear hw' w'
            go_wp2_with fail
            refine (C2.out _).mono ?_
            rintro e w' ⟨rfl, hw'⟩
            rw [hw']
            clear hw' w'
            go_wp2_with fail
            refine (C3.out _).mono ?_
            rintro e w' ⟨rfl, hw'⟩
            rw [hw']
            clear hw' w'
            go_wp2_with fail
            refine (C4.out _ b2).mono ?_
            rintro e w' ⟨rfl, hw'⟩
            rw [hw']
            clear hw' w'
            go_wp2_with fail
            refine (C5.out _ b2).mono ?_
            rintro e w' ⟨rfl, hw'⟩
            rw [hw']
            clear hw' w'
            go_wp2_with fail
            go_ret
            exact ⟨ret_b (by rw [HF.out] <;> rfl), b2⟩
  · go_enter Tryz.func35, Tryz.ntmps35
    go_wp2_with fail
    refine (HS.out _ b0).mono ?_
    rintro e w1 ⟨rfl, b1⟩
    have b2 : Below w.heap.size w w1 := b0.trans (b1.mono (by simp))
    have e1 := (b1.block w.heap.size (by simp)).trans (World.alloc_heap_new w _)
    have r0 := cell_at 0 e1 rfl
    have r1 := cell_at 1 e1 rfl
    have r2 := cell_at 2 e1 rfl
    have r3 := cell_at 3 e1 rfl
    have r4 := cell_at 4 e1 rfl
    clear b1 e1
    go_wp2_with fail
    go_ret
    exact ⟨ret_b (by rw [HF.out] <;> rfl), b2⟩

end Go.Proofs.YtpdlgiioahjhiaaGreat

namespace Go.Proofs.YtpdlgiioahjhiaaGreat
open Go.RowKit
set_option linter.unusedVariables false

def ordW (x y : SemL) : Int := if fitW x && fitW y then ordO x y else 0

theorem seen5 {W : World} {B : Nat} {a b c d e : Value} (h : W.heap[B]? = some (.cells #[a, b, c, d, e] 33 (0, 0))) :
    W.cell? ⟨B, 0, none⟩ = some a ∧ W.cell? ⟨B, 1, none⟩ = some b ∧ W.cell? ⟨B, 2, none⟩ = some c ∧ W.cell? ⟨B, 3, none⟩ = some d ∧ W.cell? ⟨B, 4, none⟩ = some e :=
  ⟨cell_at 0 h rfl, cell_at 1 h rfl, cell_at 2 h rfl, cell_at 3 h rfl, cell_at 4 h rfl⟩

set_option maxRecDepth 100000 in
set_option maxHeartbeats 1000000 in
theorem Order_any (va vb : Value) (x y : SemL) (w : World) (ha : SemAt w va x) (hb : SemAt w vb y) (sx : ShortS x) (sy : ShortS y) :
    Calls Tryz.prog 36 #[va, vb] w fun e w' => e = .returned (.int .i64 (ordW x y)) ∧ Below w.heap.size w w' := by
  have F1 := hide (fun W (hW : Below w.heap.size w W) => Fit_any va x W (ha.below hW) sx)
  have F2 := hide (fun W (hW : Below w.heap.size w W) => Fit_any vb y W (hb.below hW) sy)
  have OO := hide (fun W (hW : Below w.heap.size w W) => order_any va vb x y W (ha.below hW) (hb.below hW) sx sy)
  have HO : Hid (ordW x y = if fitW x && fitW y then ordO x y else 0) := rfl
  obtain ⟨p1, q1, rfl, t1, u1⟩ := ha
  obtain ⟨p2, q2, rfl, t2, u2⟩ := hb
  obtain ⟨a1, c1, rfl, y1⟩ := t1
  obtain ⟨a2, c2, rfl, y2⟩ := t2
  obtain ⟨a3, c3, rfl, y3⟩ := u1
  obtain ⟨a4, c4, rfl, y4⟩ := u2
  clear y1 y2 y3 y4 sx sy
  generalize ordW x y = O at *
  generalize ordO x y = o at *
  generalize fitW x = f1 at *
  generalize fitW y = f2 at *
  have b0 : Below w.heap.size w ((w.alloc (.cells #[.string (ofL x.maj), .string (ofL x.min), .string (ofL x.pat), .slice a1 x.pre.length c1, .slice a3 x.bld.length c3] 33)).alloc (.cells #[.string (ofL y.maj), .string (ofL y.min), .string (ofL y.pat), .slice a2 y.pre.length c2, .slice a4 y.bld.length c4] 33)) := ((Below.refl _ w).alloc (Nat.le_refl _) _).alloc (by simp) _
  have k0 := World.alloc_heap_new w (.cells #[.string (ofL x.maj), .string (ofL x.min), .string (ofL x.pat), .slice a1 x.pre.length c1, .slice a3 x.bld.length c3] 33)
  have k1 := World.alloc_heap_new (w.alloc (.cells #[.string (ofL x.maj), .string (ofL x.min), .string (ofL x.pat), .slice a1 x.pre.length c1, .slice a3 x.bld.length c3] 33)) (.cells #[.string (ofL y.maj), .string (ofL y.min), .string (ofL y.pat), .slice a2 y.pre.length c2, .slice a4 y.bld.length c4] 33)
  simp only [World.size_alloc] at k1
  have k0' := (Below.heap_alloc (w.alloc (.cells #[.string (ofL x.maj), .string (ofL x.min), .string (ofL x.pat), .slice a1 x.pre.length c1, .slice a3 x.bld.length c3] 33)) (.cells #[.string (ofL y.maj), .string (ofL y.min), .string (ofL y.pat), .slice a2 y.pre.length c2, .slice a4 y.bld.length c4] 33) w.heap.size (by simp)).trans k0
  clear k0
  cases f1
  · go_enter Tryz.func36, Tryz.ntmps36
    go_wp2_with fail
    refine (F1.out _ b0).mono ?_
    rintro e w1 ⟨rfl, b1⟩
    clear k0' k1
    go_wp2_with fail
    go_ret
    exact ⟨ret_i (by rw [HO.out] <;> rfl), b0.trans (b1.mono (by simp; omega))⟩
  · go_enter Tryz.func36, Tryz.ntmps36
    go_wp2_with fail
    refine (F1.out _ b0).mono ?_
    rintro e w1 ⟨rfl, b1⟩
    simp only [World.size_alloc] at b1
    have e0 := (b1.block _ (by omega)).trans k0'
    have e1 := (b1.block _ (by omega)).trans k1
    obtain ⟨r0, r1, r2, r3, r4⟩ := seen5 e0
    obtain ⟨z0, z1, z2, z3, z4⟩ := seen5 e1
    have B1 := b0.trans (b1.mono (by omega))
    have E0 := hide e0
    have E1 := hide e1
    have l1 := (Array.getElem?_eq_some_iff.1 e1).1
    clear k0' k1 e0 e1
    go_wp2_with fail
    refine (F2.out _ B1).mono ?_
    rintro e w2 ⟨rfl, b2⟩
    have B2 := B1.trans (b2.mono (by omega))
    clear r0 r1 r2 r3 r4 z0 z1 z2 z3 z4
    obtain ⟨r0, r1, r2, r3, r4⟩ := seen5 ((b2.block _ (by omega)).trans E0.out)
    obtain ⟨z0, z1, z2, z3, z4⟩ := seen5 ((b2.block _ (by omega)).trans E1.out)
    cases f2
    · go_wp2_with fail
      go_ret
      exact ⟨ret_i (by rw [HO.out] <;> rfl), B2⟩
    · go_wp2_with fail
      refine (OO.out _ B2).mono ?_
      rintro e w3 ⟨rfl, b3⟩
      go_wp2_with fail
      go_ret
      have s2 := B2.size
      exact ⟨ret_i (by rw [HO.out] <;> rfl), B2.trans (b3.mono (by omega))⟩

end Go.Proofs.YtpdlgiioahjhiaaGreat
