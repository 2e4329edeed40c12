/-
  The walk of SemverNexts.
-/
import Derived.Test.YtkngmgdcnplkgaaPlainN
namespace Go.Proofs.Ytkngmgdcnplkgaa
open Go.RowKit Go.Shelf
set_option linter.unusedVariables false

theorem third (p : Int) : wrap64 ((IntKind.u64.wrap p).tmod 3) = 0 ∨ wrap64 ((IntKind.u64.wrap p).tmod 3) = 1 ∨ wrap64 ((IntKind.u64.wrap p).tmod 3) = 2 := by
  have h : 0 ≤ IntKind.u64.wrap p := by
    unfold IntKind.wrap
    simp only
    exact Int.emod_nonneg _ (by decide)
  rw [Int.tmod_eq_emod_of_nonneg h, wrap_id _ (by omega)]
  omega

set_option maxRecDepth 100000 in
set_option maxHeartbeats 1000000 in
theorem nexts_walk (AW : ∀ w, Calls Try.prog 14 #[] w fun e w' => e = .returned (.bool true) ∧ Below w.heap.size w w') (v : Value) (x : SemL) (p : Int) (w : World) (hv : SemAt w v x) (hl : lenS x ≤ 1048576) :
    Calls Try.prog 8 #[v, .int .i64 p] w fun e w' => e = .returned (.bool true) ∧ Below w.heap.size w w' := by
  have sx := short_of x hl
  have hl0 := hl
  unfold lenS at hl0
  have AW' := hide AW
  clear AW
  have F1 := hide (fun W (hW : Below w.heap.size w W) => Fit_any v x W (hv.below hW) sx)
  have N1 := hide (fun W k (hW : Below w.heap.size w W) => NextV_any v x k W (hv.below hW) sx (by omega) (by omega) (by omega))
  have O1 := hide (fun W u y (hW : Below w.heap.size w W) (hu : SemAt W u y) (sy : ShortS y) => Order_any v u x y W (hv.below hW) hu sx sy)
  obtain ⟨p1, q1, rfl, t1, u1⟩ := hv
  obtain ⟨a1, c1, rfl, y1⟩ := t1
  obtain ⟨a2, c2, rfl, y2⟩ := u1
  clear y1 y2
  have b0 : Below w.heap.size w (w.alloc (.cells #[.string (ofL x.maj), .string (ofL x.min), .string (ofL x.pat), .slice a1 x.pre.length c1, .slice a2 x.bld.length c2] 24)) := (Below.refl _ w).alloc (Nat.le_refl _) _
  have k1 := hide (World.alloc_heap_new w (.cells #[.string (ofL x.maj), .string (ofL x.min), .string (ofL x.pat), .slice a1 x.pre.length c1, .slice a2 x.bld.length c2] 24))
  cases hf : fitW x
  · rw [hf] at F1
    clear hf
    go_enter Try.func8, Try.ntmps8
    go_wp2_with fail
    refine (F1.out _ b0).mono ?_
    rintro e w1 ⟨rfl, b1⟩
    go_wp2_with fail
    refine (AW'.out _).mono ?_
    rintro e w2 ⟨rfl, b2⟩
    go_wp2_with fail
    go_ret
    have := b0.size
    have := b1.size
    exact ⟨rfl, b0.trans ((b1.mono (by omega)).trans (b2.mono (by omega)))⟩
  · rw [hf] at F1
    go_enter Try.func8, Try.ntmps8
    go_wp2_with fail
    refine (F1.out _ b0).mono ?_
    rintro e w1 ⟨rfl, b1⟩
    simp only [World.size_alloc] at b1
    have B1 := b0.trans (b1.mono (by omega))
    have k2 := (b1.block w.heap.size (by omega)).trans k1.out
    obtain ⟨m0, m1, m2, m3, m4⟩ := seen5 k2
    go_wp2_with fail
    have hk := third p
    generalize wrap64 ((IntKind.u64.wrap p).tmod 3) = k at *
    refine (N1.out _ k B1).mono ?_
    rintro e w2 ⟨b2, u, rfl, hu⟩
    have B2 := B1.trans (b2.mono B1.size)
    have k3 := (b2.block w.heap.size (by have := (Array.getElem?_eq_some_iff.1 k2).1; omega)).trans k2
    have hz2 : w.heap.size < w2.heap.size := (Array.getElem?_eq_some_iff.1 k3).1
    clear m0 m1 m2 m3 m4 k2
    obtain ⟨m0, m1, m2, m3, m4⟩ := seen5 k3
    have K3 := hide k3
    clear k3
    have hn : nextW x k = if fitW (rais x k) then rais x k else semN := by
      unfold nextW; rw [hf, if_pos rfl, if_pos hk]
    have z1 := ofL_size x.maj
    have z2 := ofL_size x.min
    have z3 := ofL_size x.pat
    cases hr : fitW (rais x k)
    · rw [hr, if_neg (by simp)] at hn
      have h50 := next_none x k hk hl hf hr
      rw [hn] at hu
      obtain ⟨vp, vb, rfl, ⟨a3, c3, rfl, _⟩, ⟨a4, c4, rfl, _⟩⟩ := hu
      have hd : decide (50 < (x.maj.length : Int) + x.min.length + x.pat.length) = true := by simp; omega
      clear hn hr hf hk N1 F1 O1
      simp only [semN, show ofL [] = ⟨#[]⟩ from rfl]
      go_wp2_with fail
      refine (AW'.out _).mono ?_
      rintro e w3 ⟨rfl, b3⟩
      go_wp2_with fail
      go_ret
      have b4 := (B2.alloc B2.size (.cells #[.string ⟨#[]⟩, .string ⟨#[]⟩, .string ⟨#[]⟩, .slice a3 0 c3, .slice a4 0 c4] 24))
      exact ⟨rfl, b4.trans (b3.mono b4.size)⟩
    · rw [hr, if_pos rfl] at hn
      obtain ⟨h1, h2, h3⟩ := next_ahead x k hk hf hr
      have sr := rais_short x k (by omega) (by omega) (by omega)
      rw [hn] at hu
      have O2 := hide (fun W (hW : Below w.heap.size w W) (hV : Below w2.heap.size w2 W) => O1.out W u (rais x k) hW (hu.below hV) sr)
      rw [h1] at O2
      have O3 := hide (fun W (hW : Below w.heap.size w W) => O1.out W (.agg #[.string (ofL x.maj), .string (ofL x.min), .string (ofL x.pat), .slice none 0 0, .slice none 0 0]) ⟨x.maj, x.min, x.pat, [], []⟩ hW ⟨_, _, rfl, txt_nil W, txt_nil W⟩ ⟨sx.1, sx.2.1, sx.2.2.1, ⟨by simp, by simp⟩, ⟨by simp, by simp⟩⟩)
      have HP := hide (pre_ahead x hl hf)
      have sm := sr.1
      have RC := hide (fun W => RCmp_any (ofL (rais x k).maj) (ofL x.maj) W (by rw [ofL_size]; exact sm) (by rw [ofL_size]; omega))
      rw [ofL_data, ofL_data] at RC
      clear hn hr hf h1 O1 N1 F1 sx sr sm
      generalize rais x k = y at *
      generalize cmpD y.maj x.maj = cc at *
      have hne : (ofL y.maj).toList.isEmpty = false := by
        have := eqE (ofL y.maj) (by rw [ofL_size]; cases hy : y.maj with | nil => exact absurd hy h2 | cons _ _ => simp)
        cases h : (ofL y.maj).toList with
        | nil => rw [h] at this; cases this
        | cons _ _ => rfl
      obtain ⟨vp, vb, rfl, ⟨a3, c3, rfl, _⟩, ⟨a4, c4, rfl, _⟩⟩ := hu
      have b4 := (Below.refl w2.heap.size w2).alloc (Nat.le_refl _) (.cells #[.string (ofL y.maj), .string (ofL y.min), .string (ofL y.pat), .slice a3 y.pre.length c3, .slice a4 y.bld.length c4] 24)
      have B4 := B2.trans (b4.mono B2.size)
      have k4 := hide (World.alloc_heap_new w2 (.cells #[.string (ofL y.maj), .string (ofL y.min), .string (ofL y.pat), .slice a3 y.pre.length c3, .slice a4 y.bld.length c4] 24))
      go_wp2_with fail
      refine (O2.out _ B4 b4).mono ?_
      rintro e w5 ⟨rfl, b5⟩
      simp only [World.size_alloc] at b5
      have B5 := B4.trans (b5.mono (by omega))
      obtain ⟨n0, n1, n2, n3, n4⟩ := seen5 ((b5.block w2.heap.size (by omega)).trans k4.out)
      clear m0 m1 m2 m3 m4
      have k5 := (b5.block w.heap.size (by omega)).trans ((b4.block w.heap.size (by omega)).trans K3.out)
      obtain ⟨m0, m1, m2, m3, m4⟩ := seen5 k5
      have hz5 := (Array.getElem?_eq_some_iff.1 k5).1
      have hy5 := (Array.getElem?_eq_some_iff.1 ((b5.block w2.heap.size (by omega)).trans k4.out)).1
      have B6 := B5.alloc B5.size (.cells #[.string (ofL x.maj), .string (ofL x.min), .string (ofL x.pat), .slice none 0 0, .slice none 0 0] 24)
      by_cases hp : x.pre = []
      · have hp0 : x.pre.length = 0 := by rw [hp]; rfl
        have hp1 := int_eq0 hp0
        clear hp
        go_wp2_with fail
        refine (RC.out _).mono ?_
        rintro e w6 ⟨rfl, hw6⟩
        rw [hw6]
        clear hw6 w6
        go_wp2_with fail
        refine (AW'.out _).mono ?_
        rintro e w7 ⟨rfl, b7⟩
        go_wp2_with fail
        go_ret
        exact ⟨rfl, B6.trans (b7.mono B6.size)⟩
      · have hp0 : ¬ x.pre.length = 0 := by simpa using hp
        have hp1 := int_ne0 hp0
        have hq := HP.out hp
        rw [hq] at O3
        clear hp
        go_wp2_with fail
        refine (O3.out _ B6).mono ?_
        rintro e w6 ⟨rfl, b6⟩
        simp only [World.size_alloc] at b6
        have B7 := B6.trans (b6.mono (by omega))
        have hm0 := (b6.cell (p := ⟨w.heap.size, 0, none⟩) (by simp only; omega)).trans ((((Below.refl w5.heap.size w5).alloc (Nat.le_refl _) (.cells #[.string (ofL x.maj), .string (ofL x.min), .string (ofL x.pat), .slice none 0 0, .slice none 0 0] 24)).cell (p := ⟨w.heap.size, 0, none⟩) hz5).trans m0)
        have hn0 := (b6.cell (p := ⟨w2.heap.size, 0, none⟩) (by simp only; omega)).trans ((((Below.refl w5.heap.size w5).alloc (Nat.le_refl _) (.cells #[.string (ofL x.maj), .string (ofL x.min), .string (ofL x.pat), .slice none 0 0, .slice none 0 0] 24)).cell (p := ⟨w2.heap.size, 0, none⟩) hy5).trans n0)
        go_wp2_with fail
        refine (RC.out _).mono ?_
        rintro e w7 ⟨rfl, hw7⟩
        rw [hw7]
        clear hw7 w7
        go_wp2_with fail
        refine (AW'.out _).mono ?_
        rintro e w8 ⟨rfl, b8⟩
        go_wp2_with fail
        go_ret
        exact ⟨rfl, B7.trans (b8.mono B7.size)⟩

end Go.Proofs.Ytkngmgdcnplkgaa
