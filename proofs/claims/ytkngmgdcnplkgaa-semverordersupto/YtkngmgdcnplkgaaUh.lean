/-
  Walks: the document's order of identifiers and of versions.
-/
import Derived.Test.YtkngmgdcnplkgaaFf
import Derived.Test.YtkngmgdcnplkgaaGa
import Derived.Test.YtkngmgdcnplkgaaRi
import Derived.Test.YtkngmgdcnplkgaaPlainV
import Derived.Test.YtkngmgdcnplkgaaTk
import Derived.Test.YtkngmgdcnplkgaaSf
import Derived.Test.YtkngmgdcnplkgaaSe
import Derived.Laws.AppendOwnNone
import Derived.Test.YtkngmgdcnplkgaaSh
import Derived.Test.YtkngmgdcnplkgaaFc
import Derived.Deep.RegionHeld3
namespace Go.Proofs.Ytkngmgdcnplkgaa
open Go.RowKit Go.Shelf
set_option linter.unusedVariables false

set_option maxHeartbeats 400000 in
theorem Rtruth_any (b : Bool) (w : World) : Calls Try.prog 46 #[.bool b] w fun e w' => e = .returned (.int .i64 (if b then 1 else 0)) ∧ w' = w := by
  cases b
  · go_enter Try.func46, Try.ntmps46
    go_wp2_with fail
    go_ret
    exact ⟨rfl, rfl⟩
  · go_enter Try.func46, Try.ntmps46
    go_wp2_with fail
    go_ret
    exact ⟨rfl, rfl⟩

set_option maxHeartbeats 1000000 in
theorem Rone_any (a b : List UInt8) (w : World) (ha : a.length ≤ 1048576) (hb : b.length ≤ 1048576) :
    Calls Try.prog 47 #[.string (ofL a), .string (ofL b)] w fun e w' => e = .returned (.int .i64 (oneO a b)) ∧ w' = w := by
  have DA := fun w => rdigits_any (ofL a) w (by rw [ofL_size]; unfold maxLen; omega)
  have DB := fun w => rdigits_any (ofL b) w (by rw [ofL_size]; unfold maxLen; omega)
  have CD := fun w => RCmp_any (ofL a) (ofL b) w (by rw [ofL_size]; omega) (by rw [ofL_size]; omega)
  rw [ofL_data] at DA DB
  rw [ofL_data, ofL_data] at CD
  have HT := hide (cmp3 (ofL a).toList (ofL b).toList)
  have hO : oneO a b = if digB a then (if digB b then cmpD a b else -1) else if digB b then 1 else Lib.compareBytes (ofL a).toList (ofL b).toList := by rw [toL, toL, ofL_data, ofL_data]; rfl
  generalize oneO a b = O at *
  generalize digB a = x at *
  generalize digB b = y at *
  generalize cmpD a b = cd at *
  generalize Lib.compareBytes (ofL a).toList (ofL b).toList = c2 at *
  have HO := hide hO
  have DA := hide DA
  have DB := hide DB
  have CD := hide CD
  clear hO
  generalize ofL a = sa at *
  generalize ofL b = sb at *
  cases x
  · cases y
    · rcases HT.out with ⟨rfl, hbl⟩ | ⟨rfl, hbl, heq⟩ | ⟨rfl, hbl, heq⟩
      · go_enter Try.func47, Try.ntmps47
        go_wp2_with fail
        refine (DA.out _).mono ?_
        rintro e w' ⟨rfl, hw'⟩
        rw [hw']; clear hw' w'
        go_wp2_with fail
        refine (DA.out _).mono ?_
        rintro e w' ⟨rfl, hw'⟩
        rw [hw']; clear hw' w'
        go_wp2_with fail
        refine (DB.out _).mono ?_
        rintro e w' ⟨rfl, hw'⟩
        rw [hw']; clear hw' w'
        go_wp2_with fail
        go_ret
        exact ⟨ret_i (by rw [HO.out]; rfl), rfl⟩
      · go_enter Try.func47, Try.ntmps47
        go_wp2_with fail
        refine (DA.out _).mono ?_
        rintro e w' ⟨rfl, hw'⟩
        rw [hw']; clear hw' w'
        go_wp2_with fail
        refine (DA.out _).mono ?_
        rintro e w' ⟨rfl, hw'⟩
        rw [hw']; clear hw' w'
        go_wp2_with fail
        refine (DB.out _).mono ?_
        rintro e w' ⟨rfl, hw'⟩
        rw [hw']; clear hw' w'
        go_wp2_with fail
        go_ret
        exact ⟨ret_i (by rw [HO.out]; rfl), rfl⟩
      · go_enter Try.func47, Try.ntmps47
        go_wp2_with fail
        refine (DA.out _).mono ?_
        rintro e w' ⟨rfl, hw'⟩
        rw [hw']; clear hw' w'
        go_wp2_with fail
        refine (DA.out _).mono ?_
        rintro e w' ⟨rfl, hw'⟩
        rw [hw']; clear hw' w'
        go_wp2_with fail
        refine (DB.out _).mono ?_
        rintro e w' ⟨rfl, hw'⟩
        rw [hw']; clear hw' w'
        go_wp2_with fail
        go_ret
        exact ⟨ret_i (by rw [HO.out]; rfl), rfl⟩
    · skip
      go_enter Try.func47, Try.ntmps47
      go_wp2_with fail
      refine (DA.out _).mono ?_
      rintro e w' ⟨rfl, hw'⟩
      rw [hw']; clear hw' w'
      go_wp2_with fail
      refine (DA.out _).mono ?_
      rintro e w' ⟨rfl, hw'⟩
      rw [hw']; clear hw' w'
      go_wp2_with fail
      refine (DB.out _).mono ?_
      rintro e w' ⟨rfl, hw'⟩
      rw [hw']; clear hw' w'
      go_wp2_with fail
      go_ret
      exact ⟨ret_i (by rw [HO.out]; rfl), rfl⟩
  · cases y
    · skip
      go_enter Try.func47, Try.ntmps47
      go_wp2_with fail
      refine (DA.out _).mono ?_
      rintro e w' ⟨rfl, hw'⟩
      rw [hw']; clear hw' w'
      go_wp2_with fail
      refine (DB.out _).mono ?_
      rintro e w' ⟨rfl, hw'⟩
      rw [hw']; clear hw' w'
      go_wp2_with fail
      refine (DA.out _).mono ?_
      rintro e w' ⟨rfl, hw'⟩
      rw [hw']; clear hw' w'
      go_wp2_with fail
      go_ret
      exact ⟨ret_i (by rw [HO.out]; rfl), rfl⟩
    · skip
      go_enter Try.func47, Try.ntmps47
      go_wp2_with fail
      refine (DA.out _).mono ?_
      rintro e w' ⟨rfl, hw'⟩
      rw [hw']; clear hw' w'
      go_wp2_with fail
      refine (DB.out _).mono ?_
      rintro e w' ⟨rfl, hw'⟩
      rw [hw']; clear hw' w'
      go_wp2_with fail
      refine (CD.out _).mono ?_
      rintro e w' ⟨rfl, hw'⟩
      rw [hw']; clear hw' w'
      go_wp2_with fail
      go_ret
      exact ⟨ret_i (by rw [HO.out]; rfl), rfl⟩

/-- Two versions in their boxes. -/
structure SB (w : World) (x y : SemL) (a1 a2 a3 a4 : Option Addr) (c1 c2 c3 c4 : Nat) (W : World) : Prop where
  below : Below w.heap.size w W
  b0 : W.heap[w.heap.size]? = some (.cells #[.string (ofL x.maj), .string (ofL x.min), .string (ofL x.pat), .slice a1 x.pre.length c1, .slice a3 x.bld.length c3] 24 (0, 0))
  b1 : W.heap[w.heap.size + 1]? = some (.cells #[.string (ofL y.maj), .string (ofL y.min), .string (ofL y.pat), .slice a2 y.pre.length c2, .slice a4 y.bld.length c4] 24 (0, 0))
section
variable {w : World} {x y : SemL} {a1 a2 a3 a4 : Option Addr} {c1 c2 c3 c4 : Nat} {W W' : World}
theorem SB.next (h : SB w x y a1 a2 a3 a4 c1 c2 c3 c4 W) (hb : Below W.heap.size W W') : SB w x y a1 a2 a3 a4 c1 c2 c3 c4 W' :=
  ⟨h.below.trans (hb.mono h.below.size), (hb.block _ (Array.getElem?_eq_some_iff.1 h.b0).1).trans h.b0, (hb.block _ (Array.getElem?_eq_some_iff.1 h.b1).1).trans h.b1⟩
theorem SB.start (w : World) (x y : SemL) (a1 a2 a3 a4 : Option Addr) (c1 c2 c3 c4 : Nat) : SB w x y a1 a2 a3 a4 c1 c2 c3 c4 ((w.alloc (.cells #[.string (ofL x.maj), .string (ofL x.min), .string (ofL x.pat), .slice a1 x.pre.length c1, .slice a3 x.bld.length c3] 24)).alloc (.cells #[.string (ofL y.maj), .string (ofL y.min), .string (ofL y.pat), .slice a2 y.pre.length c2, .slice a4 y.bld.length c4] 24)) := by
  have k0 := World.alloc_heap_new w (.cells #[.string (ofL x.maj), .string (ofL x.min), .string (ofL x.pat), .slice a1 x.pre.length c1, .slice a3 x.bld.length c3] 24)
  have k1 := World.alloc_heap_new (w.alloc (.cells #[.string (ofL x.maj), .string (ofL x.min), .string (ofL x.pat), .slice a1 x.pre.length c1, .slice a3 x.bld.length c3] 24)) (.cells #[.string (ofL y.maj), .string (ofL y.min), .string (ofL y.pat), .slice a2 y.pre.length c2, .slice a4 y.bld.length c4] 24)
  simp only [World.size_alloc] at k1
  exact ⟨((Below.refl _ w).alloc (Nat.le_refl _) _).alloc (by simp) _, (Below.heap_alloc _ _ _ (by simp)).trans k0, k1⟩
end
theorem ord_o (x y : SemL) : ordO x y = if cmpD x.maj y.maj = 0 then (if cmpD x.min y.min = 0 then (if cmpD x.pat y.pat = 0 then preO x.pre y.pre else cmpD x.pat y.pat) else cmpD x.min y.min) else cmpD x.maj y.maj := by
  unfold ordO or4
  (repeat' split) <;> simp_all

set_option maxRecDepth 100000 in
set_option maxHeartbeats 4000000 in
theorem ROrder_any (va vb : Value) (x y : SemL) (w : World) (ha : SemAt w va x) (hb : SemAt w vb y) (lx : lenS x ≤ 1048576) (ly : lenS y ≤ 1048576) :
    Calls Try.prog 22 #[va, vb] w fun e w' => e = .returned (.int .i64 (ordW x y)) ∧ Below w.heap.size w w' := by
  have F1 := hide (fun W (hW : Below w.heap.size w W) => rFit_any va x W (ha.below hW) lx)
  have F2 := hide (fun W (hW : Below w.heap.size w W) => rFit_any vb y W (hb.below hW) ly)
  have HO : Hid (ordW x y = if fitW x && fitW y then ordO x y else 0) := rfl
  have HO2 := hide (ord_o x y)
  obtain ⟨p1, q1, rfl, t1, u1⟩ := ha
  obtain ⟨p2, q2, rfl, t2, u2⟩ := hb
  have T1 := hide (fun W (hW : Below w.heap.size w W) => t1.below hW)
  have T2 := hide (fun W (hW : Below w.heap.size w W) => t2.below hW)
  obtain ⟨a1, c1, rfl, y1⟩ := t1
  obtain ⟨a2, c2, rfl, y2⟩ := t2
  obtain ⟨a3, c3, rfl, y3⟩ := u1
  obtain ⟨a4, c4, rfl, y4⟩ := u2
  clear y1 y2 y3 y4
  have lp := lenI_ge x.pre
  have lq := lenI_ge y.pre
  have hx1 : x.pre.length ≤ 1048576 := by unfold lenS at lx; omega
  have hy1 : y.pre.length ≤ 1048576 := by unfold lenS at ly; omega
  have HX : Hid (∀ t ∈ x.pre, t.length ≤ 1048576) := fun t ht => by have := lp.2 t ht; unfold lenS at lx; omega
  have HY : Hid (∀ t ∈ y.pre, t.length ≤ 1048576) := fun t ht => by have := lq.2 t ht; unfold lenS at ly; omega
  have C1 := fun w => RCmp_any (ofL x.maj) (ofL y.maj) w (by rw [ofL_size]; unfold lenS at lx; omega) (by rw [ofL_size]; unfold lenS at ly; omega)
  have C2 := fun w => RCmp_any (ofL x.min) (ofL y.min) w (by rw [ofL_size]; unfold lenS at lx; omega) (by rw [ofL_size]; unfold lenS at ly; omega)
  have C3 := fun w => RCmp_any (ofL x.pat) (ofL y.pat) w (by rw [ofL_size]; unfold lenS at lx; omega) (by rw [ofL_size]; unfold lenS at ly; omega)
  rw [ofL_data, ofL_data] at C1 C2 C3
  have C1 := hide C1
  have C2 := hide C2
  have C3 := hide C3
  have TR := hide (fun b w => Rtruth_any b w)
  clear lp lq lx ly
  generalize ordW x y = R at *
  generalize ordO x y = o at *
  generalize fitW x = f1 at *
  generalize fitW y = f2 at *
  generalize cmpD x.maj y.maj = o1 at *
  generalize cmpD x.min y.min = o2 at *
  generalize cmpD x.pat y.pat = o3 at *
  have S0 := SB.start w x y a1 a2 a3 a4 c1 c2 c3 c4
  have HP : Hid (preO x.pre y.pre = if x.pre = [] ∨ y.pre = [] then (if y.pre.length < x.pre.length then -1 else if x.pre.length < y.pre.length then 1 else 0) else lexO x.pre y.pre) := rfl
  generalize preO x.pre y.pre = o4 at *
  cases f1
  · go_enter Try.func22, Try.ntmps22
    go_wp2_with fail
    generalize ((w.alloc (.cells #[.string (ofL x.maj), .string (ofL x.min), .string (ofL x.pat), .slice a1 x.pre.length c1, .slice a3 x.bld.length c3] 24)).alloc (.cells #[.string (ofL y.maj), .string (ofL y.min), .string (ofL y.pat), .slice a2 y.pre.length c2, .slice a4 y.bld.length c4] 24)) = w0 at *
    refine (F1.out _ S0.below).mono ?_
    rintro e w1 ⟨rfl, b1⟩
    have S1 := S0.next b1
    clear S0 b1
    go_wp2_with fail
    go_ret
    exact ⟨ret_i (by rw [HO.out]; rfl), S1.below⟩
  · go_enter Try.func22, Try.ntmps22
    go_wp2_with fail
    generalize ((w.alloc (.cells #[.string (ofL x.maj), .string (ofL x.min), .string (ofL x.pat), .slice a1 x.pre.length c1, .slice a3 x.bld.length c3] 24)).alloc (.cells #[.string (ofL y.maj), .string (ofL y.min), .string (ofL y.pat), .slice a2 y.pre.length c2, .slice a4 y.bld.length c4] 24)) = w0 at *
    refine (F1.out _ S0.below).mono ?_
    rintro e w1 ⟨rfl, b1⟩
    have S1 := S0.next b1
    clear S0 b1
    obtain ⟨z0, z1, z2, z3, z4⟩ := seen5 S1.b1
    go_wp2_with fail
    refine (F2.out _ S1.below).mono ?_
    rintro e w2 ⟨rfl, b2⟩
    have S2 := S1.next b2
    clear S1 b2 z0 z1 z2 z3 z4
    obtain ⟨r0, r1, r2, r3, r4⟩ := seen5 S2.b0
    obtain ⟨z0, z1, z2, z3, z4⟩ := seen5 S2.b1
    cases f2
    · go_wp2_with fail
      go_ret
      exact ⟨ret_i (by rw [HO.out]; rfl), S2.below⟩
    · have HO : Hid (R = if o1 = 0 then (if o2 = 0 then (if o3 = 0 then o4 else o3) else o2) else o1) := by show _ = _; rw [HO.out, ← HO2.out]; rfl
      clear HO2 F1 F2
      go_wp2_with fail
      refine (C1.out _).mono ?_
      rintro e w' ⟨rfl, hw'⟩
      rw [hw']; clear hw' w'
      by_cases h1 : o1 = 0
      · have hb1 : (o1 != 0) = false := by simpa using h1
        have HO : Hid (R = if o2 = 0 then (if o3 = 0 then o4 else o3) else o2) := by show _ = _; rw [HO.out, if_pos h1]
        clear h1
        go_wp2_with fail
        refine (C2.out _).mono ?_
        rintro e w' ⟨rfl, hw'⟩
        rw [hw']; clear hw' w'
        by_cases h2 : o2 = 0
        · have hb2 : (o2 != 0) = false := by simpa using h2
          have HO : Hid (R = if o3 = 0 then o4 else o3) := by show _ = _; rw [HO.out, if_pos h2]
          clear h2
          go_wp2_with fail
          refine (C3.out _).mono ?_
          rintro e w' ⟨rfl, hw'⟩
          rw [hw']; clear hw' w'
          by_cases h3 : o3 = 0
          · have hb3 : (o3 != 0) = false := by simpa using h3
            have HO : Hid (R = o4) := by show _ = _; rw [HO.out, if_pos h3]
            clear h3
            by_cases hp : x.pre.length = 0
            · have hbp := int_eq0 hp
              have hxe : x.pre = [] := List.length_eq_zero_iff.1 hp
              by_cases hq : y.pre.length = 0
              · have hbq := int_eq0 hq
                have HZ : Hid (R = 0) := by show _ = _; rw [HO.out, HP.out, if_pos (.inl hxe), if_neg (by omega), if_neg (by omega)]
                clear hp hq hxe HP HO
                go_wp2_with fail
                go_quiet (first | (go_at_call 46; exact Calls.quiet_of_same (TR.out _ _)) | fail)
                go_wp2_with fail
                go_ret
                exact ⟨ret_i HZ.out.symm, (S2.next (below_drewN _ _ _)).below⟩
              · have hbq := int_ne0 hq
                have HZ : Hid (R = 1) := by show _ = _; rw [HO.out, HP.out, if_pos (.inl hxe), if_neg (by omega), if_pos (by omega)]
                clear hp hq hxe HP HO
                go_wp2_with fail
                go_quiet (first | (go_at_call 46; exact Calls.quiet_of_same (TR.out _ _)) | fail)
                go_wp2_with fail
                go_ret
                exact ⟨ret_i HZ.out.symm, (S2.next (below_drewN _ _ _)).below⟩
            · have hbp := int_ne0 hp
              by_cases hq : y.pre.length = 0
              · have hbq := int_eq0 hq
                have hye : y.pre = [] := List.length_eq_zero_iff.1 hq
                have HZ : Hid (R = -1) := by show _ = _; rw [HO.out, HP.out, if_pos (.inr hye), if_pos (by omega)]
                clear hp hq hye HP HO
                go_wp2_with fail
                go_quiet (first | (go_at_call 46; exact Calls.quiet_of_same (TR.out _ _)) | fail)
                go_wp2_with fail
                go_ret
                exact ⟨ret_i HZ.out.symm, (S2.next (below_drewN _ _ _)).below⟩
              · have hbq := int_ne0 hq
                have HZ : Hid (R = lexO (x.pre.drop 0) (y.pre.drop 0)) := by
                  show _ = _
                  rw [HO.out, HP.out, if_neg (by rintro (h | h) <;> simp [h] at hp hq)]; rfl
                clear hp hq HP HO C1 C2 C3
                go_wp2_with fail
                clear r0 r1 r2 r3 r4 z0 z1 z2 z3 z4
                go_loopw [8] (fun v wr => ∃ k : Nat, k ≤ x.pre.length ∧ k ≤ y.pre.length ∧ v = .int .i64 k ∧ SB w x y a1 a2 a3 a4 c1 c2 c3 c4 wr ∧ Hid (R = lexO (x.pre.drop k) (y.pre.drop k))) (fun v _ => x.pre.length - (intOf v).toNat)
                case atStart => exact ⟨0, by omega, by omega, rfl, S2, HZ⟩
                case round =>
                  clear S2 HZ
                  obtain ⟨k, hk1, hk2, rfl, S, HR⟩ := hrel
                  obtain ⟨r0, r1, r2, r3, r4⟩ := seen5 S.b0
                  obtain ⟨z0, z1, z2, z3, z4⟩ := seen5 S.b1
                  by_cases h1 : k < x.pre.length
                  · have h1' : (k : Int) < (x.pre.length : Int) := by omega
                    by_cases h2 : k < y.pre.length
                    · have h2' : (k : Int) < (y.pre.length : Int) := by omega
                      obtain ⟨g1, o1, rfl, d1⟩ := (T1.out _ S.below).some (by omega)
                      obtain ⟨g2, o2, rfl, d2⟩ := (T2.out _ S.below).some (by omega)
                      have e1 := d1 k h1
                      have e2 := d2 k h2
                      have ON := hide (fun w => Rone_any x.pre[k] y.pre[k] w (HX.out _ (List.getElem_mem _)) (HY.out _ (List.getElem_mem _)))
                      have HL := hide (lexO_drop x.pre y.pre k h1 h2)
                      clear d1 d2
                      generalize x.pre[k] = s at *
                      generalize y.pre[k] = t at *
                      generalize oneO s t = c at *
                      clear h1 h2
                      by_cases h0 : c = 0
                      · subst h0
                        have HZ : Hid (R = lexO (x.pre.drop (k + 1)) (y.pre.drop (k + 1))) := by show _ = _; rw [HR.out, HL.out, if_pos rfl]
                        clear HR HL
                        go_wp2_with fail
                        go_quiet (first | (go_at_call 47; exact Calls.quiet_of_same (ON.out _)) | fail)
                        go_wp2_with fail
                        go_roundw
                        case rel => exact ⟨k + 1, by omega, by omega, by go_num, S.next (below_drewN _ _ _), HZ⟩
                        case measure => simp [intOf]; omega
                      · have hb0 : (c != 0) = true := by simpa using h0
                        have HZ : Hid (R = c) := by show _ = _; rw [HR.out, HL.out, if_neg h0]
                        clear HR HL h0
                        go_wp2_with fail
                        go_quiet (first | (go_at_call 47; exact Calls.quiet_of_same (ON.out _)) | fail)
                        go_wp2_with fail
                        go_ret
                        exact ⟨ret_i HZ.out.symm, (S.next (below_drewN _ _ _)).below⟩
                    · have h2' : ¬ (k : Int) < (y.pre.length : Int) := by omega
                      have HZ : Hid (R = 1) := by show _ = _; rw [HR.out, lexO_endb _ _ k h1 (by omega)]
                      have g1 : (y.pre.length : Int) < (x.pre.length : Int) := by omega
                      have g2 : ¬ (x.pre.length : Int) < (y.pre.length : Int) := by omega
                      have g3 : decide ((x.pre.length : Int) < (y.pre.length : Int)) = false := by simpa using g2
                      have g4 : decide ((y.pre.length : Int) < (x.pre.length : Int)) = true := by simpa using g1
                      clear h1 h2 HR
                      go_wp2_with fail
                      all_goals (go_quiet (first | (go_at_call 46; exact Calls.quiet_of_same (TR.out _ _)) | fail))
                      all_goals (go_wp2_with fail)
                      all_goals (go_ret)
                      all_goals exact ⟨ret_i HZ.out.symm, (S.next (below_drewN _ _ _)).below⟩
                  · have h1' : ¬ (k : Int) < (x.pre.length : Int) := by omega
                    by_cases h2 : k < y.pre.length
                    · have HZ : Hid (R = -1) := by show _ = _; rw [HR.out, lexO_enda _ _ k (by omega) h2]
                      have g1 : ¬ (y.pre.length : Int) < (x.pre.length : Int) := by omega
                      have g2 : (x.pre.length : Int) < (y.pre.length : Int) := by omega
                      have g3 : decide ((x.pre.length : Int) < (y.pre.length : Int)) = true := by simpa using g2
                      have g4 : decide ((y.pre.length : Int) < (x.pre.length : Int)) = false := by simpa using g1
                      clear h1 h2 HR
                      go_wp2_with fail
                      all_goals (go_quiet (first | (go_at_call 46; exact Calls.quiet_of_same (TR.out _ _)) | fail))
                      all_goals (go_wp2_with fail)
                      all_goals (go_ret)
                      all_goals exact ⟨ret_i HZ.out.symm, (S.next (below_drewN _ _ _)).below⟩
                    · have HZ : Hid (R = 0) := by show _ = _; rw [HR.out, lexO_end _ _ k (by omega) (by omega)]
                      have g1 : ¬ (y.pre.length : Int) < (x.pre.length : Int) := by omega
                      have g2 : ¬ (x.pre.length : Int) < (y.pre.length : Int) := by omega
                      have g3 : decide ((x.pre.length : Int) < (y.pre.length : Int)) = false := by simpa using g2
                      have g4 : decide ((y.pre.length : Int) < (x.pre.length : Int)) = false := by simpa using g1
                      clear h1 h2 HR
                      go_wp2_with fail
                      all_goals (go_quiet (first | (go_at_call 46; exact Calls.quiet_of_same (TR.out _ _)) | fail))
                      all_goals (go_wp2_with fail)
                      all_goals (go_ret)
                      all_goals exact ⟨ret_i HZ.out.symm, (S.next (below_drewN _ _ _)).below⟩
          · have hb3 : (o3 != 0) = true := by simpa using h3
            have HO : Hid (R = o3) := by show _ = _; rw [HO.out, if_neg h3]
            clear h3
            go_wp2_with fail
            go_ret
            exact ⟨ret_i HO.out.symm, S2.below⟩
        · have hb2 : (o2 != 0) = true := by simpa using h2
          have HO : Hid (R = o2) := by show _ = _; rw [HO.out, if_neg h2]
          clear h2
          go_wp2_with fail
          go_ret
          exact ⟨ret_i HO.out.symm, S2.below⟩
      · have hb1 : (o1 != 0) = true := by simpa using h1
        have HO : Hid (R = o1) := by show _ = _; rw [HO.out, if_neg h1]
        clear h1
        go_wp2_with fail
        go_ret
        exact ⟨ret_i HO.out.symm, S2.below⟩

end Go.Proofs.Ytkngmgdcnplkgaa

/-
  Walks: the document's order of texts.
-/
namespace Go.Proofs.Ytkngmgdcnplkgaa
open Go.RowKit Go.Shelf
set_option linter.unusedVariables false

theorem cmpT_p (a b : List UInt8) : cmpT a b = if (fauP a).1 = 0 then (if (fauP b).1 = 0 then ordW (semP a) (semP b) else 1) else (if (fauP b).1 = 0 then -1 else Lib.compareBytes a b) := by
  unfold cmpT fauP semP
  cases ha : parseR a with
  | error x =>
    have hx := parse_err ha
    cases hb : parseR b with
    | error y =>
      have hy := parse_err hb
      simp only [if_neg hx, if_neg hy]
    | ok y => simp only [if_neg hx, if_true]
  | ok x =>
    cases hb : parseR b with
    | error y =>
      have hy := parse_err hb
      simp only [if_neg hy, if_true]
    | ok y =>
      simp only [if_true]
      unfold ordW
      rw [(parse_fit ha).1, (parse_fit hb).1]
      rfl

set_option maxRecDepth 100000 in
set_option maxHeartbeats 4000000 in
theorem RCompare_any (s t : ByteArray) (w : World) :
    Calls Try.prog 24 #[.string s, .string t] w fun e w' => e = .returned (.int .i64 (cmpT s.data.toList t.data.toList)) ∧ Below w.heap.size w w' := by
  have P1 := hide (fun w => rparse_two s w)
  have P2 := hide (fun w => rparse_two t w)
  have HC := cmpT_p s.data.toList t.data.toList
  have lx := (semP_len s.data.toList).2
  have ly := (semP_len t.data.toList).2
  have HB := cmp3 s.toList t.toList
  rw [← toL, ← toL] at HC
  rw [← toL, ← toL]
  have HC := hide HC
  have HB := hide HB
  generalize cmpT s.toList t.toList = R at *
  generalize Lib.compareBytes s.toList t.toList = c9 at *
  rw [toL, toL] at HC
  generalize semP s.data.toList = x at *
  generalize semP t.data.toList = y at *
  generalize fauP s.data.toList = f at *
  generalize fauP t.data.toList = g at *
  obtain ⟨f1, f2⟩ := f
  obtain ⟨g1, g2⟩ := g
  simp only at P1 P2 HC
  have TR := hide (fun b w => Rtruth_any b w)
  by_cases hf : f1 = 0
  · by_cases hg : g1 = 0
    · have HZ : Hid (R = ordW x y) := by show _ = _; rw [HC.out, if_pos hf, if_pos hg]
      subst hf hg
      have RO := hide (fun W v u hv hu => ROrder_any v u x y W hv hu lx ly)
      clear HC lx ly HB
      go_enter Try.func24, Try.ntmps24
      go_wp2_with fail
      refine (P1.out _).mono ?_
      rintro e w1 ⟨b1, v, rfl, hv⟩
      have HV := hide (fun W (h : Below w1.heap.size w1 W) => hv.toAt.below h)
      obtain ⟨vp, vb, rfl, ⟨a1, c1, rfl, _⟩, ⟨a3, c3, rfl, _⟩, _, _⟩ := hv
      have B1 := b1.alloc b1.size (.cells #[.string (ofL x.maj), .string (ofL x.min), .string (ofL x.pat), .slice a1 x.pre.length c1, .slice a3 x.bld.length c3] 24)
      have bb1 := (Below.refl _ w1).alloc (Nat.le_refl _) (.cells #[.string (ofL x.maj), .string (ofL x.min), .string (ofL x.pat), .slice a1 x.pre.length c1, .slice a3 x.bld.length c3] 24)
      have k1 := World.alloc_heap_new w1 (.cells #[.string (ofL x.maj), .string (ofL x.min), .string (ofL x.pat), .slice a1 x.pre.length c1, .slice a3 x.bld.length c3] 24)
      go_wp2_with fail
      generalize w1.alloc (.cells #[.string (ofL x.maj), .string (ofL x.min), .string (ofL x.pat), .slice a1 x.pre.length c1, .slice a3 x.bld.length c3] 24) = W1 at *
      refine (P2.out _).mono ?_
      rintro e w2 ⟨b2, u, rfl, hu⟩
      have HU := hide (fun W (h : Below w2.heap.size w2 W) => hu.toAt.below h)
      obtain ⟨up, ub, rfl, ⟨a2, c2, rfl, _⟩, ⟨a4, c4, rfl, _⟩, _, _⟩ := hu
      have B2 := B1.trans (b2.mono B1.size)
      have bb2 := (Below.refl _ w2).alloc (Nat.le_refl _) (.cells #[.string (ofL y.maj), .string (ofL y.min), .string (ofL y.pat), .slice a2 y.pre.length c2, .slice a4 y.bld.length c4] 24)
      have B3 := B2.trans (bb2.mono B2.size)
      have bbv := (bb1.trans (b2.mono bb1.size)).trans (bb2.mono (Nat.le_trans bb1.size b2.size))
      have k2 := World.alloc_heap_new w2 (.cells #[.string (ofL y.maj), .string (ofL y.min), .string (ofL y.pat), .slice a2 y.pre.length c2, .slice a4 y.bld.length c4] 24)
      have l1 : w1.heap.size < W1.heap.size := (Array.getElem?_eq_some_iff.1 k1).1
      have l2 := b2.size
      have k1' := (b2.block _ l1).trans k1
      have hne : w1.heap.size < w2.heap.size := by omega
      obtain ⟨r0, r1, r2, r3, r4⟩ := seen5 k1'
      have RO1 := hide (RO.out _ _ _ (HV.out _ bbv) (HU.out _ bb2))
      clear b1 b2 bb1 bb2 bbv B1 B2 k1 HV HU RO
      clear k1' k2
      go_wp2_with fail
      refine RO1.out.mono ?_
      rintro e w3 ⟨rfl, b3⟩
      go_wp2_with fail
      go_ret
      exact ⟨ret_i HZ.out.symm, B3.trans (b3.mono B3.size)⟩
    · have HZ : Hid (R = 1) := by show _ = _; rw [HC.out, if_pos hf, if_neg hg]
      have hg0 : (g1 != 0) = true := by simpa using hg
      have hg1 : (g1 == 0) = false := by simpa using hg
      subst hf
      clear HC lx ly HB hg
      go_enter Try.func24, Try.ntmps24
      go_wp2_with fail
      refine (P1.out _).mono ?_
      rintro e w1 ⟨b1, v, rfl, hv⟩
      obtain ⟨vp, vb, rfl, ⟨a1, c1, rfl, _⟩, ⟨a3, c3, rfl, _⟩, _, _⟩ := hv
      have B1 := b1.alloc b1.size (.cells #[.string (ofL x.maj), .string (ofL x.min), .string (ofL x.pat), .slice a1 x.pre.length c1, .slice a3 x.bld.length c3] 24)
      go_wp2_with fail
      refine (P2.out _).mono ?_
      rintro e w2 ⟨b2, u, rfl, hu⟩
      obtain ⟨up, ub, rfl, ⟨a2, c2, rfl, _⟩, ⟨a4, c4, rfl, _⟩, _, _⟩ := hu
      have B2 := B1.trans (b2.mono B1.size)
      have B3 := B2.alloc B2.size (.cells #[.string (ofL y.maj), .string (ofL y.min), .string (ofL y.pat), .slice a2 y.pre.length c2, .slice a4 y.bld.length c4] 24)
      clear b1 b2 B1 B2
      go_wp2_with fail
      refine (TR.out true _).mono ?_
      rintro e w' ⟨rfl, hw'⟩
      rw [hw']; clear hw' w'
      go_wp2_with fail
      refine (TR.out false _).mono ?_
      rintro e w' ⟨rfl, hw'⟩
      rw [hw']; clear hw' w'
      go_wp2_with fail
      go_ret
      exact ⟨ret_i HZ.out.symm, B3⟩
  · have hf0 : (f1 != 0) = true := by simpa using hf
    have hf1 : (f1 == 0) = false := by simpa using hf
    by_cases hg : g1 = 0
    · have HZ : Hid (R = -1) := by show _ = _; rw [HC.out, if_neg hf, if_pos hg]
      subst hg
      clear HC lx ly HB hf
      go_enter Try.func24, Try.ntmps24
      go_wp2_with fail
      refine (P1.out _).mono ?_
      rintro e w1 ⟨b1, v, rfl, hv⟩
      obtain ⟨vp, vb, rfl, ⟨a1, c1, rfl, _⟩, ⟨a3, c3, rfl, _⟩, _, _⟩ := hv
      have B1 := b1.alloc b1.size (.cells #[.string (ofL x.maj), .string (ofL x.min), .string (ofL x.pat), .slice a1 x.pre.length c1, .slice a3 x.bld.length c3] 24)
      go_wp2_with fail
      refine (P2.out _).mono ?_
      rintro e w2 ⟨b2, u, rfl, hu⟩
      obtain ⟨up, ub, rfl, ⟨a2, c2, rfl, _⟩, ⟨a4, c4, rfl, _⟩, _, _⟩ := hu
      have B2 := B1.trans (b2.mono B1.size)
      have B3 := B2.alloc B2.size (.cells #[.string (ofL y.maj), .string (ofL y.min), .string (ofL y.pat), .slice a2 y.pre.length c2, .slice a4 y.bld.length c4] 24)
      clear b1 b2 B1 B2
      go_wp2_with fail
      refine (TR.out false _).mono ?_
      rintro e w' ⟨rfl, hw'⟩
      rw [hw']; clear hw' w'
      go_wp2_with fail
      refine (TR.out true _).mono ?_
      rintro e w' ⟨rfl, hw'⟩
      rw [hw']; clear hw' w'
      go_wp2_with fail
      go_ret
      exact ⟨ret_i HZ.out.symm, B3⟩
    · have HZ : Hid (R = c9) := by show _ = _; rw [HC.out, if_neg hf, if_neg hg]
      have hg0 : (g1 != 0) = true := by simpa using hg
      have hg1 : (g1 == 0) = false := by simpa using hg
      clear HC lx ly hf hg
      rcases HB.out with ⟨rfl, hbl⟩ | ⟨rfl, hbl, heq⟩ | ⟨rfl, hbl, heq⟩
      · go_enter Try.func24, Try.ntmps24
        go_wp2_with fail
        refine (P1.out _).mono ?_
        rintro e w1 ⟨b1, v, rfl, hv⟩
        obtain ⟨vp, vb, rfl, ⟨a1, c1, rfl, _⟩, ⟨a3, c3, rfl, _⟩, _, _⟩ := hv
        have B1 := b1.alloc b1.size (.cells #[.string (ofL x.maj), .string (ofL x.min), .string (ofL x.pat), .slice a1 x.pre.length c1, .slice a3 x.bld.length c3] 24)
        go_wp2_with fail
        refine (P2.out _).mono ?_
        rintro e w2 ⟨b2, u, rfl, hu⟩
        obtain ⟨up, ub, rfl, ⟨a2, c2, rfl, _⟩, ⟨a4, c4, rfl, _⟩, _, _⟩ := hu
        have B2 := B1.trans (b2.mono B1.size)
        have B3 := B2.alloc B2.size (.cells #[.string (ofL y.maj), .string (ofL y.min), .string (ofL y.pat), .slice a2 y.pre.length c2, .slice a4 y.bld.length c4] 24)
        clear b1 b2 B1 B2
        go_wp2_with fail
        refine (TR.out false _).mono ?_
        rintro e w' ⟨rfl, hw'⟩
        rw [hw']; clear hw' w'
        go_wp2_with fail
        refine (TR.out true _).mono ?_
        rintro e w' ⟨rfl, hw'⟩
        rw [hw']; clear hw' w'
        go_wp2_with fail
        go_ret
        exact ⟨ret_i HZ.out.symm, B3⟩
      · go_enter Try.func24, Try.ntmps24
        go_wp2_with fail
        refine (P1.out _).mono ?_
        rintro e w1 ⟨b1, v, rfl, hv⟩
        obtain ⟨vp, vb, rfl, ⟨a1, c1, rfl, _⟩, ⟨a3, c3, rfl, _⟩, _, _⟩ := hv
        have B1 := b1.alloc b1.size (.cells #[.string (ofL x.maj), .string (ofL x.min), .string (ofL x.pat), .slice a1 x.pre.length c1, .slice a3 x.bld.length c3] 24)
        go_wp2_with fail
        refine (P2.out _).mono ?_
        rintro e w2 ⟨b2, u, rfl, hu⟩
        obtain ⟨up, ub, rfl, ⟨a2, c2, rfl, _⟩, ⟨a4, c4, rfl, _⟩, _, _⟩ := hu
        have B2 := B1.trans (b2.mono B1.size)
        have B3 := B2.alloc B2.size (.cells #[.string (ofL y.maj), .string (ofL y.min), .string (ofL y.pat), .slice a2 y.pre.length c2, .slice a4 y.bld.length c4] 24)
        clear b1 b2 B1 B2
        go_wp2_with fail
        refine (TR.out false _).mono ?_
        rintro e w' ⟨rfl, hw'⟩
        rw [hw']; clear hw' w'
        go_wp2_with fail
        refine (TR.out false _).mono ?_
        rintro e w' ⟨rfl, hw'⟩
        rw [hw']; clear hw' w'
        go_wp2_with fail
        go_ret
        exact ⟨ret_i HZ.out.symm, B3⟩
      · go_enter Try.func24, Try.ntmps24
        go_wp2_with fail
        refine (P1.out _).mono ?_
        rintro e w1 ⟨b1, v, rfl, hv⟩
        obtain ⟨vp, vb, rfl, ⟨a1, c1, rfl, _⟩, ⟨a3, c3, rfl, _⟩, _, _⟩ := hv
        have B1 := b1.alloc b1.size (.cells #[.string (ofL x.maj), .string (ofL x.min), .string (ofL x.pat), .slice a1 x.pre.length c1, .slice a3 x.bld.length c3] 24)
        go_wp2_with fail
        refine (P2.out _).mono ?_
        rintro e w2 ⟨b2, u, rfl, hu⟩
        obtain ⟨up, ub, rfl, ⟨a2, c2, rfl, _⟩, ⟨a4, c4, rfl, _⟩, _, _⟩ := hu
        have B2 := B1.trans (b2.mono B1.size)
        have B3 := B2.alloc B2.size (.cells #[.string (ofL y.maj), .string (ofL y.min), .string (ofL y.pat), .slice a2 y.pre.length c2, .slice a4 y.bld.length c4] 24)
        clear b1 b2 B1 B2
        go_wp2_with fail
        refine (TR.out true _).mono ?_
        rintro e w' ⟨rfl, hw'⟩
        rw [hw']; clear hw' w'
        go_wp2_with fail
        refine (TR.out false _).mono ?_
        rintro e w' ⟨rfl, hw'⟩
        rw [hw']; clear hw' w'
        go_wp2_with fail
        go_ret
        exact ⟨ret_i HZ.out.symm, B3⟩

end Go.Proofs.Ytkngmgdcnplkgaa

/-
  Walks: the program's Sort: a text read, and the comparing closure.
-/
namespace Go.Proofs.Ytkngmgdcnplkgaa
open Go.RowKit Go.Shelf
set_option linter.unusedVariables false

/-- What reading leaves, and where. -/
def ReadNew (s : ByteArray) (w : World) (r : Ending) (w' : World) : Prop := ∃ (m1 m2 m3 : ByteArray) (p q : Option Addr × Nat × Nat) (k : Bool), r = .returned (.agg #[.string s, .string m1, .string m2, .string m3, .slice p.1 p.2.1 p.2.2, .slice q.1 q.2.1 q.2.2, .bool k]) ∧ EntAt w' (.agg #[.string s, .string m1, .string m2, .string m3, .slice p.1 p.2.1 p.2.2, .slice q.1 q.2.1 q.2.2, .bool k]) s.data.toList ∧ Below w.heap.size w w' ∧ (∀ ad, p.1 = some ad → w.heap.size ≤ ad.block) ∧ (∀ ad, q.1 = some ad → w.heap.size ≤ ad.block)

set_option maxRecDepth 100000 in
set_option maxHeartbeats 1000000 in
theorem read_new (PA : ∀ (s : ByteArray) (w : World), s.size ≤ 64 → Calls Try.prog 9 #[.string s] w (PPost s w)) (s : ByteArray) (w : World) :
    Calls Try.prog 78 #[.string s, .func (.func 9) #[] #[]] w (ReadNew s w) := by
  cases hp : parseR s.data.toList with
  | error x =>
    have HX := hide (parse_err hp)
    have hxb : (x.1 == 0) = false := by simpa using HX.out
    go_enter Try.func78, Try.ntmps78
    go_wp2_with fail
    refine (Parse_sem PA s _).mono ?_
    rintro e w1 ⟨b1, h1⟩
    unfold PRes at h1
    rw [hp] at h1
    subst h1
    unfold semZ
    have eR := (b1.block w.heap.size (by simp)).trans (World.alloc_heap_new w _)
    have bw := (((Below.refl _ w).alloc (Nat.le_refl _) _)).trans (b1.mono (by simp))
    have hlt : w.heap.size < w1.heap.size := (Array.getElem?_eq_some_iff.1 eR).1
    have hlt1 : w.heap.size < w1.heap.size + 1 := by omega
    have hlt2 : w.heap.size < w1.heap.size + 1 + 1 := by omega
    have r0 := cell_at 0 eR rfl
    have r1 := cell_at 1 eR rfl
    have r2 := cell_at 2 eR rfl
    have r3 := cell_at 3 eR rfl
    have r4 := cell_at 4 eR rfl
    have r5 := cell_at 5 eR rfl
    have r6 := cell_at 6 eR rfl
    have z0 := one_free 0 eR
    have z1 := one_free 1 eR
    have z2 := one_free 2 eR
    have z3 := one_free 3 eR
    have z4 := one_free 4 eR
    have z5 := one_free 5 eR
    have z6 := one_free 6 eR
    clear b1
    go_wp2_with fail
    obtain ⟨W9, hW9, g1, hbl, hk, hs9⟩ := seven_world (.string s) (.string ⟨#[]⟩) (.string ⟨#[]⟩) (.string ⟨#[]⟩) (.slice none 0 0) (.slice none 0 0) (.bool false) (.cells #[.string ⟨#[]⟩, .string ⟨#[]⟩, .string ⟨#[]⟩, .slice none 0 0, .slice none 0 0] 24) (.cells #[.int .i64 x.1, .int .i64 (x.2 : Int)] 27) eR
    rw [← hW9]
    refine fin33 _ W9 w.heap.size _ _ _ _ _ _ _ ⟨_, _, _, rfl⟩ ⟨_, _, _, rfl⟩ rfl g1 ?_
    refine ⟨_, _, _, (none, 0, 0), (none, 0, 0), _, rfl, ?_, bw.trans (hbl _ (Nat.le_refl _)), (fun ad h => by cases h), (fun ad h => by cases h)⟩
    unfold EntAt
    rw [hp, ofL_self]
  | ok c =>
    go_enter Try.func78, Try.ntmps78
    go_wp2_with fail
    refine (Parse_sem PA s _).mono ?_
    rintro e w1 ⟨b1, h1⟩
    unfold PRes at h1
    rw [hp] at h1
    obtain ⟨vp, vb, rfl, t1, t2, fr1, fr2⟩ := h1
    simp only [World.size_alloc] at fr1 fr2
    obtain ⟨a1, c1, rfl, q1⟩ := id t1
    obtain ⟨a2, c2, rfl, q2⟩ := id t2
    have eR := (b1.block w.heap.size (by simp)).trans (World.alloc_heap_new w _)
    have bw := (((Below.refl _ w).alloc (Nat.le_refl _) _)).trans (b1.mono (by simp))
    have hlt : w.heap.size < w1.heap.size := (Array.getElem?_eq_some_iff.1 eR).1
    have hlt1 : w.heap.size < w1.heap.size + 1 := by omega
    have hlt2 : w.heap.size < w1.heap.size + 1 + 1 := by omega
    have T1 : Hid (∀ (W' : World), (∀ j, j < w1.heap.size → j ≠ w.heap.size → W'.heap[j]? = w1.heap[j]?) → w1.heap.size ≤ W'.heap.size → Txt W' _ (semOf s.data.toList c).pre) := fun W' hk hs => txt_kept (B := w.heap.size) t1 hk hs (fun a n cap hv hn => by have := fr1 _ _ _ hv; omega)
    have T2 : Hid (∀ (W' : World), (∀ j, j < w1.heap.size → j ≠ w.heap.size → W'.heap[j]? = w1.heap[j]?) → w1.heap.size ≤ W'.heap.size → Txt W' _ (semOf s.data.toList c).bld) := fun W' hk hs => txt_kept (B := w.heap.size) t2 hk hs (fun a n cap hv hn => by have := fr2 _ _ _ hv; omega)
    have r0 := cell_at 0 eR rfl
    have r1 := cell_at 1 eR rfl
    have r2 := cell_at 2 eR rfl
    have r3 := cell_at 3 eR rfl
    have r4 := cell_at 4 eR rfl
    have r5 := cell_at 5 eR rfl
    have r6 := cell_at 6 eR rfl
    have z0 := one_free 0 eR
    have z1 := one_free 1 eR
    have z2 := one_free 2 eR
    have z3 := one_free 3 eR
    have z4 := one_free 4 eR
    have z5 := one_free 5 eR
    have z6 := one_free 6 eR
    have N1 : Hid (∀ ad, a1 = some ad → w.heap.size ≤ ad.block) := fun ad h => by have := fr1 ad _ _ (by rw [h]); omega
    have N2 : Hid (∀ ad, a2 = some ad → w.heap.size ≤ ad.block) := fun ad h => by have := fr2 ad _ _ (by rw [h]); omega
    clear b1 t1 t2 q1 q2 fr1 fr2
    go_wp2_with fail
    obtain ⟨W9, hW9, g1, hbl, hk, hs9⟩ := seven_world (.string s) (.string (ofL (semOf s.data.toList c).maj)) (.string (ofL (semOf s.data.toList c).min)) (.string (ofL (semOf s.data.toList c).pat)) (.slice a1 (semOf s.data.toList c).pre.length c1) (.slice a2 (semOf s.data.toList c).bld.length c2) (.bool true) (.cells #[.string (ofL (semOf s.data.toList c).maj), .string (ofL (semOf s.data.toList c).min), .string (ofL (semOf s.data.toList c).pat), .slice a1 (semOf s.data.toList c).pre.length c1, .slice a2 (semOf s.data.toList c).bld.length c2] 24) (.cells #[.int .i64 0, .int .i64 0] 27) eR
    rw [← hW9]
    refine fin33 _ W9 w.heap.size _ _ _ _ _ _ _ ⟨_, _, _, rfl⟩ ⟨_, _, _, rfl⟩ rfl g1 ?_
    refine ⟨_, _, _, (a1, _, c1), (a2, _, c2), _, rfl, ?_, bw.trans (hbl _ (Nat.le_refl _)), N1.out, N2.out⟩
    unfold EntAt
    rw [hp]
    exact ⟨_, _, by rw [ofL_self], T1.out _ hk hs9, T2.out _ hk hs9⟩

/-- A text with where its parts lie. -/
structure Rdg where
  txt : List UInt8
  m1 : ByteArray
  m2 : ByteArray
  m3 : ByteArray
  p : Option Addr × Nat × Nat
  q : Option Addr × Nat × Nat
  ok : Bool
/-- Its value. -/
def Rdg.val (r : Rdg) : Value := .agg #[.string (ofL r.txt), .string r.m1, .string r.m2, .string r.m3, .slice r.p.1 r.p.2.1 r.p.2.2, .slice r.q.1 r.q.2.1 r.q.2.2, .bool r.ok]
/-- It says what its text says, outside of a block. -/
def Good (W : World) (B : Nat) (r : Rdg) : Prop := EntAt W r.val r.txt ∧ (∀ ad, r.p.1 = some ad → ad.block ≠ B) ∧ ∀ ad, r.q.1 = some ad → ad.block ≠ B
theorem Good.turn {W W' : World} {B : Nat} {r : Rdg} (h : Good W B r) (ht : Turn B W W') : Good W' B r := by
  obtain ⟨h1, h2, h3⟩ := h
  refine ⟨?_, h2, h3⟩
  unfold EntAt at *
  cases hp : parseR r.txt with
  | error x => rw [hp] at h1; exact h1
  | ok c =>
    rw [hp] at h1
    obtain ⟨vp, vb, hv, t1, t2⟩ := h1
    have e := hv
    unfold Rdg.val at e
    simp only [Value.agg.injEq, Array.mk.injEq, List.cons.injEq, and_true, true_and] at e
    obtain ⟨_, _, _, e4, e5, _⟩ := e
    refine ⟨vp, vb, hv, txt_kept (B := B) t1 ht.block ht.size (fun a n cap hx _ => ?_), txt_kept (B := B) t2 ht.block ht.size (fun a n cap hx _ => ?_)⟩
    · rw [← e4] at hx
      exact h2 a (Value.slice.inj hx).1
    · rw [← e5] at hx
      exact h3 a (Value.slice.inj hx).1
def zeroR : Rdg := ⟨[], ⟨#[]⟩, ⟨#[]⟩, ⟨#[]⟩, (none, 0, 0), (none, 0, 0), false⟩
theorem parse_nil : parseR [] = .error (11, 0) := by kernel_rfl
theorem good_zero (W : World) (B : Nat) : Good W B zeroR := ⟨(by unfold EntAt; rw [show zeroR.txt = [] from rfl, parse_nil]; rfl), (fun ad h => by cases h), (fun ad h => by cases h)⟩

/-- A reading, cell by cell. -/
def rdE : Cel Rdg where
  c0 r := ofL r.txt
  c1 r := r.m1
  c2 r := r.m2
  c3 r := r.m3
  c4 r := r.p
  c5 r := r.q
  c6 r := r.ok
/-- Readings that say what their texts say. -/
structure GRd (W : World) (B : Nat) where
  rd : Rdg
  good : Good W B rd
def grE (W : World) (B : Nat) : Cel (GRd W B) where
  c0 r := ofL r.rd.txt
  c1 r := r.rd.m1
  c2 r := r.rd.m2
  c3 r := r.rd.m3
  c4 r := r.rd.p
  c5 r := r.rd.q
  c6 r := r.rd.ok
def grF (W : World) (B : Nat) (x y : GRd W B) : Int := cmpT x.rd.txt y.rd.txt
theorem grF_cmp3 (W : World) (B : Nat) : Cmp3 (grF W B) := cmpT_cmp3.pull (fun x : GRd W B => x.rd.txt)
def good_list (W : World) (B : Nat) : (rs : List Rdg) → (∀ r ∈ rs, Good W B r) → List (GRd W B)
  | [], _ => []
  | r :: rs, h => ⟨r, h r List.mem_cons_self⟩ :: good_list W B rs (fun q hq => h q (List.mem_cons_of_mem _ hq))
theorem good_flat (W : World) (B : Nat) : ∀ (rs : List Rdg) (h : ∀ r ∈ rs, Good W B r), (grE W B).flat (good_list W B rs h) = rdE.flat rs
  | [], _ => rfl
  | r :: rs, h => by
    rw [good_list, flat_cons, flat_cons, good_flat W B rs]
    rfl
theorem good_txt (W : World) (B : Nat) : ∀ (rs : List Rdg) (h : ∀ r ∈ rs, Good W B r), (good_list W B rs h).map (fun x => x.rd.txt) = rs.map Rdg.txt
  | [], _ => rfl
  | r :: rs, h => by
    rw [good_list, List.map_cons, List.map_cons, good_txt W B rs]

set_option maxRecDepth 100000 in
set_option maxHeartbeats 1000000 in
/-- The comparing closure. -/
theorem cmpG_any (w0 : World) (B Bo : Nat) (hBo : Bo ≠ B) (ho : Boxed w0 Bo 38 (.func (.func 45) #[] #[])) : CmpG (grE w0 B) (grF w0 B) (.pointer (some ⟨Bo, 0, none⟩)) w0 B := by
  intro W hW x y
  have ho' : Boxed W Bo 38 (.func (.func 45) #[] #[]) := (hW.block Bo ho.lt hBo).trans ho
  have gx := (x.good.turn hW).1
  have gy := (y.good.turn hW).1
  have lo := ho'.lt
  have b0 := hide (((Below.refl _ W).alloc (Nat.le_refl _) (.cells #[.string ((grE w0 B).c0 x), .string ((grE w0 B).c1 x), .string ((grE w0 B).c2 x), .string ((grE w0 B).c3 x), .slice ((grE w0 B).c4 x).1 ((grE w0 B).c4 x).2.1 ((grE w0 B).c4 x).2.2, .slice ((grE w0 B).c5 x).1 ((grE w0 B).c5 x).2.1 ((grE w0 B).c5 x).2.2, .bool ((grE w0 B).c6 x)] 92)).alloc (by simp) (.cells #[.string ((grE w0 B).c0 y), .string ((grE w0 B).c1 y), .string ((grE w0 B).c2 y), .string ((grE w0 B).c3 y), .slice ((grE w0 B).c4 y).1 ((grE w0 B).c4 y).2.1 ((grE w0 B).c4 y).2.2, .slice ((grE w0 B).c5 y).1 ((grE w0 B).c5 y).2.1 ((grE w0 B).c5 y).2.2, .bool ((grE w0 B).c6 y)] 92))
  have CR : Calls Try.prog 77 #[.agg #[.string ((grE w0 B).c0 x), .string ((grE w0 B).c1 x), .string ((grE w0 B).c2 x), .string ((grE w0 B).c3 x), .slice ((grE w0 B).c4 x).1 ((grE w0 B).c4 x).2.1 ((grE w0 B).c4 x).2.2, .slice ((grE w0 B).c5 x).1 ((grE w0 B).c5 x).2.1 ((grE w0 B).c5 x).2.2, .bool ((grE w0 B).c6 x)], .agg #[.string ((grE w0 B).c0 y), .string ((grE w0 B).c1 y), .string ((grE w0 B).c2 y), .string ((grE w0 B).c3 y), .slice ((grE w0 B).c4 y).1 ((grE w0 B).c4 y).2.1 ((grE w0 B).c4 y).2.2, .slice ((grE w0 B).c5 y).1 ((grE w0 B).c5 y).2.1 ((grE w0 B).c5 y).2.2, .bool ((grE w0 B).c6 y)], .func (.func 45) #[] #[], .func (.func 79) #[] #[]] _ _ :=
    compare_any _ _ x.rd.txt y.rd.txt _ (EntAt.below gx b0.out) (EntAt.below gy b0.out)
  have CR := hide CR
  unfold Cel.val
  have HF : Hid (grF w0 B x y = cmpT x.rd.txt y.rd.txt) := rfl
  generalize grF w0 B x y = R at *
  generalize (grE w0 B).c0 x = x0 at *
  generalize (grE w0 B).c1 x = x1 at *
  generalize (grE w0 B).c2 x = x2 at *
  generalize (grE w0 B).c3 x = x3 at *
  generalize (grE w0 B).c4 x = x4 at *
  generalize (grE w0 B).c5 x = x5 at *
  generalize (grE w0 B).c6 x = x6 at *
  generalize (grE w0 B).c0 y = y0 at *
  generalize (grE w0 B).c1 y = y1 at *
  generalize (grE w0 B).c2 y = y2 at *
  generalize (grE w0 B).c3 y = y3 at *
  generalize (grE w0 B).c4 y = y4 at *
  generalize (grE w0 B).c5 y = y5 at *
  generalize (grE w0 B).c6 y = y6 at *
  obtain ⟨xa, xn, xc⟩ := x4
  obtain ⟨xd, xm, xe⟩ := x5
  obtain ⟨ya, yn, yc⟩ := y4
  obtain ⟨yd, ym, ye⟩ := y5
  dsimp only at CR b0 ⊢
  have co := ho'.cell
  have lo1 : Bo < W.heap.size + 1 := by omega
  clear ho ho' gx gy
  go_enter Try.func81, Try.ntmps81
  go_wp2_with fail
  refine CR.out.mono ?_
  rintro e w1 ⟨rfl, b1⟩
  go_wp2_with fail
  go_ret
  exact ⟨ret_i HF.out.symm, b0.out.trans (b1.mono b0.out.size)⟩

end Go.Proofs.Ytkngmgdcnplkgaa

/-
  Walks: the program's Sort: the two rows it makes.
-/
namespace Go.Proofs.Ytkngmgdcnplkgaa
open Go.RowKit Go.Shelf
set_option linter.unusedVariables false

/-- A reading of nothing. -/
def zero92 : Array Value := #[.string ⟨#[]⟩, .string ⟨#[]⟩, .string ⟨#[]⟩, .string ⟨#[]⟩, .slice none 0 0, .slice none 0 0, .bool false]
theorem made_flat (n : Nat) : (madeCells zero92 (n * 7)).toList = rdE.flat (List.replicate n zeroR) := by
  apply List.ext_getElem?
  intro i
  by_cases hi : i < n * 7
  · have hq : (List.replicate n zeroR)[i / 7]? = some zeroR := by
      rw [List.getElem?_replicate, if_pos (by omega)]
    obtain ⟨h0, h1, h2, h3, h4, h5, h6⟩ := flat_at rdE _ _ _ hq
    have e : (madeCells zero92 (n * 7)).toList[i]? = some (zero92[i % 7]!) := by
      unfold madeCells
      rw [Array.getElem?_toList, Array.getElem?_map, Array.getElem?_range, if_pos hi]
      rfl
    rw [e]
    have hr : i % 7 = 0 ∨ i % 7 = 1 ∨ i % 7 = 2 ∨ i % 7 = 3 ∨ i % 7 = 4 ∨ i % 7 = 5 ∨ i % 7 = 6 := by omega
    rcases hr with hr | hr | hr | hr | hr | hr | hr
    · rw [hr, show i = i / 7 * 7 by omega, h0]; rfl
    · rw [hr, show i = i / 7 * 7 + 1 by omega, h1]; rfl
    · rw [hr, show i = i / 7 * 7 + 2 by omega, h2]; rfl
    · rw [hr, show i = i / 7 * 7 + 3 by omega, h3]; rfl
    · rw [hr, show i = i / 7 * 7 + 4 by omega, h4]; rfl
    · rw [hr, show i = i / 7 * 7 + 5 by omega, h5]; rfl
    · rw [hr, show i = i / 7 * 7 + 6 by omega, h6]; rfl
  · rw [List.getElem?_eq_none (by rw [Array.length_toList, size_madeCells]; omega), List.getElem?_eq_none (by rw [flat_len, List.length_replicate]; omega)]

theorem inf92 : ∃ i, Try.prog.info? 92 = some i ∧ i.zero = some (.agg zero92) ∧ i.bytes = 120 ∧ i.size = 7 := by
  cases h : Try.prog.info? 92 with
  | none => exact absurd (show (Try.prog.info? 92).isSome = true by kernel_rfl) (by rw [h]; simp)
  | some i =>
    refine ⟨i, rfl, ?_, ?_, ?_⟩
    · have : (Try.prog.info? 92).bind (fun i => i.zero) = some (.agg zero92) := by kernel_rfl
      rwa [h] at this
    · have : (Try.prog.info? 92).map (fun i => i.bytes) = some 120 := by kernel_rfl
      rw [h] at this; simpa using this
    · have : (Try.prog.info? 92).map (fun i => i.size) = some 7 := by kernel_rfl
      rw [h] at this; simpa using this
theorem inf9 : ∃ i, Try.prog.info? 9 = some i ∧ i.zero = some (.string ⟨#[]⟩) ∧ i.bytes = 16 ∧ i.size = 1 := by
  cases h : Try.prog.info? 9 with
  | none => exact absurd (show (Try.prog.info? 9).isSome = true by kernel_rfl) (by rw [h]; simp)
  | some i =>
    refine ⟨i, rfl, ?_, ?_, ?_⟩
    · have : (Try.prog.info? 9).bind (fun i => i.zero) = some (.string ⟨#[]⟩) := by kernel_rfl
      rwa [h] at this
    · have : (Try.prog.info? 9).map (fun i => i.bytes) = some 16 := by kernel_rfl
      rw [h] at this; simpa using this
    · have : (Try.prog.info? 9).map (fun i => i.size) = some 1 := by kernel_rfl
      rw [h] at this; simpa using this
theorem mk92 (n : Nat) (hn : n ≤ 1048576) (w : World) : (Instr.makeSlice 94 (.int .i64 (n : Int)) (.int .i64 (n : Int))).run Try.prog w = .ok (.slice (some ⟨w.heap.size, 0, none⟩) n n) (w.alloc (.cells (rdE.flat (List.replicate n zeroR)).toArray 92)) := by
  obtain ⟨i, h1, h2, h3, h4⟩ := inf92
  have h := run_make (P := Try.prog) w 94 92 i (.agg zero92) Try.underlying94 h1 h2 .i64 .i64 (n : Int) (n : Int) (by omega) (Int.le_refl _) (by rw [h3]; omega) (by omega)
  rw [h, h4, Int.toNat_natCast]
  have e : madeCells zero92 (n * 7) = (rdE.flat (List.replicate n zeroR)).toArray := by rw [← made_flat]
  rw [← e]
  rfl
theorem mk9 (n : Nat) (hn : n ≤ 1048576) (w : World) : (Instr.makeSlice 22 (.int .i64 (n : Int)) (.int .i64 (n : Int))).run Try.prog w = .ok (.slice (some ⟨w.heap.size, 0, none⟩) n n) (w.alloc (.cells (List.replicate n (.string ⟨#[]⟩)).toArray 9)) := by
  obtain ⟨i, h1, h2, h3, h4⟩ := inf9
  have h := run_make (P := Try.prog) w 22 9 i (.string ⟨#[]⟩) Try.underlying22 h1 h2 .i64 .i64 (n : Int) (n : Int) (by omega) (Int.le_refl _) (by rw [h3]; omega) (by omega)
  rw [h, h4, Int.toNat_natCast, Nat.mul_one]
  have e : madeCells #[.string ⟨#[]⟩] n = (List.replicate n (.string ⟨#[]⟩ : Value)).toArray := by rw [← toList_madeCells_one]
  rw [← e]
  rfl


end Go.Proofs.Ytkngmgdcnplkgaa

/-
  Walks: the program's Sort.
-/
namespace Go.Proofs.Ytkngmgdcnplkgaa
open Go.RowKit Go.Shelf
set_option linter.unusedVariables false

theorem txt_at {W : World} {a : Option Addr} {n cap : Nat} {ts : List (List UInt8)} (h : Txt W (.slice a n cap) ts) (hne : 0 < ts.length) :
    ∃ b off, a = some ⟨b, off, none⟩ ∧ b < W.heap.size ∧ ∀ i (h : i < ts.length), W.cell? ⟨b, off + i, none⟩ = some (.string (ofL ts[i])) := by
  obtain ⟨a', cap', hv, h0 | ⟨b, off, ha, hlt, hc⟩⟩ := h
  · subst h0; simp at hne
  · cases hv
    exact ⟨b, off, ha, hlt, hc⟩
theorem cell_kept {W W' : World} {b o : Nat} (h : W'.heap[b]? = W.heap[b]?) : W'.cell? ⟨b, o, none⟩ = W.cell? ⟨b, o, none⟩ := by simp only [World.cell?]; rw [h]
theorem take_set {α : Type} (ts : List α) (z : α) (i : Nat) (hi : i < ts.length) : (ts.take i ++ List.replicate (ts.length - i) z).set i ts[i] = ts.take (i + 1) ++ List.replicate (ts.length - (i + 1)) z := by
  have hl : (ts.take i).length = i := by rw [List.length_take]; omega
  rw [List.set_append_right _ _ (by rw [hl]; exact Nat.le_refl _), hl, Nat.sub_self, show ts.length - i = (ts.length - (i + 1)) + 1 by omega, List.replicate_succ, List.set_cons_zero, List.take_succ_eq_append_getElem hi, List.append_assoc]
  rfl

theorem all_set {α : Type} {p : α → Prop} {l : List α} (h : ∀ r ∈ l, p r) (i : Nat) (x : α) (hx : p x) : ∀ r ∈ l.set i x, p r := fun r hr => by
  rcases List.mem_or_eq_of_mem_set hr with hr | rfl
  · exact h r hr
  · exact hx

/-- The rows of the second loop: readings, and texts told so far. -/
structure SW {α : Type} (E : Cel α) (w2 : World) (B C : Nat) (S : List α) (i : Nat) (W : World) : Prop where
  dw : DW E w2 B S W
  ne : C ≠ B
  cs : W.heap[C]? = some (.cells (((S.take i).map fun t => (.string (E.c0 t) : Value)) ++ List.replicate (S.length - i) (.string ⟨#[]⟩ : Value)).toArray 9 (0, 0))
theorem SW.alloc {α : Type} {E : Cel α} {w2 : World} {B C : Nat} {S : List α} {i : Nat} {W : World} (h : SW E w2 B C S i W) (o : Obj) : SW E w2 B C S i (W.alloc o) :=
  ⟨h.dw.next ((Below.refl _ W).alloc (Nat.le_refl _) o), h.ne, (Below.heap_alloc _ _ _ (Array.getElem?_eq_some_iff.1 h.cs).1).trans h.cs⟩
theorem SW.put {α : Type} {E : Cel α} {w2 : World} {B C : Nat} {S : List α} {i : Nat} {W : World} (h : SW E w2 B C S i W) (hC : w2.heap.size ≤ C) (hi : i < S.length) : SW E w2 B C S (i + 1) (W.setCell ⟨C, i, none⟩ (.string (E.c0 S[i]))) := by
  refine ⟨⟨?_, ?_⟩, h.ne, ?_⟩
  · exact ⟨h.dw.turn.os, h.dw.turn.tape, h.dw.turn.output, by rw [show (W.setCell ⟨C, i, none⟩ (.string (E.c0 S[i]))).heap.size = W.heap.size from Array.size_modify]; exact h.dw.turn.size, fun k hk hn => (Below.heap_setCell _ _ _ k (by simp only; omega)).trans (h.dw.turn.block k hk hn)⟩
  · exact (Below.heap_setCell _ _ _ B (fun e => h.ne e.symm)).trans h.dw.cells
  · rw [set_list i _ h.cs]
    congr 3
    have hl : ((S.take i).map fun t => (.string (E.c0 t) : Value)).length = i := by rw [List.length_map, List.length_take]; omega
    rw [List.set_append_right _ _ (by rw [hl]; exact Nat.le_refl _), hl, Nat.sub_self, show S.length - i = (S.length - (i + 1)) + 1 by omega, List.replicate_succ, List.set_cons_zero, List.take_succ_eq_append_getElem hi, List.map_append, List.append_assoc]
    rfl

set_option maxRecDepth 100000 in
set_option maxHeartbeats 4000000 in
theorem TextsSort_any (a : Option Addr) (cap n : Nat) (ts : List (List UInt8)) (hlen : ts.length = n) (w : World) (hT : Txt w (.slice a n cap) ts) (hn : n ≤ 1048576) :
    Calls Try.prog 49 #[.slice a n cap, .func (.func 9) #[] #[], .func (.func 45) #[] #[]] w fun e w' => ∃ b, e = .returned (.slice (some ⟨b, 0, none⟩) n n) ∧ Txt w' (.slice (some ⟨b, 0, none⟩) n n) (srt cmpT ts) ∧ w.heap.size ≤ b ∧ Below w.heap.size w w' := by
  have M1 := mk92 n hn
  have HT := hide hT
  have HL := hide hlen
  have hob : Boxed (w.alloc (.cells #[.func (.func 45) #[] #[]] 38)) w.heap.size 38 (.func (.func 45) #[] #[]) := World.alloc_heap_new w _
  clear hT hlen
  obtain ⟨w1, hw1⟩ : ∃ w1, w1 = w.alloc (.cells #[.func (.func 45) #[] #[]] 38) := ⟨_, rfl⟩
  have z1 : w1.heap.size = w.heap.size + 1 := by rw [hw1]; simp
  have b1 : Below w.heap.size w w1 := by rw [hw1]; exact (Below.refl _ w).alloc (Nat.le_refl _) _
  obtain ⟨w2, hw2⟩ : ∃ w2, w2 = w1.alloc (.cells (rdE.flat (List.replicate n zeroR)).toArray 92) := ⟨_, rfl⟩
  have z2 : w2.heap.size = w.heap.size + 1 + 1 := by rw [hw2]; simp; omega
  have b2 : Below w.heap.size w w2 := by rw [hw2]; exact b1.alloc (by omega) _
  have hob2 : Boxed w2 w.heap.size 38 (.func (.func 45) #[] #[]) := by
    rw [hw2]; rw [← hw1] at hob
    exact (Below.heap_alloc _ _ _ (by omega)).trans hob
  have d0 : DW rdE w2 (w.heap.size + 1) (List.replicate n zeroR) w2 := ⟨Turn.refl _ _, by rw [hw2, ← z1]; exact World.alloc_heap_new w1 _⟩
  have HL2 : Hid (∀ W, Turn (w.heap.size + 1) w2 W → ∀ i (h : i < ts.length), ∃ b off, a = some ⟨b, off, none⟩ ∧ W.cell? ⟨b, off + i, none⟩ = some (.string (ofL ts[i]))) := by
    intro W hW i h
    obtain ⟨b, off, ha, hlt, hc⟩ := txt_at HT.out (by omega)
    refine ⟨b, off, ha, ?_⟩
    rw [← hc i h]
    exact cell_kept ((hW.block b (by omega) (by omega)).trans (b2.block b hlt))
  have HOB := hide hob2
  clear hob hob2
  rw [hw1] at hw2
  clear hw1
  have hz1 : (w.alloc (.cells #[.func (.func 45) #[] #[]] 38)).heap.size = w.heap.size + 1 := by simp
  go_enter Try.func49, Try.ntmps49
  go_wp2_with fail
  rw [← hw2]
  clear hw2 M1 hz1
  go_loopw [18] (fun x wr => ∃ (i : Nat) (rs : List Rdg), i ≤ n ∧ x = .int .i64 i ∧ DW rdE w2 (w.heap.size + 1) rs wr ∧ Hid (rs.map Rdg.txt = ts.take i ++ List.replicate (ts.length - i) []) ∧ Hid (∀ r ∈ rs, Good wr (w.heap.size + 1) r)) (fun x _ => n - (intOf x).toNat)
  case atStart => exact ⟨0, List.replicate n zeroR, by omega, rfl, d0, by show _ = _; rw [HL.out, List.map_replicate, List.take_zero, List.nil_append, Nat.sub_zero]; rfl, fun r hr => by rw [(List.mem_replicate.1 hr).2]; exact good_zero _ _⟩
  case round =>
    clear d0
    rename World => wo
    obtain ⟨i, rs, hi, rfl, hD, HM, HG⟩ := hrel
    have HRL : Hid (rs.length = n) := by
      have := congrArg List.length HM.out
      rw [List.length_map, List.length_append, List.length_take, List.length_replicate, HL.out] at this
      show _ = _
      omega
    by_cases hlt : i < n
    · have hlt' : (i : Int) < (n : Int) := by omega
      have hil : i < ts.length := by rw [HL.out]; exact hlt
      obtain ⟨b, off, rfl, hc⟩ := HL2.out wo hD.turn i hil
      have HTS := hide (take_set ts [] i hil)
      have HXI : Hid (∃ z, rs[i]? = some z) := some_at _ i (by rw [HRL.out]; exact hlt)
      have HLI : Hid (i < rs.length) := by show _ < _; rw [HRL.out]; exact hlt
      have RD := fun w => read_new Parse_any (ofL ts[i]) w
      unfold ReadNew at RD
      rw [ofL_data] at RD
      have RD := hide RD
      generalize ts[i] = s at *
      have hBl : w.heap.size + 1 < wo.heap.size := hD.lt
      clear hil
      go_wp2_with fail
      refine (RD.out _).mono ?_
      rintro e w3 ⟨m1, m2, m3, ⟨pa, pn, pc⟩, ⟨qa, qn, qc⟩, rk, rfl, rd3, b3, new3, new4⟩
      have hD3 := hD.next b3
      obtain ⟨z, hz⟩ := HXI.out
      obtain ⟨p0, p1, p2, p3, p4, p5, p6⟩ := hD3.seen i z hz
      have f0 := hD3.free (i * 7)
      have f1 := hD3.free (i * 7 + 1)
      have f2 := hD3.free (i * 7 + 2)
      have f3 := hD3.free (i * 7 + 3)
      have f4 := hD3.free (i * 7 + 4)
      have f5 := hD3.free (i * 7 + 5)
      have f6 := hD3.free (i * 7 + 6)
      have HP := hide (hD3.put i ⟨s, m1, m2, m3, (pa, pn, pc), (qa, qn, qc), rk⟩ HLI.out)
      have TU : Turn (w.heap.size + 1) w3 (((((((w3.setCell ⟨w.heap.size + 1, i * 7, none⟩ (.string (ofL s))).setCell ⟨w.heap.size + 1, i * 7 + 1, none⟩ (.string m1)).setCell ⟨w.heap.size + 1, i * 7 + 2, none⟩ (.string m2)).setCell ⟨w.heap.size + 1, i * 7 + 3, none⟩ (.string m3)).setCell ⟨w.heap.size + 1, i * 7 + 4, none⟩ (.slice pa pn pc)).setCell ⟨w.heap.size + 1, i * 7 + 5, none⟩ (.slice qa qn qc)).setCell ⟨w.heap.size + 1, i * 7 + 6, none⟩ (.bool rk)) := (((((((Turn.set _ _ _ _)).trans (Turn.set _ _ _ _)).trans (Turn.set _ _ _ _)).trans (Turn.set _ _ _ _)).trans (Turn.set _ _ _ _)).trans (Turn.set _ _ _ _)).trans (Turn.set _ _ _ _)
      have HGG : Hid (∀ r ∈ rs.set i ⟨s, m1, m2, m3, (pa, pn, pc), (qa, qn, qc), rk⟩, Good (((((((w3.setCell ⟨w.heap.size + 1, i * 7, none⟩ (.string (ofL s))).setCell ⟨w.heap.size + 1, i * 7 + 1, none⟩ (.string m1)).setCell ⟨w.heap.size + 1, i * 7 + 2, none⟩ (.string m2)).setCell ⟨w.heap.size + 1, i * 7 + 3, none⟩ (.string m3)).setCell ⟨w.heap.size + 1, i * 7 + 4, none⟩ (.slice pa pn pc)).setCell ⟨w.heap.size + 1, i * 7 + 5, none⟩ (.slice qa qn qc)).setCell ⟨w.heap.size + 1, i * 7 + 6, none⟩ (.bool rk)) (w.heap.size + 1) r) :=
        all_set (fun r hr => ((HG.out r hr).turn (Turn.ofBelow b3)).turn TU) i _ (Good.turn (W := w3) ⟨rd3, fun ad h => by have := new3 ad h; omega, fun ad h => by have := new4 ad h; omega⟩ TU)
      have HMM : Hid ((rs.set i ⟨s, m1, m2, m3, (pa, pn, pc), (qa, qn, qc), rk⟩).map Rdg.txt = ts.take (i + 1) ++ List.replicate (ts.length - (i + 1)) []) := by
        show _ = _
        rw [List.map_set, HM.out]
        exact HTS.out
      clear hz
      go_wp2_with fail
      go_roundw
      case rel => exact ⟨i + 1, _, by omega, by go_num, HP.out, HMM, HGG⟩
      case measure => simp [intOf]; omega
    · have hlt' : ¬ (i : Int) < (n : Int) := by omega
      have HM0 : Hid (rs.map Rdg.txt = ts) := by
        show _ = _
        rw [HM.out, List.take_of_length_le (by rw [HL.out]; omega), show ts.length - i = 0 by rw [HL.out]; omega]; simp
      have HB1 : Hid (Below w.heap.size w wo) := b2.trans (hD.turn.below (by omega) (by omega))
      have HBO : Boxed wo w.heap.size 38 (.func (.func 45) #[] #[]) := (hD.turn.block _ (by omega) (by omega)).trans HOB.out
      obtain ⟨xs, hxs⟩ : ∃ xs, xs = good_list wo (w.heap.size + 1) rs HG.out := ⟨_, rfl⟩
      have hD0 : DW (grE wo (w.heap.size + 1)) wo (w.heap.size + 1) xs wo := ⟨Turn.refl _ _, by rw [hxs, good_flat]; exact hD.cells⟩
      have HXT : Hid (xs.map (fun x => x.rd.txt) = ts) := by show _ = _; rw [hxs, good_txt]; exact HM0.out
      have HXL : Hid (xs.length = n) := by have := congrArg List.length HXT.out; rw [List.length_map, HL.out] at this; exact this
      have CG := hide (cmpG_any wo (w.heap.size + 1) w.heap.size (by omega) HBO)
      have SO := hide (fun W hd => sortStable_any (grE wo (w.heap.size + 1)) (grF wo (w.heap.size + 1)) (grF_cmp3 _ _) _ wo (w.heap.size + 1) CG.out xs n HXL.out W hd (by omega))
      obtain ⟨S, HS⟩ : ∃ S, Hid (S = srt (grF wo (w.heap.size + 1)) xs) := ⟨_, rfl⟩
      have HSL : Hid (S.length = n) := by show _ = _; rw [HS.out, srt_length]; exact HXL.out
      have HST : Hid (S.map (fun x => x.rd.txt) = srt cmpT ts) := by
        show _ = _
        rw [HS.out, ← HXT.out]
        exact srt_perm_pull (f := cmpT) (fun x : GRd wo (w.heap.size + 1) => x.rd.txt) xs
      have hwr : w.heap.size + 1 < wo.heap.size := hD.lt
      clear hD HL2 HM HG hxs HBO HOB
      obtain ⟨E, hE⟩ : ∃ E, E = grE wo (w.heap.size + 1) := ⟨_, rfl⟩
      have HC0 : Hid (∀ x : GRd wo (w.heap.size + 1), E.c0 x = ofL x.rd.txt) := fun x => by rw [hE]; rfl
      rw [← hE] at hD0 SO
      clear hE CG
      go_wp2_with fail
      refine (SO.out _ hD0).mono ?_
      rintro e w4 ⟨rfl, d4⟩
      clear hD0 SO
      have M2 := mk9 n hn
      rw [← HS.out] at d4
      have sw0 : SW E wo (w.heap.size + 1) w4.heap.size S 0 (w4.alloc (.cells (Array.replicate n (.string ⟨#[]⟩)) 9)) := by
        have h4 := d4.turn.size
        refine ⟨d4.next ((Below.refl _ w4).alloc (Nat.le_refl _) _), by omega, ?_⟩
        rw [show ((S.take 0).map fun t => (.string (E.c0 t) : Value)) ++ List.replicate (S.length - 0) (.string ⟨#[]⟩ : Value) = List.replicate n (.string ⟨#[]⟩) by rw [HSL.out]; simp]
        rw [List.toArray_replicate]
        exact World.alloc_heap_new w4 _
      have hC : wo.heap.size ≤ w4.heap.size := d4.turn.size
      clear d4
      go_wp2_with fail
      clear M2
      generalize w4.alloc (.cells (Array.replicate n (.string ⟨#[]⟩)) 9) = w5 at *
      generalize w4.heap.size = C at *
      go_loopw [38] (fun x wr => ∃ i : Nat, i ≤ n ∧ x = .int .i64 i ∧ SW E wo (w.heap.size + 1) C S i wr) (fun x _ => n - (intOf x).toNat)
      case atStart => exact ⟨0, by omega, rfl, sw0⟩
      case round =>
        clear sw0
        obtain ⟨i, hi, rfl, hW⟩ := hrel
        by_cases hlt : i < n
        · have hlt' : (i : Int) < (n : Int) := by omega
          have hil : i < S.length := by rw [HSL.out]; exact hlt
          obtain ⟨p0, p1, p2, p3, p4, p5, p6⟩ := hW.dw.seen i S[i] (List.getElem?_eq_getElem hil)
          have HPU : Hid (SW E wo (w.heap.size + 1) C S (i + 1) ((wr.setCell ⟨C, i, none⟩ (.string (E.c0 S[i]))).alloc (.cells #[.string (E.c0 S[i]), .string (E.c1 S[i]), .string (E.c2 S[i]), .string (E.c3 S[i]), .slice (E.c4 S[i]).1 (E.c4 S[i]).2.1 (E.c4 S[i]).2.2, .slice (E.c5 S[i]).1 (E.c5 S[i]).2.1 (E.c5 S[i]).2.2, .bool (E.c6 S[i])] 92))) := (hW.put hC hil).alloc _
          have cz : wr.cell? ⟨C, i, none⟩ = some (.string ⟨#[]⟩) := cell_at i hW.cs (by
            have hl : ((S.take i).map fun t => (.string (E.c0 t) : Value)).length = i := by rw [List.length_map, List.length_take]; omega
            rw [List.getElem?_toArray, List.getElem?_append_right (by omega), hl, Nat.sub_self, List.getElem?_replicate, if_pos (by omega)])
          have fz := one_free (W := wr) i hW.cs
          have lC := (Array.getElem?_eq_some_iff.1 hW.cs).1
          have lB := hW.dw.lt
          have hne : C ≠ w.heap.size + 1 := hW.ne
          generalize S[i] = s at *
          clear hil
          go_wp2_with fail
          go_roundw
          case rel => exact ⟨i + 1, by omega, by go_num, HPU.out⟩
          case measure => simp [intOf]; omega
        · have hlt' : ¬ (i : Int) < (n : Int) := by omega
          obtain rfl : i = n := by omega
          have HFI : Hid (Txt wr (.slice (some ⟨C, 0, none⟩) i i) (srt cmpT ts)) := by
            have hl : (srt cmpT ts).length = i := by rw [srt_length]; exact HL.out
            refine ⟨some ⟨C, 0, none⟩, i, by rw [hl], .inr ⟨C, 0, rfl, (Array.getElem?_eq_some_iff.1 hW.cs).1, fun q hq => ?_⟩⟩
            refine cell_at _ hW.cs ?_
            have hqS : q < S.length := by rw [HSL.out]; rw [hl] at hq; exact hq
            have e : (srt cmpT ts)[q] = S[q].rd.txt := by
              have h1 : (srt cmpT ts)[q]? = (S.map (fun x => x.rd.txt))[q]? := by rw [HST.out]
              rw [List.getElem?_eq_getElem hq, List.getElem?_map, List.getElem?_eq_getElem hqS] at h1
              simpa using h1
            rw [e, List.getElem?_toArray, Nat.zero_add, List.getElem?_append_left (by rw [List.length_map, List.length_take]; omega), List.getElem?_map, List.getElem?_take, if_pos (by rw [HSL.out] at hqS; omega), List.getElem?_eq_getElem hqS]
            simp only [Option.map_some, HC0.out]
          have hbw : Below w.heap.size w wr := HB1.out.trans (hW.dw.turn.below (by omega) (by omega))
          go_wp2_with fail
          go_ret
          exact ⟨C, rfl, HFI.out, by omega, hbw⟩

theorem Sort_any (a : Option Addr) (cap n : Nat) (ts : List (List UInt8)) (hlen : ts.length = n) (w : World) (hT : Txt w (.slice a n cap) ts) (hn : n ≤ 1048576) :
    Calls Try.prog 26 #[.slice a n cap] w fun e w' => ∃ b, e = .returned (.slice (some ⟨b, 0, none⟩) n n) ∧ Txt w' (.slice (some ⟨b, 0, none⟩) n n) (srt cmpT ts) ∧ w.heap.size ≤ b ∧ Below w.heap.size w w' := by
  have TS := hide (TextsSort_any a cap n ts hlen w hT hn)
  clear hT hlen
  go_enter Try.func26, Try.ntmps26
  go_wp2_with fail
  refine TS.out.mono ?_
  rintro e w1 ⟨b, rfl, h1, h2, h3⟩
  go_wp2_with fail
  go_ret
  exact ⟨b, rfl, h1, h2, h3⟩

end Go.Proofs.Ytkngmgdcnplkgaa

/-
  Walks: the document's Texts.
-/
namespace Go.Proofs.Ytkngmgdcnplkgaa
open Go.RowKit Go.Shelf
set_option linter.unusedVariables false

set_option maxRecDepth 100000 in
set_option maxHeartbeats 4000000 in
theorem RTexts_any (a1 a2 : Option Addr) (n1 n2 c1 c2 : Nat) (ts1 ts2 : List (List UInt8)) (hl1 : ts1.length = n1) (hl2 : ts2.length = n2) (hn : n1 ≤ 1048576) (w : World) (hT1 : Txt w (.slice a1 n1 c1) ts1) (hT2 : Txt w (.slice a2 n2 c2) ts2) :
    Calls Try.prog 25 #[.slice a1 n1 c1, .slice a2 n2 c2] w fun e w' => e = .returned (.bool (decide (ts1 = ts2))) ∧ Below w.heap.size w w' := by
  have HT1 := hide hT1
  have HT2 := hide hT2
  have HL1 := hide hl1
  have HL2 := hide hl2
  clear hT1 hT2 hl1 hl2
  by_cases hne : n1 = n2
  · subst hne
    have hb : ((n1 : Int) != (n1 : Int)) = false := by simp
    go_enter Try.func25, Try.ntmps25
    go_wp2_with fail
    go_loopw [5] (fun x wr => ∃ i : Nat, i ≤ n1 ∧ x = .int .i64 i ∧ Below w.heap.size w wr ∧ Hid (ts1.take i = ts2.take i)) (fun x _ => n1 - (intOf x).toNat)
    case atStart => exact ⟨0, by omega, rfl, Below.refl _ _, rfl⟩
    case round =>
      obtain ⟨i, hi, rfl, hB, hE⟩ := hrel
      by_cases hlt : i < n1
      · have hlt' : (i : Int) < (n1 : Int) := by omega
        have i1 : i < ts1.length := by rw [HL1.out]; exact hlt
        have i2 : i < ts2.length := by rw [HL2.out]; exact hlt
        obtain ⟨b1, o1, rfl, q1, d1⟩ := txt_at (HT1.out.below hB) (by omega)
        obtain ⟨b2, o2, rfl, q2, d2⟩ := txt_at (HT2.out.below hB) (by omega)
        have e1 := d1 i i1
        have e2 := d2 i i2
        clear d1 d2
        by_cases hst : ts1[i] = ts2[i]
        · rw [hst] at e1
          have HE : Hid (ts1.take (i + 1) = ts2.take (i + 1)) := by
            show _ = _
            rw [List.take_succ_eq_append_getElem i1, List.take_succ_eq_append_getElem i2, hE.out, hst]
          generalize ofL ts2[i] = x at *
          clear hst i1 i2
          go_wp2_with fail
          go_quiet (fail)
          go_wp2_with fail
          go_roundw
          case rel => exact ⟨i + 1, by omega, by go_num, hB.trans (below_drewN _ _ _), HE⟩
          case measure => simp [intOf]; omega
        · have hx : ((ofL ts1[i]).toList == (ofL ts2[i]).toList) = false := by simp only [beq_eq_false_iff_ne, ne_eq]; intro e; rw [toL, toL, ofL_data, ofL_data] at e; exact hst e
          have HN : Hid (¬ ts1 = ts2) := fun e => hst (by subst e; rfl)
          generalize ofL ts1[i] = x at *
          generalize ofL ts2[i] = y at *
          clear hst i1 i2
          go_wp2_with fail
          go_quiet (fail)
          go_wp2_with fail
          go_ret
          exact ⟨by rw [decide_eq_false HN.out]; rfl, hB.trans (below_drewN _ _ _)⟩
      · have hlt' : ¬ (i : Int) < (n1 : Int) := by omega
        have HY : Hid (ts1 = ts2) := by
          have h := hE.out
          rw [List.take_of_length_le (by rw [HL1.out]; omega), List.take_of_length_le (by rw [HL2.out]; omega)] at h
          exact h
        go_wp2_with fail
        go_ret
        exact ⟨by rw [decide_eq_true HY.out]; rfl, hB⟩
  · have hb : ((n1 : Int) != (n2 : Int)) = true := by simp; omega
    have HN : Hid (¬ ts1 = ts2) := fun e => hne (by rw [← HL1.out, ← HL2.out, e])
    clear hne
    go_enter Try.func25, Try.ntmps25
    go_wp2_with fail
    go_ret
    exact ⟨by rw [decide_eq_false HN.out]; rfl, Below.refl _ _⟩

end Go.Proofs.Ytkngmgdcnplkgaa

/-
  Walks: the document's Sort.
-/
namespace Go.Proofs.Ytkngmgdcnplkgaa
open Go.RowKit Go.Shelf
set_option linter.unusedVariables false

def txsV (S : List (List UInt8)) : List Value := S.map fun t => .string (ofL t)
theorem txsV_len (S : List (List UInt8)) : (txsV S).length = S.length := List.length_map _
theorem txsV_app (S R : List (List UInt8)) : txsV (S ++ R) = txsV S ++ txsV R := List.map_append
theorem txsV_one (R : List (List UInt8)) : ∀ u ∈ txsV R, u.oneCell' = true := by
  intro u hu
  obtain ⟨t, _, rfl⟩ := List.mem_map.1 hu
  rfl
theorem own_belowS {W W' : World} {B n : Nat} {v : Value} {xs : List Value} (h : W.ownsRow B 9 1 v n xs) (hb : Below W.heap.size W W') : W'.ownsRow B 9 1 v n xs :=
  h.kept (row := none) ⟨hb.os, hb.tape, hb.output, hb.size, fun k hk _ => hb.block k hk⟩ (by
    cases v.ownBlock with
    | none => exact .inl rfl
    | some k => exact .inr (by simp))
theorem own_base {W : World} {B B' n : Nat} {v : Value} {xs : List Value} (h : W.ownsRow B' 9 1 v n xs) (hb : B ≤ B') : W.ownsRow B 9 1 v n xs := by
  refine ⟨h.1, ?_⟩
  rcases h.2 with h | ⟨g, cap, cur, h1, h2, h3⟩
  · exact .inl h
  · exact .inr ⟨g, cap, cur, h1, Nat.le_trans hb h2, h3⟩
theorem own_shape {W : World} {B n : Nat} {v : Value} {xs : List Value} (h : W.ownsRow B 9 1 v n xs) : ∃ ao cv, v = .slice ao n cv := by
  rcases h.2 with ⟨h, h0⟩ | ⟨g, cap, cur, h1, _⟩
  · exact ⟨none, 0, by rw [h, h0]⟩
  · exact ⟨_, _, h1⟩
theorem own_block (ao : Option Addr) (n cv : Nat) : (Value.slice ao n cv).ownBlock = ao.map (·.block) := by cases ao <;> rfl
theorem cell_new (w : World) (e : TypeId) (x : List UInt8) : ∀ j u, (txsV [x])[j]? = some u → (w.alloc (.cells #[.string (ofL x)] e)).cell? ((⟨w.heap.size, 0, none⟩ : Addr).add j) = some u := by
  intro j u hj
  have h := fun j => World.cell?_alloc_mark w #[.string (ofL x)] e (0, 0) j
  match j, hj with
  | 0, hj => simp [txsV] at hj; subst hj; exact h 0

theorem app_any {w : World} {ops : Array Oper} {rest : List Oper} {o : Oper} {a : Act} {Q : Exit → Act → World → Prop} (hgd : o.guard = none) (s x : Operand)
    (ho : o.op = .call { callee := .builtin .append, args := #[s, x], argTypes := #[22, 22] })
    (B : Nat) (ao : Option Addr) (n cv : Nat) (S : List (List UInt8)) (hs : a.eval s = .slice ao n cv) (hown : w.ownsRow B 9 1 (.slice ao n cv) n (txsV S))
    (bo : Option Addr) (m c : Nat) (R : List (List UInt8)) (hx : a.eval x = .slice bo m c) (hR : R.length = m)
    (hnone : bo = none → m = 0 ∧ c = 0) (hc : ∀ ad, bo = some ad → ∀ j u, (txsV R)[j]? = some u → w.cell? (ad.add j) = some u) (hb : n + m ≤ 4194304) (hB : B ≤ w.heap.size)
    (h : ∀ ao' cv' w', w'.ownsRow B 9 1 (.slice ao' (n + m) cv') (n + m) (txsV (S ++ R)) → w.grownBy w' (ao.map (·.block)) → wpList Try.prog ops Q rest (a.put o.dst (.slice ao' (n + m) cv')) w') :
    wpList Try.prog ops Q (o :: rest) a w := by
  obtain ⟨i0, hi, hz0, hz2, hz1⟩ := inf9
  cases bo with
  | none =>
    obtain ⟨rfl, rfl⟩ := hnone rfl
    obtain rfl : R = [] := List.length_eq_zero_iff.1 hR
    refine wpList_append_own_none hgd s x 22 ho B 9 i0 1 Try.underlying22 hi _ n _ hs hown hx ?_
    have := h ao cv w (by simpa using hown) (World.grownBy.refl _ _)
    simpa using this
  | some ad =>
    refine wpList_append_own _ hgd s x 22 ho B 9 i0 (.string ⟨#[]⟩) 1 16 Try.underlying22 hi hz0 hz1 hz2 rfl (by decide) _ n _ hs hown ad m c (txsV R) hx (by rw [txsV_len, hR]; omega) (hc ad rfl) (txsV_one R) (by unfold maxLen; omega) (by omega) hB ?_
    intro v' w' h1 h2 _
    obtain ⟨ao', cv', rfl⟩ := own_shape h1
    rw [own_block] at h2
    exact h ao' cv' w' (by rw [txsV_app]; exact h1) h2

theorem ins_at (S : List (List UInt8)) (x : List UInt8) (j : Nat) (hs : Srt cmpT S) (hi : ∀ q (h : q < S.length), j ≤ q → 0 < cmpT S[q] x) (lo : ∀ q (h : q < S.length), q + 1 = j → cmpT S[q] x ≤ 0) (hj : j ≤ S.length) :
    mrg cmpT S [x] = S.take j ++ ([x] ++ S.drop j) := by
  have h := mrg_one_r cmpT x (S.take j) (S.drop j) (fun l hl => by
    obtain ⟨q, hq, rfl⟩ := List.getElem_of_mem hl
    rw [List.length_take] at hq
    rw [List.getElem_take]
    have hl : cmpT (S[q]'(by omega)) x ≤ 0 := by
      by_cases e : q + 1 = j
      · exact lo q (by omega) e
      · have h1 := List.pairwise_iff_getElem.1 hs q (j - 1) (by omega) (by omega) (by omega)
        exact cmpT_cmp3.trans _ _ _ h1 (lo (j - 1) (by omega) (by omega))
    rw [cmpT_cmp3.anti (S[q]'(by omega)) x]; omega) (fun l hl => by
    obtain ⟨q, hq, rfl⟩ := List.getElem_of_mem hl
    rw [List.length_drop] at hq
    rw [List.getElem_drop]
    have h1 := hi (j + q) (by omega) (by omega)
    rw [cmpT_cmp3.anti (S[j + q]'(by omega)) x]; omega)
  rw [List.take_append_drop] at h
  rw [h]
  rfl

theorem own_lt {W : World} {B n cv : Nat} {ao : Option Addr} {xs : List Value} (h : W.ownsRow B 9 1 (.slice ao n cv) n xs) : ∀ k, ao.map (·.block) = some k → B ≤ k ∧ k < W.heap.size := fun k hk => h.lt k (by rw [own_block]; exact hk)
theorem keep3 {w1 w2 w3 : World} {B g i cv j cv1 : Nat} {ao1 : Option Addr} {xs xs1 : List Value} {o : Obj} (OQ : w1.ownsRow B 9 1 (.slice (some ⟨g, 0, none⟩) i cv) i xs) (grow1 : w1.grownBy w2 none) (own1 : w2.ownsRow w1.heap.size 9 1 (.slice ao1 j cv1) j xs1) (grow2 : (w2.alloc o).grownBy w3 (ao1.map (·.block))) :
    w3.ownsRow B 9 1 (.slice (some ⟨g, 0, none⟩) i cv) i xs := by
  have hg := (OQ.lt g rfl).2
  refine ((OQ.kept grow1 (.inr (fun h => by cases h))).alloc o).kept grow2 (.inr (fun h => ?_))
  have := (own_lt own1 g h.symm).1
  omega
theorem drop_cells {W : World} {B g i cv j : Nat} {S : List (List UInt8)} (h : W.ownsRow B 9 1 (.slice (some ⟨g, 0, none⟩) i cv) i (txsV S)) {q : Nat} {u : Value} (hu : (txsV (S.drop j))[q]? = some u) : W.cell? ((⟨g, j, none⟩ : Addr).add q) = some u := by
  have h1 := h.cells (g := g) rfl (j + q) u (by rw [txsV, List.map_drop, List.getElem?_drop] at hu; exact hu)
  have e1 : (⟨g, 0, none⟩ : Addr).add (j + q) = ⟨g, j + q, none⟩ := by unfold Addr.add; split <;> simp_all
  have e2 : (⟨g, j, none⟩ : Addr).add q = ⟨g, j + q, none⟩ := by unfold Addr.add; split <;> simp_all
  rw [e2, ← e1]; exact h1
theorem drop_none {W : World} {ad : Addr} {j : Nat} {S : List (List UInt8)} (hj : S.length ≤ j) {q : Nat} {u : Value} (hu : (txsV (S.drop j))[q]? = some u) : W.cell? (ad.add q) = some u := by
  rw [List.drop_eq_nil_of_le hj] at hu
  simp [txsV] at hu
theorem done3 {w wo w1 w2 w3 w4 : World} {o : Obj} {ao1 ao2 : Option Addr} {j cv1 cv2 : Nat} {xs1 xs2 : List Value} (hB : Below w.heap.size w wo) (BQ1 : Below wo.heap.size wo w1) (grow1 : w1.grownBy w2 none) (own1 : w2.ownsRow w1.heap.size 9 1 (.slice ao1 j cv1) j xs1) (grow2 : (w2.alloc o).grownBy w3 (ao1.map (·.block))) (own2 : w3.ownsRow w1.heap.size 9 1 (.slice ao2 (j + 1) cv2) (j + 1) xs2) (grow3 : w3.grownBy w4 (ao2.map (·.block))) :
    Below w.heap.size w w4 := by
  have s1 := BQ1.size
  have s2 := grow1.size
  have s3 := grow2.size
  simp at s3
  have b2 := BQ1.grown grow1 s1 (fun k h => by cases h)
  have b3 := (b2.alloc (by omega) o).grown grow2 (by simp; omega) (fun k h => Nat.le_trans s1 (own_lt own1 k h).1)
  have b4 := b3.grown grow3 (by omega) (fun k h => Nat.le_trans s1 (own_lt own2 k h).1)
  exact hB.trans (b4.mono hB.size)


set_option maxRecDepth 100000 in
set_option maxHeartbeats 4000000 in
theorem RSort_any (a : Option Addr) (cap n : Nat) (ts : List (List UInt8)) (hlen : ts.length = n) (w : World) (hT : Txt w (.slice a n cap) ts) (hn : n ≤ 1048576) :
    Calls Try.prog 27 #[.slice a n cap] w fun e w' => ∃ b cv, e = .returned (.slice b n cv) ∧ Txt w' (.slice b n cv) (srt cmpT ts) ∧ Below w.heap.size w w' := by
  have HT := hide hT
  have HL := hide hlen
  clear hT hlen
  go_enter Try.func27, Try.ntmps27
  go_wp2_with fail
  go_loopw [3, 4] (fun v x wr => ∃ (i : Nat) (ao : Option Addr) (cv : Nat), i ≤ n ∧ x = .int .i64 i ∧ v = .slice ao i cv ∧ Hid (wr.ownsRow w.heap.size 9 1 (.slice ao i cv) i (txsV (srt cmpT (ts.take i)))) ∧ Below w.heap.size w wr) (fun _ x _ => n - (intOf x).toNat)
  case atStart => exact ⟨0, none, 0, by omega, rfl, rfl, World.ownsRow_nil _ _ _ _, Below.refl _ _⟩
  case round =>
    rename World => wo
    obtain ⟨i, ao, cv, hi, rfl, rfl, HO, hB⟩ := hrel
    by_cases hlt : i < n
    · have hlt' : (i : Int) < (n : Int) := by omega
      have i1 : i < ts.length := by rw [HL.out]; exact hlt
      obtain ⟨b, off, rfl, lb, dc⟩ := txt_at HT.out (by omega)
      have hbx : Hid (∀ W, Below wo.heap.size wo W → W.cell? ⟨b, off + i, none⟩ = some (.string (ofL ts[i]))) := fun W h => by
        rw [← dc i i1]; exact cell_kept ((h.block b (Nat.lt_of_lt_of_le lb hB.size)).trans (hB.block b lb))
      clear dc lb
      have HI : Hid (mrg cmpT (srt cmpT (ts.take i)) [ts[i]] = srt cmpT (ts.take (i + 1))) := by
        show _ = _
        rw [List.take_succ_eq_append_getElem i1, srt_snoc cmpT_cmp3]
      have HSS : Hid (Srt cmpT (srt cmpT (ts.take i))) := srt_srt cmpT_cmp3 _
      have HSL : Hid ((srt cmpT (ts.take i)).length = i) := by show _ = _; rw [srt_length, List.length_take]; omega
      obtain ⟨S, HS⟩ : ∃ S, Hid (S = srt cmpT (ts.take i)) := ⟨srt cmpT (ts.take i), show _ = _ from rfl⟩
      rw [← HS.out] at HI HSS HSL HO
      obtain ⟨x, HX⟩ : ∃ x, Hid (x = ts[i]) := ⟨ts[i], show ts[i] = ts[i] from rfl⟩
      rw [← HX.out] at hbx HI
      clear HS HX i1
      rcases HO.out.2 with ⟨hv, h0⟩ | ⟨g, cap', cur, hv, hg1, hg2, hg3, hg4, hg5, hg6⟩
      · cases hv
        obtain rfl : S = [] := List.length_eq_zero_iff.1 HSL.out
        have HE : Hid (txsV (srt cmpT (ts.take (0 + 1))) = txsV ([] ++ [x])) := by
          show _ = _
          rw [← HI.out, mrg_nil_l]; rfl
        have hs0 := hB.size
        go_wp2_with fail
        go_loopw [5] (fun y wq => y = .int .i64 ((0 : Nat) : Int) ∧ Below wo.heap.size wo wq) (fun y _ => (intOf y).toNat)
        case atStart => exact ⟨by first | rfl | go_num, Below.refl _ _⟩
        case round =>
          obtain ⟨rfl, BQ⟩ := hrel
          have BQ1 : Below wo.heap.size wo wr.drew := BQ.trans (below_drewN _ wr 1)
          go_wp2_with fail
          go_big_region
          generalize wr.drew = w1 at *
          clear BQ
          have hs1 := BQ1.size
          go_wp2_with (first
            | (at_builtin; refine app_any rfl (.tmp 32) (.tmp 35) rfl w1.heap.size none 0 0 [] rfl (World.ownsRow_nil _ _ _ _) none 0 0 [] rfl rfl (fun _ => ⟨rfl, rfl⟩) (fun ad h => by cases h) (by omega) (Nat.le_refl _) ?_; intro ao1 cv1 w2 own1 grow1; simp only [Nat.zero_add, List.nil_append] at own1; have cX2 := hbx.out _ (BQ1.grown grow1 hs1 (fun k h => by cases h)); rw [Nat.add_zero] at cX2)
            | (at_builtin; refine app_any rfl (.tmp 37) (.tmp 42) rfl w1.heap.size ao1 0 cv1 [] rfl (own1.alloc _) (some ⟨w2.heap.size, 0, none⟩) 1 1 [x] rfl rfl (fun h => by cases h) (fun ad h => by cases h; exact cell_new _ _ _) (by omega) (by have := grow1.size; simp; omega) ?_; intro ao2 cv2 w3 own2 grow2)
            | (at_builtin; refine app_any rfl (.tmp 44) (.tmp 47) rfl w1.heap.size ao2 (0 + 1) cv2 ([] ++ [x]) rfl own2 none 0 0 [] rfl rfl (fun _ => ⟨rfl, rfl⟩) (fun ad h => by cases h) (by omega) (by have := grow1.size; have h3 := grow2.size; simp at h3; omega) ?_; intro ao3 cv3 w4 own3 grow3)
            | fail)
          go_roundw
          case rel =>
            refine ⟨0 + 1, ao3, cv3, by omega, by first | rfl | go_num, by first | rfl | simp, ?_, done3 hB BQ1 grow1 own1 grow2 own2 grow3⟩
            rw [HE.out]
            rw [List.append_nil] at own3
            exact own_base own3 (by omega)
          case measure => simp [intOf]; omega
      · cases hv
        have HCS : Hid (∀ W, Below wo.heap.size wo W → ∀ q (h : q < S.length), W.cell? ⟨g, q, none⟩ = some (.string (ofL S[q]))) := fun W h q hq => by
          have := (own_belowS HO.out h).cells (g := g) rfl q (.string (ofL S[q])) (by rw [txsV, List.getElem?_map, List.getElem?_eq_getElem hq]; rfl)
          have e : (⟨g, 0, none⟩ : Addr).add q = ⟨g, q, none⟩ := by unfold Addr.add; split <;> simp_all
          rwa [e] at this
        clear hg2 hg4 hg5 hg6
        go_wp2_with fail
        go_loopw [5] (fun y wq => ∃ j : Nat, j ≤ i ∧ y = .int .i64 j ∧ Below wo.heap.size wo wq ∧ Hid (∀ q (h : q < S.length), j ≤ q → 0 < cmpT S[q] x)) (fun y _ => (intOf y).toNat)
        case atStart => exact ⟨i, by omega, by first | rfl | go_num, Below.refl _ _, fun q h hq => by have := HSL.out; omega⟩
        case round =>
          obtain ⟨j, hj, rfl, BQ, HQ⟩ := hrel
          by_cases hj0 : 0 < j
          · have hj0' : (0 : Int) < (j : Int) := by omega
            have eJ : (j : Int) - 1 = ((j - 1 : Nat) : Int) := by omega
            have wJ : IntKind.i64.wrap ((j - 1 : Nat) : Int) = ((j - 1 : Nat) : Int) := by rw [IntKind.wrap_i64]; omega
            have lJ : ((j - 1 : Nat) : Int) < (i : Int) := by omega
            have jl : j - 1 < S.length := by rw [HSL.out]; omega
            have HCJ := hide (fun W h => HCS.out W h (j - 1) jl)
            have cJ := HCJ.out _ BQ
            have cX := hbx.out _ BQ
            have BD : Below wo.heap.size wo wr.drew := BQ.trans (below_drewN _ wr 1)
            have CM := hide (fun W => RCompare_any (ofL S[j - 1]) (ofL x) W)
            have eC : cmpT (ofL S[j - 1]).data.toList (ofL x).data.toList = cmpT S[j - 1] x := by rw [ofL_data, ofL_data]
            rw [eC] at CM
            have HQ1 : Hid (0 < cmpT S[j - 1] x → ∀ q (h : q < S.length), j - 1 ≤ q → 0 < cmpT S[q] x) := fun h q hq hle => by
              by_cases e : q = j - 1
              · subst e; exact h
              · exact HQ.out q hq (by omega)
            have HQ2 : Hid (cmpT S[j - 1] x ≤ 0 → ∀ q (h : q < S.length), q + 1 = j → cmpT S[q] x ≤ 0) := fun h q hq hle => by
              obtain rfl : q = j - 1 := by omega
              exact h
            have hjj : j - 1 + 1 = j := by omega
            generalize cmpT S[j - 1] x = d at *
            generalize ofL S[j - 1] = sj at *
            generalize hJ1 : j - 1 = J1 at *
            have HJ1 := hide hJ1
            clear hJ1 eC jl
            by_cases hd : 0 < d
            · have hdb : decide (d > 0) = true := by simpa using hd
              go_wp2_with fail
              go_region_held3 (fun w' => w'.cell? ⟨g, J1, none⟩ = some (.string sj) ∧ w'.cell? ⟨b, off + i, none⟩ = some (.string (ofL x)))
                (go_keep)
                ((first
                  | (go_at_call 24; refine (CM.out _).mono ?_; rintro e w1 ⟨rfl, b1⟩; have BQ1 := BD.trans (b1.mono BD.size); have g0 := HCJ.out _ BQ1; have g1 := hbx.out _ BQ1)
                  | fail))
              go_wp2_with fail
              go_roundw
              case rel => exact ⟨J1, by omega, by first | rfl | go_num | (congr 1; omega), BQ1, HQ1.out hd⟩
              case measure => simp [intOf]; omega
            · have hdb : decide (d > 0) = false := by simpa using hd
              have HLO := hide (HQ2.out (by omega))
              go_wp2_with fail
              go_region_held3 (fun w' => w'.cell? ⟨g, J1, none⟩ = some (.string sj) ∧ w'.cell? ⟨b, off + i, none⟩ = some (.string (ofL x)))
                (go_keep)
                ((first
                  | (go_at_call 24; refine (CM.out _).mono ?_; rintro e w1 ⟨rfl, b1⟩; have BQ1 := BD.trans (b1.mono BD.size); have g0 := HCJ.out _ BQ1; have g1 := hbx.out _ BQ1)
                  | fail))
              clear cJ cX g0 g1 BD BQ hd hdb
              have lS := HSL.out
              have OQ := hide (own_belowS HO.out BQ1)
              have gl : g < w1.heap.size := (OQ.out.lt g rfl).2
              have hs1 := BQ1.size
              have hs0 := hB.size
              have H1 : Hid (∀ ad, some (⟨g, 0, none⟩ : Addr) = some ad → ∀ q u, (txsV (S.take j))[q]? = some u → w1.cell? (ad.add q) = some u) := by
                intro ad h q u hu
                cases h
                refine OQ.out.cells (g := g) rfl q u ?_
                rw [txsV, List.getElem?_map, List.getElem?_take] at hu
                split at hu
                · rw [txsV, List.getElem?_map]; exact hu
                · simp at hu
              clear hg1
              have hic := hg3
              clear hg3
              by_cases hcv : j = cv
              · subst hcv
                go_wp2_with (first
                  | (at_builtin; refine app_any rfl (.tmp 32) (.tmp 35) rfl w1.heap.size none 0 0 [] rfl (World.ownsRow_nil _ _ _ _) (some ⟨g, 0, none⟩) j j (S.take j) rfl (by rw [List.length_take]; omega) (fun h => by cases h) H1.out (by omega) (Nat.le_refl _) ?_; intro ao1 cv1 w2 own1 grow1; simp only [Nat.zero_add, List.nil_append] at own1; have cX2 := hbx.out _ (BQ1.grown grow1 hs1 (fun k h => by cases h)))
                  | (at_builtin; refine app_any rfl (.tmp 37) (.tmp 42) rfl w1.heap.size ao1 j cv1 (S.take j) rfl (own1.alloc _) (some ⟨w2.heap.size, 0, none⟩) 1 1 [x] rfl rfl (fun h => by cases h) (fun ad h => by cases h; exact cell_new _ _ _) (by omega) (by have := grow1.size; simp; omega) ?_; intro ao2 cv2 w3 own2 grow2)
                  | (at_builtin; refine app_any rfl (.tmp 44) (.tmp 47) rfl w1.heap.size ao2 (j + 1) cv2 (S.take j ++ [x]) rfl own2 (some ⟨g, 0, none⟩) 0 0 (S.drop j) rfl (by rw [List.length_drop]; omega) (fun h => by cases h) (fun ad h q u hu => by cases h; exact drop_none (by omega) hu) (by omega) (by have := grow1.size; have h3 := grow2.size; simp at h3; omega) ?_; intro ao3 cv3 w4 own3 grow3)
                  | fail)
                go_roundw
                case rel =>
                  · (refine ⟨i + 1, ao3, cv3, by omega, by first | rfl | go_num, by first | rfl | (congr 1; omega), ?_, done3 hB BQ1 grow1 own1 grow2 own2 grow3⟩
                     rw [show j + 1 + 0 = i + 1 by omega, List.append_assoc, ← ins_at S x j HSS.out HQ.out HLO.out (by omega), HI.out] at own3
                     exact own_base own3 (by omega))
                case measure => simp [intOf]; omega
              · have hcv' : ¬ cv = j := fun e => hcv e.symm
                go_wp2_with (first
                  | (at_builtin; refine app_any rfl (.tmp 32) (.tmp 35) rfl w1.heap.size none 0 0 [] rfl (World.ownsRow_nil _ _ _ _) (some ⟨g, 0, none⟩) j cv (S.take j) rfl (by rw [List.length_take]; omega) (fun h => by cases h) H1.out (by omega) (Nat.le_refl _) ?_; intro ao1 cv1 w2 own1 grow1; simp only [Nat.zero_add, List.nil_append] at own1; have cX2 := hbx.out _ (BQ1.grown grow1 hs1 (fun k h => by cases h)))
                  | (at_builtin; refine app_any rfl (.tmp 37) (.tmp 42) rfl w1.heap.size ao1 j cv1 (S.take j) rfl (own1.alloc _) (some ⟨w2.heap.size, 0, none⟩) 1 1 [x] rfl rfl (fun h => by cases h) (fun ad h => by cases h; exact cell_new _ _ _) (by omega) (by have := grow1.size; simp; omega) ?_; intro ao2 cv2 w3 own2 grow2)
                  | (at_builtin; refine app_any rfl (.tmp 44) (.tmp 47) rfl w1.heap.size ao2 (j + 1) cv2 (S.take j ++ [x]) rfl own2 (some ⟨g, j, none⟩) (i - j) (cv - j) (S.drop j) rfl (by rw [List.length_drop]; omega) (fun h => by cases h) (fun ad h q u hu => by cases h; exact drop_cells (keep3 OQ.out grow1 own1 grow2) hu) (by omega) (by have := grow1.size; have h3 := grow2.size; simp at h3; omega) ?_; intro ao3 cv3 w4 own3 grow3)
                  | fail)
                go_roundw
                case rel =>
                  · (refine ⟨i + 1, ao3, cv3, by omega, by first | rfl | go_num, by rw [show j + 1 + (i - j) = i + 1 by omega], ?_, done3 hB BQ1 grow1 own1 grow2 own2 grow3⟩
                     rw [show j + 1 + (i - j) = i + 1 by omega, List.append_assoc, ← ins_at S x j HSS.out HQ.out HLO.out (by omega), HI.out] at own3
                     exact own_base own3 (by omega))
                case measure => simp [intOf]; omega
          · have hj0' : ¬ (0 : Int) < (j : Int) := by omega
            have hjd : decide ((j : Int) > 0) = false := by simp; omega
            have HLO : Hid (∀ q (h : q < S.length), q + 1 = j → cmpT S[q] x ≤ 0) := fun q h e => by omega
            have BQ1 : Below wo.heap.size wo wr.drew := BQ.trans (below_drewN _ wr 1)
            go_wp2_with fail
            go_big_region
            generalize wr.drew = w1 at *
            clear BQ
            have lS := HSL.out
            have OQ := hide (own_belowS HO.out BQ1)
            have gl : g < w1.heap.size := (OQ.out.lt g rfl).2
            have hs1 := BQ1.size
            have hs0 := hB.size
            have H1 : Hid (∀ ad, some (⟨g, 0, none⟩ : Addr) = some ad → ∀ q u, (txsV (S.take j))[q]? = some u → w1.cell? (ad.add q) = some u) := by
              intro ad h q u hu
              cases h
              refine OQ.out.cells (g := g) rfl q u ?_
              rw [txsV, List.getElem?_map, List.getElem?_take] at hu
              split at hu
              · rw [txsV, List.getElem?_map]; exact hu
              · simp at hu
            clear hg1
            have hic := hg3
            clear hg3
            by_cases hcv : j = cv
            · subst hcv
              go_wp2_with (first
                | (at_builtin; refine app_any rfl (.tmp 32) (.tmp 35) rfl w1.heap.size none 0 0 [] rfl (World.ownsRow_nil _ _ _ _) (some ⟨g, 0, none⟩) j j (S.take j) rfl (by rw [List.length_take]; omega) (fun h => by cases h) H1.out (by omega) (Nat.le_refl _) ?_; intro ao1 cv1 w2 own1 grow1; simp only [Nat.zero_add, List.nil_append] at own1; have cX2 := hbx.out _ (BQ1.grown grow1 hs1 (fun k h => by cases h)))
                | (at_builtin; refine app_any rfl (.tmp 37) (.tmp 42) rfl w1.heap.size ao1 j cv1 (S.take j) rfl (own1.alloc _) (some ⟨w2.heap.size, 0, none⟩) 1 1 [x] rfl rfl (fun h => by cases h) (fun ad h => by cases h; exact cell_new _ _ _) (by omega) (by have := grow1.size; simp; omega) ?_; intro ao2 cv2 w3 own2 grow2)
                | (at_builtin; refine app_any rfl (.tmp 44) (.tmp 47) rfl w1.heap.size ao2 (j + 1) cv2 (S.take j ++ [x]) rfl own2 (some ⟨g, 0, none⟩) 0 0 (S.drop j) rfl (by rw [List.length_drop]; omega) (fun h => by cases h) (fun ad h q u hu => by cases h; exact drop_none (by omega) hu) (by omega) (by have := grow1.size; have h3 := grow2.size; simp at h3; omega) ?_; intro ao3 cv3 w4 own3 grow3)
                | fail)
              go_roundw
              case rel =>
                · (refine ⟨i + 1, ao3, cv3, by omega, by first | rfl | go_num, by first | rfl | (congr 1; omega), ?_, done3 hB BQ1 grow1 own1 grow2 own2 grow3⟩
                   rw [show j + 1 + 0 = i + 1 by omega, List.append_assoc, ← ins_at S x j HSS.out HQ.out HLO.out (by omega), HI.out] at own3
                   exact own_base own3 (by omega))
              case measure => simp [intOf]; omega
            · have hcv' : ¬ cv = j := fun e => hcv e.symm
              go_wp2_with (first
                | (at_builtin; refine app_any rfl (.tmp 32) (.tmp 35) rfl w1.heap.size none 0 0 [] rfl (World.ownsRow_nil _ _ _ _) (some ⟨g, 0, none⟩) j cv (S.take j) rfl (by rw [List.length_take]; omega) (fun h => by cases h) H1.out (by omega) (Nat.le_refl _) ?_; intro ao1 cv1 w2 own1 grow1; simp only [Nat.zero_add, List.nil_append] at own1; have cX2 := hbx.out _ (BQ1.grown grow1 hs1 (fun k h => by cases h)))
                | (at_builtin; refine app_any rfl (.tmp 37) (.tmp 42) rfl w1.heap.size ao1 j cv1 (S.take j) rfl (own1.alloc _) (some ⟨w2.heap.size, 0, none⟩) 1 1 [x] rfl rfl (fun h => by cases h) (fun ad h => by cases h; exact cell_new _ _ _) (by omega) (by have := grow1.size; simp; omega) ?_; intro ao2 cv2 w3 own2 grow2)
                | (at_builtin; refine app_any rfl (.tmp 44) (.tmp 47) rfl w1.heap.size ao2 (j + 1) cv2 (S.take j ++ [x]) rfl own2 (some ⟨g, j, none⟩) (i - j) (cv - j) (S.drop j) rfl (by rw [List.length_drop]; omega) (fun h => by cases h) (fun ad h q u hu => by cases h; exact drop_cells (keep3 OQ.out grow1 own1 grow2) hu) (by omega) (by have := grow1.size; have h3 := grow2.size; simp at h3; omega) ?_; intro ao3 cv3 w4 own3 grow3)
                | fail)
              go_roundw
              case rel =>
                · (refine ⟨i + 1, ao3, cv3, by omega, by first | rfl | go_num, by rw [show j + 1 + (i - j) = i + 1 by omega], ?_, done3 hB BQ1 grow1 own1 grow2 own2 grow3⟩
                   rw [show j + 1 + (i - j) = i + 1 by omega, List.append_assoc, ← ins_at S x j HSS.out HQ.out HLO.out (by omega), HI.out] at own3
                   exact own_base own3 (by omega))
              case measure => simp [intOf]; omega
    · have hlt' : ¬ (i : Int) < (n : Int) := by omega
      obtain rfl : i = n := by omega
      have e : ts.take i = ts := List.take_of_length_le (by rw [HL.out]; exact Nat.le_refl _)
      rw [e] at HO
      have HF : Hid (Txt wo (.slice ao i cv) (srt cmpT ts)) := by
        have hl : (srt cmpT ts).length = i := by rw [srt_length]; exact HL.out
        refine ⟨ao, cv, by rw [hl], ?_⟩
        rcases HO.out.2 with ⟨hv, h0⟩ | ⟨g, cap', cur, hv, hg1, hg2, hg3, hg4, hg5, hg6⟩
        · exact .inl (List.length_eq_zero_iff.1 (by omega))
        · cases hv
          refine .inr ⟨g, 0, rfl, (Array.getElem?_eq_some_iff.1 hg2).1, fun q hq => ?_⟩
          have := HO.out.cells (g := g) rfl q (.string (ofL (srt cmpT ts)[q])) (by rw [txsV, List.getElem?_map, List.getElem?_eq_getElem hq]; rfl)
          have e : (⟨g, 0, none⟩ : Addr).add q = ⟨g, 0 + q, none⟩ := by unfold Addr.add; split <;> simp_all
          rwa [e] at this
      clear e
      go_wp2_with fail
      go_ret
      exact ⟨ao, cv, rfl, HF.out, hB⟩

end Go.Proofs.Ytkngmgdcnplkgaa

/-
  Walks: the law on orders.
-/
namespace Go.Proofs.Ytkngmgdcnplkgaa
open Go.RowKit Go.Shelf
set_option linter.unusedVariables false

theorem RTexts_same (a1 a2 : Option Addr) (n c1 c2 : Nat) (ts : List (List UInt8)) (hl : ts.length = n) (hn : n ≤ 1048576) (w : World) (hT1 : Txt w (.slice a1 n c1) ts) (hT2 : Txt w (.slice a2 n c2) ts) :
    Calls Try.prog 25 #[.slice a1 n c1, .slice a2 n c2] w fun e w' => e = .returned (.bool true) ∧ Below w.heap.size w w' := by
  refine (RTexts_any a1 a2 n n c1 c2 ts ts hl hl hn w hT1 hT2).mono ?_
  rintro e w' ⟨rfl, h⟩
  exact ⟨by simp, h⟩
theorem txt_own {W : World} {B n cv : Nat} {ao : Option Addr} {S : List (List UInt8)} (h : W.ownsRow B 9 1 (.slice ao n cv) n (txsV S)) (hl : S.length = n) : Txt W (.slice ao n cv) S := by
  refine ⟨ao, cv, by rw [hl], ?_⟩
  rcases h.2 with ⟨hv, h0⟩ | ⟨g, cap', cur, hv, hg1, hg2, hg3, hg4, hg5, hg6⟩
  · exact .inl (List.length_eq_zero_iff.1 (by omega))
  · cases hv
    refine .inr ⟨g, 0, rfl, (Array.getElem?_eq_some_iff.1 hg2).1, fun q hq => ?_⟩
    have := h.cells (g := g) rfl q (.string (ofL S[q])) (by rw [txsV, List.getElem?_map, List.getElem?_eq_getElem hq]; rfl)
    have e : (⟨g, 0, none⟩ : Addr).add q = ⟨g, 0 + q, none⟩ := by unfold Addr.add; split <;> simp_all
    rwa [e] at this

/-- What the law holds while it calls. -/
structure OD (w : World) (x y : SemL) (a1 a2 a3 a4 : Option Addr) (c1 c2 c3 c4 : Nat) (v u : Value) (ts : List (List UInt8)) (W : World) : Prop where
  bel : Below w.heap.size w W
  ca : W.heap[w.heap.size]? = some (.cells #[.string (ofL x.maj), .string (ofL x.min), .string (ofL x.pat), .slice a1 x.pre.length c1, .slice a3 x.bld.length c3] 24 (0, 0))
  cb : W.heap[w.heap.size + 1]? = some (.cells #[.string (ofL y.maj), .string (ofL y.min), .string (ofL y.pat), .slice a2 y.pre.length c2, .slice a4 y.bld.length c4] 24 (0, 0))
  sa : SemAt W (.agg #[.string (ofL x.maj), .string (ofL x.min), .string (ofL x.pat), .slice a1 x.pre.length c1, .slice a3 x.bld.length c3]) x
  sb : SemAt W (.agg #[.string (ofL y.maj), .string (ofL y.min), .string (ofL y.pat), .slice a2 y.pre.length c2, .slice a4 y.bld.length c4]) y
  tn : Txt W v ts
  tl : Txt W u ts
section
variable {w : World} {x y : SemL} {a1 a2 a3 a4 : Option Addr} {c1 c2 c3 c4 : Nat} {v u : Value} {ts : List (List UInt8)} {W W' : World}
theorem OD.next (h : OD w x y a1 a2 a3 a4 c1 c2 c3 c4 v u ts W) (hb : Below W.heap.size W W') : OD w x y a1 a2 a3 a4 c1 c2 c3 c4 v u ts W' :=
  ⟨h.bel.trans (hb.mono h.bel.size), (hb.block _ (Array.getElem?_eq_some_iff.1 h.ca).1).trans h.ca, (hb.block _ (Array.getElem?_eq_some_iff.1 h.cb).1).trans h.cb, h.sa.below hb, h.sb.below hb, h.tn.below hb, h.tl.below hb⟩
theorem OD.seen (h : OD w x y a1 a2 a3 a4 c1 c2 c3 c4 v u ts W) :
    W.cell? ⟨w.heap.size, 0, none⟩ = some (.string (ofL x.maj)) ∧ W.cell? ⟨w.heap.size, 1, none⟩ = some (.string (ofL x.min)) ∧ W.cell? ⟨w.heap.size, 2, none⟩ = some (.string (ofL x.pat)) ∧ W.cell? ⟨w.heap.size, 3, none⟩ = some (.slice a1 x.pre.length c1) ∧ W.cell? ⟨w.heap.size, 4, none⟩ = some (.slice a3 x.bld.length c3) ∧ W.cell? ⟨w.heap.size + 1, 0, none⟩ = some (.string (ofL y.maj)) ∧ W.cell? ⟨w.heap.size + 1, 1, none⟩ = some (.string (ofL y.min)) ∧ W.cell? ⟨w.heap.size + 1, 2, none⟩ = some (.string (ofL y.pat)) ∧ W.cell? ⟨w.heap.size + 1, 3, none⟩ = some (.slice a2 y.pre.length c2) ∧ W.cell? ⟨w.heap.size + 1, 4, none⟩ = some (.slice a4 y.bld.length c4) :=
  ⟨cell_at 0 h.ca rfl, cell_at 1 h.ca rfl, cell_at 2 h.ca rfl, cell_at 3 h.ca rfl, cell_at 4 h.ca rfl, cell_at 0 h.cb rfl, cell_at 1 h.cb rfl, cell_at 2 h.cb rfl, cell_at 3 h.cb rfl, cell_at 4 h.cb rfl⟩
end
theorem OD.start {w W4 : World} {x y : SemL} {a1 a2 a3 a4 : Option Addr} {c1 c2 c3 c4 : Nat} {a ao1 : Option Addr} {n cap cv1 : Nat} {ts : List (List UInt8)} (hT : Txt w (.slice a n cap) ts) (hl : ts.length = n)
    (sa : SemAt w (.agg #[.string (ofL x.maj), .string (ofL x.min), .string (ofL x.pat), .slice a1 x.pre.length c1, .slice a3 x.bld.length c3]) x) (sb : SemAt w (.agg #[.string (ofL y.maj), .string (ofL y.min), .string (ofL y.pat), .slice a2 y.pre.length c2, .slice a4 y.bld.length c4]) y)
    (own1 : W4.ownsRow (w.heap.size + 2) 9 1 (.slice ao1 n cv1) n (txsV ts))
    (grow1 : (((w.alloc (.cells #[.string (ofL x.maj), .string (ofL x.min), .string (ofL x.pat), .slice a1 x.pre.length c1, .slice a3 x.bld.length c3] 24)).alloc (.cells #[.string (ofL y.maj), .string (ofL y.min), .string (ofL y.pat), .slice a2 y.pre.length c2, .slice a4 y.bld.length c4] 24)).alloc (.cells #[] 9)).grownBy W4 (some (w.heap.size + 2))) :
    OD w x y a1 a2 a3 a4 c1 c2 c3 c4 (.slice ao1 n cv1) (.slice a n cap) ts W4 := by
  have b0 := (((Below.refl w.heap.size w).alloc (Nat.le_refl _) (.cells #[.string (ofL x.maj), .string (ofL x.min), .string (ofL x.pat), .slice a1 x.pre.length c1, .slice a3 x.bld.length c3] 24)).alloc (by simp) (.cells #[.string (ofL y.maj), .string (ofL y.min), .string (ofL y.pat), .slice a2 y.pre.length c2, .slice a4 y.bld.length c4] 24)).alloc (by simp; omega) (.cells #[] 9)
  have b1 := b0.grown grow1 (by simp; omega) (fun k h => by have := Option.some.inj h; omega)
  refine ⟨b1, ?_, ?_, sa.below b1, sb.below b1, txt_own own1 hl, hT.below b1⟩
  · rw [grow1.block _ (by simp; omega) (fun h => by have := Option.some.inj h; omega)]
    rw [Below.heap_alloc _ _ _ (by simp; omega), Below.heap_alloc _ _ _ (by simp)]
    exact World.alloc_heap_new w _
  · rw [grow1.block _ (by simp) (fun h => by have := Option.some.inj h; omega)]
    rw [Below.heap_alloc _ _ _ (by simp)]
    have := World.alloc_heap_new (w.alloc (.cells #[.string (ofL x.maj), .string (ofL x.min), .string (ofL x.pat), .slice a1 x.pre.length c1, .slice a3 x.bld.length c3] 24)) (.cells #[.string (ofL y.maj), .string (ofL y.min), .string (ofL y.pat), .slice a2 y.pre.length c2, .slice a4 y.bld.length c4] 24)
    simpa using this

set_option maxRecDepth 100000 in
set_option maxHeartbeats 8000000 in
theorem orders_walk (va vb : Value) (x y : SemL) (s t : ByteArray) (a : Option Addr) (n cap : Nat) (ts : List (List UInt8)) (w : World) (ha : SemAt w va x) (hb : SemAt w vb y) (lx : lenS x ≤ 1048576) (ly : lenS y ≤ 1048576) (hl : ts.length = n) (hn : n ≤ 1048576)
    (hT : Txt w (.slice a n cap) ts) (hnil : a = none → n = 0 ∧ cap = 0) :
    Calls Try.prog 5 #[va, vb, .string s, .string t, .slice a n cap] w fun e w' => e = .returned (.bool true) ∧ Below w.heap.size w w' := by
  have sx := short_of x lx
  have sy := short_of y ly
  have HA := ha
  have HB := hb
  obtain ⟨p1, q1, rfl, ⟨a1, c1, rfl, _⟩, ⟨a3, c3, rfl, _⟩⟩ := ha
  obtain ⟨p2, q2, rfl, ⟨a2, c2, rfl, _⟩, ⟨a4, c4, rfl, _⟩⟩ := hb
  have O1 := hide (fun W h1 h2 => Order_any (.agg #[.string (ofL x.maj), .string (ofL x.min), .string (ofL x.pat), .slice a1 x.pre.length c1, .slice a3 x.bld.length c3]) (.agg #[.string (ofL y.maj), .string (ofL y.min), .string (ofL y.pat), .slice a2 y.pre.length c2, .slice a4 y.bld.length c4]) x y W h1 h2 sx sy)
  have O2 := hide (fun W h1 h2 => ROrder_any (.agg #[.string (ofL x.maj), .string (ofL x.min), .string (ofL x.pat), .slice a1 x.pre.length c1, .slice a3 x.bld.length c3]) (.agg #[.string (ofL y.maj), .string (ofL y.min), .string (ofL y.pat), .slice a2 y.pre.length c2, .slice a4 y.bld.length c4]) x y W h1 h2 lx ly)
  have C1 := hide (fun w => CompareT_any Parse_any s t w)
  have C2 := hide (fun w => RCompare_any s t w)
  have AW := hide (fun w => awake_any Parse_any w)
  generalize ordW x y = od at *
  generalize cmpT s.data.toList t.data.toList = co at *
  have ed : (od == od) = true := by simp
  have ec : (co == co) = true := by simp
  have SR := hide (fun (a : Option Addr) (cap : Nat) W h => RSort_any a cap n ts hl W h hn)
  have SP := hide (fun (a : Option Addr) (cap : Nat) W h => Sort_any a cap n ts hl W h hn)
  have TX := hide (fun (a1 a2 : Option Addr) (c1 c2 : Nat) (ts' : List (List UInt8)) (h : ts'.length = n) W h1 h2 => RTexts_same a1 a2 n c1 c2 ts' h hn W h1 h2)
  have hls : Hid ((srt cmpT ts).length = n) := by show _ = _; rw [srt_length]; exact hl
  have HC : Hid (∀ W, Below w.heap.size w W → ∀ ad, a = some ad → ∀ j u, (txsV ts)[j]? = some u → W.cell? (ad.add j) = some u) := by
    intro W hb ad had j u hu
    obtain ⟨a', cap', hv, h0 | ⟨b, off, ha, hlt, hc⟩⟩ := hT.below hb
    · subst h0; simp [txsV] at hu
    · cases hv
      rw [had] at ha
      cases ha
      rw [txsV, List.getElem?_map] at hu
      have hj : j < ts.length := by
        by_cases h : j < ts.length
        · exact h
        · rw [List.getElem?_eq_none (by omega)] at hu; simp at hu
      rw [List.getElem?_eq_getElem hj] at hu
      have e : (⟨b, off, none⟩ : Addr).add j = ⟨b, off + j, none⟩ := by unfold Addr.add; split <;> simp_all
      rw [e, hc j hj]
      simpa using hu
  have HL := hide hl
  have HT := hide hT
  have HN := hide hnil
  have HA := hide HA
  have HB := hide HB
  clear hl hT hnil sx sy lx ly
  go_enter Try.func5, Try.ntmps5
  go_wp2_with (first
    | (at_builtin; refine app_any rfl (.tmp 12) (.tmp 13) rfl (w.heap.size + 2) (some ⟨w.heap.size + 2, 0, none⟩) 0 0 [] rfl (by have := World.ownsRow_made (base := w.heap.size + 2) (e := 9) (size := 1) ((w.alloc (.cells #[.string (ofL x.maj), .string (ofL x.min), .string (ofL x.pat), .slice a1 x.pre.length c1, .slice a3 x.bld.length c3] 24)).alloc (.cells #[.string (ofL y.maj), .string (ofL y.min), .string (ofL y.pat), .slice a2 y.pre.length c2, .slice a4 y.bld.length c4] 24)) #[] 0 (by simp) (by unfold maxLen; omega) (by simp); simpa [txsV] using this) a n cap ts rfl HL.out HN.out (HC.out _ ((((Below.refl w.heap.size w).alloc (Nat.le_refl _) _).alloc (by simp) _).alloc (by simp; omega) _)) (by omega) (by simp) ?_; intro ao1 cv1 W4 own1 grow1)
    | fail)
  simp only [Nat.zero_add, List.nil_append] at own1
  have S0 := OD.start (x := x) (y := y) HT.out HL.out HA.out HB.out own1 grow1
  clear own1 grow1 HC HN HT HA HB
  have D0 := S0.next (below_drewN _ W4 1)
  obtain ⟨cc0, cc1, cc2, cc3, cc4, cc5, cc6, cc7, cc8, cc9⟩ := S0.seen
  go_region_held3 (fun w' => w'.cell? ⟨w.heap.size, 0, none⟩ = some (.string (ofL x.maj)) ∧ w'.cell? ⟨w.heap.size, 1, none⟩ = some (.string (ofL x.min)) ∧ w'.cell? ⟨w.heap.size, 2, none⟩ = some (.string (ofL x.pat)) ∧ w'.cell? ⟨w.heap.size, 3, none⟩ = some (.slice a1 x.pre.length c1) ∧ w'.cell? ⟨w.heap.size, 4, none⟩ = some (.slice a3 x.bld.length c3) ∧ w'.cell? ⟨w.heap.size + 1, 0, none⟩ = some (.string (ofL y.maj)) ∧ w'.cell? ⟨w.heap.size + 1, 1, none⟩ = some (.string (ofL y.min)) ∧ w'.cell? ⟨w.heap.size + 1, 2, none⟩ = some (.string (ofL y.pat)) ∧ w'.cell? ⟨w.heap.size + 1, 3, none⟩ = some (.slice a2 y.pre.length c2) ∧ w'.cell? ⟨w.heap.size + 1, 4, none⟩ = some (.slice a4 y.bld.length c4))
    (go_keep)
    ((first
      | (go_at_call 14; refine (AW.out _).mono ?_; rintro e w9 ⟨rfl, b9⟩; have Q9 := Q8.next b9; obtain ⟨ki0, ki1, ki2, ki3, ki4, ki5, ki6, ki7, ki8, ki9⟩ := Q9.seen)
      | (go_at_call 25; refine (TX.out _ _ _ _ _ HL.out _ Q7.tn Q7.tl).mono ?_; rintro e w8 ⟨rfl, b8⟩; have Q8 := Q7.next b8; obtain ⟨kh0, kh1, kh2, kh3, kh4, kh5, kh6, kh7, kh8, kh9⟩ := Q8.seen)
      | (go_at_call 25; refine (TX.out _ _ _ _ _ hls.out _ T5b T6).mono ?_; rintro e w7 ⟨rfl, b7⟩; have Q7 := Q6.next b7; obtain ⟨kg0, kg1, kg2, kg3, kg4, kg5, kg6, kg7, kg8, kg9⟩ := Q7.seen)
      | (go_at_call 27; refine (SR.out _ _ _ Q5.tl).mono ?_; rintro e w6 ⟨g6, cv6, rfl, T6, b6⟩; have Q6 := Q5.next b6; have T5b := T5.below b6; obtain ⟨kf0, kf1, kf2, kf3, kf4, kf5, kf6, kf7, kf8, kf9⟩ := Q6.seen)
      | (go_at_call 26; refine (SP.out _ _ _ Q4.tn).mono ?_; rintro e w5 ⟨g5, rfl, T5, hg5, b5⟩; have Q5 := Q4.next b5; obtain ⟨ke0, ke1, ke2, ke3, ke4, ke5, ke6, ke7, ke8, ke9⟩ := Q5.seen)
      | (go_at_call 24; refine (C2.out _).mono ?_; rintro e w4 ⟨rfl, b4⟩; have Q4 := Q3.next b4; obtain ⟨kd0, kd1, kd2, kd3, kd4, kd5, kd6, kd7, kd8, kd9⟩ := Q4.seen)
      | (go_at_call 23; refine (C1.out _).mono ?_; rintro e w3 ⟨rfl, b3⟩; have Q3 := Q2.next b3; obtain ⟨kc0, kc1, kc2, kc3, kc4, kc5, kc6, kc7, kc8, kc9⟩ := Q3.seen)
      | (go_at_call 22; refine (O2.out _ Q1.sa Q1.sb).mono ?_; rintro e w2 ⟨rfl, b2⟩; have Q2 := Q1.next b2; obtain ⟨kb0, kb1, kb2, kb3, kb4, kb5, kb6, kb7, kb8, kb9⟩ := Q2.seen)
      | (go_at_call 21; refine (O1.out _ D0.sa D0.sb).mono ?_; rintro e w1 ⟨rfl, b1⟩; have Q1 := D0.next b1; obtain ⟨ka0, ka1, ka2, ka3, ka4, ka5, ka6, ka7, ka8, ka9⟩ := Q1.seen)
      | fail))
  go_wp2_with fail
  go_ret
  exact ⟨rfl, Q9.bel⟩

end Go.Proofs.Ytkngmgdcnplkgaa
