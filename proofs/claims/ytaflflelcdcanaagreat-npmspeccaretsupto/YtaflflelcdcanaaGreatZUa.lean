/-
  Walks: the document's order of identifiers and of versions.
-/
import Derived.Test.YtaflflelcdcanaaGreatZFf
import Derived.Test.YtaflflelcdcanaaGreatZGa
namespace Go.Proofs.YtaflflelcdcanaaGreat
open Go.RowKit Go.Shelf
set_option linter.unusedVariables false

set_option maxHeartbeats 400000 in
theorem Rtruth_any (b : Bool) (w : World) : Calls Tryz.prog 49 #[.bool b] w fun e w' => e = .returned (.int .i64 (if b then 1 else 0)) ∧ w' = w := by
  cases b
  · go_enter Tryz.func49, Tryz.ntmps49
    go_wp2_with fail
    go_ret
    exact ⟨rfl, rfl⟩
  · go_enter Tryz.func49, Tryz.ntmps49
    go_wp2_with fail
    go_ret
    exact ⟨rfl, rfl⟩

set_option maxHeartbeats 1000000 in
theorem Rone_any (a b : List UInt8) (w : World) (ha : a.length ≤ 1048576) (hb : b.length ≤ 1048576) :
    Calls Tryz.prog 50 #[.string (ofL a), .string (ofL b)] w fun e w' => e = .returned (.int .i64 (oneO a b)) ∧ w' = w := by
  have DA := fun w => rdigits_any (ofL a) w (by rw [ofL_size]; unfold maxLen; omega)
  have DB := fun w => rdigits_any (ofL b) w (by rw [ofL_size]; unfold maxLen; omega)
  have CD := fun w => RCmp_any (ofL a) (ofL b) w (by rw [ofL_size]; omega) (by rw [ofL_size]; omega)
  rw [ofL_data] at DA DB
  rw [ofL_data, ofL_data] at CD
  have HT := hide (cmp3 (ofL a).toList (ofL b).toList)
  have hO : oneO a b = if digB a then (if digB b then cmpD a b else -1) else if digB b then 1 else Lib.compareBytes (ofL a).toList (ofL b).toList := by rw [toL, toL, ofL_data, ofL_data]; rfl
  generalize oneO a b = O at *
  generalize digB a = x at *
  generalize digB b = y at *
  generalize cmpD a b = cd at *
  generalize Lib.compareBytes (ofL a).toList (ofL b).toList = c2 at *
  have HO := hide hO
  have DA := hide DA
  have DB := hide DB
  have CD := hide CD
  clear hO
  generalize ofL a = sa at *
  generalize ofL b = sb at *
  cases x
  · cases y
    · rcases HT.out with ⟨rfl, hbl⟩ | ⟨rfl, hbl, heq⟩ | ⟨rfl, hbl, heq⟩
      · go_enter Tryz.func50, Tryz.ntmps50
        go_wp2_with fail
        refine (DA.out _).mono ?_
        rintro e w' ⟨rfl, hw'⟩
        rw [hw']; clear hw' w'
        go_wp2_with fail
        refine (DA.out _).mono ?_
        rintro e w' ⟨rfl, hw'⟩
        rw [hw']; clear hw' w'
        go_wp2_with fail
        refine (DB.out _).mono ?_
        rintro e w' ⟨rfl, hw'⟩
        rw [hw']; clear hw' w'
        go_wp2_with fail
        go_ret
        exact ⟨ret_i (by rw [HO.out]; rfl), rfl⟩
      · go_enter Tryz.func50, Tryz.ntmps50
        go_wp2_with fail
        refine (DA.out _).mono ?_
        rintro e w' ⟨rfl, hw'⟩
        rw [hw']; clear hw' w'
        go_wp2_with fail
        refine (DA.out _).mono ?_
        rintro e w' ⟨rfl, hw'⟩
        rw [hw']; clear hw' w'
        go_wp2_with fail
        refine (DB.out _).mono ?_
        rintro e w' ⟨rfl, hw'⟩
        rw [hw']; clear hw' w'
        go_wp2_with fail
        go_ret
        exact ⟨ret_i (by rw [HO.out]; rfl), rfl⟩
      · go_enter Tryz.func50, Tryz.ntmps50
        go_wp2_with fail
        refine (DA.out _).mono ?_
        rintro e w' ⟨rfl, hw'⟩
        rw [hw']; clear hw' w'
        go_wp2_with fail
        refine (DA.out _).mono ?_
        rintro e w' ⟨rfl, hw'⟩
        rw [hw']; clear hw' w'
        go_wp2_with fail
        refine (DB.out _).mono ?_
        rintro e w' ⟨rfl, hw'⟩
        rw [hw']; clear hw' w'
        go_wp2_with fail
        go_ret
        exact ⟨ret_i (by rw [HO.out]; rfl), rfl⟩
    · skip
      go_enter Tryz.func50, Tryz.ntmps50
      go_wp2_with fail
      refine (DA.out _).mono ?_
      rintro e w' ⟨rfl, hw'⟩
      rw [hw']; clear hw' w'
      go_wp2_with fail
      refine (DA.out _).mono ?_
      rintro e w' ⟨rfl, hw'⟩
      rw [hw']; clear hw' w'
      go_wp2_with fail
      refine (DB.out _).mono ?_
      rintro e w' ⟨rfl, hw'⟩
      rw [hw']; clear hw' w'
      go_wp2_with fail
      go_ret
      exact ⟨ret_i (by rw [HO.out]; rfl), rfl⟩
  · cases y
    · skip
      go_enter Tryz.func50, Tryz.ntmps50
      go_wp2_with fail
      refine (DA.out _).mono ?_
      rintro e w' ⟨rfl, hw'⟩
      rw [hw']; clear hw' w'
      go_wp2_with fail
      refine (DB.out _).mono ?_
      rintro e w' ⟨rfl, hw'⟩
      rw [hw']; clear hw' w'
      go_wp2_with fail
      refine (DA.out _).mono ?_
      rintro e w' ⟨rfl, hw'⟩
      rw [hw']; clear hw' w'
      go_wp2_with fail
      go_ret
      exact ⟨ret_i (by rw [HO.out]; rfl), rfl⟩
    · skip
      go_enter Tryz.func50, Tryz.ntmps50
      go_wp2_with fail
      refine (DA.out _).mono ?_
      rintro e w' ⟨rfl, hw'⟩
      rw [hw']; clear hw' w'
      go_wp2_with fail
      refine (DB.out _).mono ?_
      rintro e w' ⟨rfl, hw'⟩
      rw [hw']; clear hw' w'
      go_wp2_with fail
      refine (CD.out _).mono ?_
      rintro e w' ⟨rfl, hw'⟩
      rw [hw']; clear hw' w'
      go_wp2_with fail
      go_ret
      exact ⟨ret_i (by rw [HO.out]; rfl), rfl⟩

/-- Two versions in their boxes. -/
structure SB (w : World) (x y : SemL) (a1 a2 a3 a4 : Option Addr) (c1 c2 c3 c4 : Nat) (W : World) : Prop where
  below : Below w.heap.size w W
  b0 : W.heap[w.heap.size]? = some (.cells #[.string (ofL x.maj), .string (ofL x.min), .string (ofL x.pat), .slice a1 x.pre.length c1, .slice a3 x.bld.length c3] 33 (0, 0))
  b1 : W.heap[w.heap.size + 1]? = some (.cells #[.string (ofL y.maj), .string (ofL y.min), .string (ofL y.pat), .slice a2 y.pre.length c2, .slice a4 y.bld.length c4] 33 (0, 0))
section
variable {w : World} {x y : SemL} {a1 a2 a3 a4 : Option Addr} {c1 c2 c3 c4 : Nat} {W W' : World}
theorem SB.next (h : SB w x y a1 a2 a3 a4 c1 c2 c3 c4 W) (hb : Below W.heap.size W W') : SB w x y a1 a2 a3 a4 c1 c2 c3 c4 W' :=
  ⟨h.below.trans (hb.mono h.below.size), (hb.block _ (Array.getElem?_eq_some_iff.1 h.b0).1).trans h.b0, (hb.block _ (Array.getElem?_eq_some_iff.1 h.b1).1).trans h.b1⟩
theorem SB.start (w : World) (x y : SemL) (a1 a2 a3 a4 : Option Addr) (c1 c2 c3 c4 : Nat) : SB w x y a1 a2 a3 a4 c1 c2 c3 c4 ((w.alloc (.cells #[.string (ofL x.maj), .string (ofL x.min), .string (ofL x.pat), .slice a1 x.pre.length c1, .slice a3 x.bld.length c3] 33)).alloc (.cells #[.string (ofL y.maj), .string (ofL y.min), .string (ofL y.pat), .slice a2 y.pre.length c2, .slice a4 y.bld.length c4] 33)) := by
  have k0 := World.alloc_heap_new w (.cells #[.string (ofL x.maj), .string (ofL x.min), .string (ofL x.pat), .slice a1 x.pre.length c1, .slice a3 x.bld.length c3] 33)
  have k1 := World.alloc_heap_new (w.alloc (.cells #[.string (ofL x.maj), .string (ofL x.min), .string (ofL x.pat), .slice a1 x.pre.length c1, .slice a3 x.bld.length c3] 33)) (.cells #[.string (ofL y.maj), .string (ofL y.min), .string (ofL y.pat), .slice a2 y.pre.length c2, .slice a4 y.bld.length c4] 33)
  simp only [World.size_alloc] at k1
  exact ⟨((Below.refl _ w).alloc (Nat.le_refl _) _).alloc (by simp) _, (Below.heap_alloc _ _ _ (by simp)).trans k0, k1⟩
end
theorem ord_o (x y : SemL) : ordO x y = if cmpD x.maj y.maj = 0 then (if cmpD x.min y.min = 0 then (if cmpD x.pat y.pat = 0 then preO x.pre y.pre else cmpD x.pat y.pat) else cmpD x.min y.min) else cmpD x.maj y.maj := by
  unfold ordO or4
  (repeat' split) <;> simp_all

set_option maxRecDepth 100000 in
set_option maxHeartbeats 4000000 in
theorem ROrder_any (va vb : Value) (x y : SemL) (w : World) (ha : SemAt w va x) (hb : SemAt w vb y) (lx : lenS x ≤ 1048576) (ly : lenS y ≤ 1048576) :
    Calls Tryz.prog 26 #[va, vb] w fun e w' => e = .returned (.int .i64 (ordW x y)) ∧ Below w.heap.size w w' := by
  have F1 := hide (fun W (hW : Below w.heap.size w W) => rFit_any va x W (ha.below hW) lx)
  have F2 := hide (fun W (hW : Below w.heap.size w W) => rFit_any vb y W (hb.below hW) ly)
  have HO : Hid (ordW x y = if fitW x && fitW y then ordO x y else 0) := rfl
  have HO2 := hide (ord_o x y)
  obtain ⟨p1, q1, rfl, t1, u1⟩ := ha
  obtain ⟨p2, q2, rfl, t2, u2⟩ := hb
  have T1 := hide (fun W (hW : Below w.heap.size w W) => t1.below hW)
  have T2 := hide (fun W (hW : Below w.heap.size w W) => t2.below hW)
  obtain ⟨a1, c1, rfl, y1⟩ := t1
  obtain ⟨a2, c2, rfl, y2⟩ := t2
  obtain ⟨a3, c3, rfl, y3⟩ := u1
  obtain ⟨a4, c4, rfl, y4⟩ := u2
  clear y1 y2 y3 y4
  have lp := lenI_ge x.pre
  have lq := lenI_ge y.pre
  have hx1 : x.pre.length ≤ 1048576 := by unfold lenS at lx; omega
  have hy1 : y.pre.length ≤ 1048576 := by unfold lenS at ly; omega
  have HX : Hid (∀ t ∈ x.pre, t.length ≤ 1048576) := fun t ht => by have := lp.2 t ht; unfold lenS at lx; omega
  have HY : Hid (∀ t ∈ y.pre, t.length ≤ 1048576) := fun t ht => by have := lq.2 t ht; unfold lenS at ly; omega
  have C1 := fun w => RCmp_any (ofL x.maj) (ofL y.maj) w (by rw [ofL_size]; unfold lenS at lx; omega) (by rw [ofL_size]; unfold lenS at ly; omega)
  have C2 := fun w => RCmp_any (ofL x.min) (ofL y.min) w (by rw [ofL_size]; unfold lenS at lx; omega) (by rw [ofL_size]; unfold lenS at ly; omega)
  have C3 := fun w => RCmp_any (ofL x.pat) (ofL y.pat) w (by rw [ofL_size]; unfold lenS at lx; omega) (by rw [ofL_size]; unfold lenS at ly; omega)
  rw [ofL_data, ofL_data] at C1 C2 C3
  have C1 := hide C1
  have C2 := hide C2
  have C3 := hide C3
  have TR := hide (fun b w => Rtruth_any b w)
  clear lp lq lx ly
  generalize ordW x y = R at *
  generalize ordO x y = o at *
  generalize fitW x = f1 at *
  generalize fitW y = f2 at *
  generalize cmpD x.maj y.maj = o1 at *
  generalize cmpD x.min y.min = o2 at *
  generalize cmpD x.pat y.pat = o3 at *
  have S0 := SB.start w x y a1 a2 a3 a4 c1 c2 c3 c4
  have HP : Hid (preO x.pre y.pre = if x.pre = [] ∨ y.pre = [] then (if y.pre.length < x.pre.length then -1 else if x.pre.length < y.pre.length then 1 else 0) else lexO x.pre y.pre) := rfl
  generalize preO x.pre y.pre = o4 at *
  cases f1
  · go_enter Tryz.func26, Tryz.ntmps26
    go_wp2_with fail
    generalize ((w.alloc (.cells #[.string (ofL x.maj), .string (ofL x.min), .string (ofL x.pat), .slice a1 x.pre.length c1, .slice a3 x.bld.length c3] 33)).alloc (.cells #[.string (ofL y.maj), .string (ofL y.min), .string (ofL y.pat), .slice a2 y.pre.length c2, .slice a4 y.bld.length c4] 33)) = w0 at *
    refine (F1.out _ S0.below).mono ?_
    rintro e w1 ⟨rfl, b1⟩
    have S1 := S0.next b1
    clear S0 b1
    go_wp2_with fail
    go_ret
    exact ⟨ret_i (by rw [HO.out]; rfl), S1.below⟩
  · go_enter Tryz.func26, Tryz.ntmps26
    go_wp2_with fail
    generalize ((w.alloc (.cells #[.string (ofL x.maj), .string (ofL x.min), .string (ofL x.pat), .slice a1 x.pre.length c1, .slice a3 x.bld.length c3] 33)).alloc (.cells #[.string (ofL y.maj), .string (ofL y.min), .string (ofL y.pat), .slice a2 y.pre.length c2, .slice a4 y.bld.length c4] 33)) = w0 at *
    refine (F1.out _ S0.below).mono ?_
    rintro e w1 ⟨rfl, b1⟩
    have S1 := S0.next b1
    clear S0 b1
    obtain ⟨z0, z1, z2, z3, z4⟩ := seen5 S1.b1
    go_wp2_with fail
    refine (F2.out _ S1.below).mono ?_
    rintro e w2 ⟨rfl, b2⟩
    have S2 := S1.next b2
    clear S1 b2 z0 z1 z2 z3 z4
    obtain ⟨r0, r1, r2, r3, r4⟩ := seen5 S2.b0
    obtain ⟨z0, z1, z2, z3, z4⟩ := seen5 S2.b1
    cases f2
    · go_wp2_with fail
      go_ret
      exact ⟨ret_i (by rw [HO.out]; rfl), S2.below⟩
    · have HO : Hid (R = if o1 = 0 then (if o2 = 0 then (if o3 = 0 then o4 else o3) else o2) else o1) := by show _ = _; rw [HO.out, ← HO2.out]; rfl
      clear HO2 F1 F2
      go_wp2_with fail
      refine (C1.out _).mono ?_
      rintro e w' ⟨rfl, hw'⟩
      rw [hw']; clear hw' w'
      by_cases h1 : o1 = 0
      · have hb1 : (o1 != 0) = false := by simpa using h1
        have HO : Hid (R = if o2 = 0 then (if o3 = 0 then o4 else o3) else o2) := by show _ = _; rw [HO.out, if_pos h1]
        clear h1
        go_wp2_with fail
        refine (C2.out _).mono ?_
        rintro e w' ⟨rfl, hw'⟩
        rw [hw']; clear hw' w'
        by_cases h2 : o2 = 0
        · have hb2 : (o2 != 0) = false := by simpa using h2
          have HO : Hid (R = if o3 = 0 then o4 else o3) := by show _ = _; rw [HO.out, if_pos h2]
          clear h2
          go_wp2_with fail
          refine (C3.out _).mono ?_
          rintro e w' ⟨rfl, hw'⟩
          rw [hw']; clear hw' w'
          by_cases h3 : o3 = 0
          · have hb3 : (o3 != 0) = false := by simpa using h3
            have HO : Hid (R = o4) := by show _ = _; rw [HO.out, if_pos h3]
            clear h3
            by_cases hp : x.pre.length = 0
            · have hbp := int_eq0 hp
              have hxe : x.pre = [] := List.length_eq_zero_iff.1 hp
              by_cases hq : y.pre.length = 0
              · have hbq := int_eq0 hq
                have HZ : Hid (R = 0) := by show _ = _; rw [HO.out, HP.out, if_pos (.inl hxe), if_neg (by omega), if_neg (by omega)]
                clear hp hq hxe HP HO
                go_wp2_with fail
                go_quiet (first | (go_at_call 49; exact Calls.quiet_of_same (TR.out _ _)) | fail)
                go_wp2_with fail
                go_ret
                exact ⟨ret_i HZ.out.symm, (S2.next (below_drewN _ _ _)).below⟩
              · have hbq := int_ne0 hq
                have HZ : Hid (R = 1) := by show _ = _; rw [HO.out, HP.out, if_pos (.inl hxe), if_neg (by omega), if_pos (by omega)]
                clear hp hq hxe HP HO
                go_wp2_with fail
                go_quiet (first | (go_at_call 49; exact Calls.quiet_of_same (TR.out _ _)) | fail)
                go_wp2_with fail
                go_ret
                exact ⟨ret_i HZ.out.symm, (S2.next (below_drewN _ _ _)).below⟩
            · have hbp := int_ne0 hp
              by_cases hq : y.pre.length = 0
              · have hbq := int_eq0 hq
                have hye : y.pre = [] := List.length_eq_zero_iff.1 hq
                have HZ : Hid (R = -1) := by show _ = _; rw [HO.out, HP.out, if_pos (.inr hye), if_pos (by omega)]
                clear hp hq hye HP HO
                go_wp2_with fail
                go_quiet (first | (go_at_call 49; exact Calls.quiet_of_same (TR.out _ _)) | fail)
                go_wp2_with fail
                go_ret
                exact ⟨ret_i HZ.out.symm, (S2.next (below_drewN _ _ _)).below⟩
              · have hbq := int_ne0 hq
                have HZ : Hid (R = lexO (x.pre.drop 0) (y.pre.drop 0)) := by
                  show _ = _
                  rw [HO.out, HP.out, if_neg (by rintro (h | h) <;> simp [h] at hp hq)]; rfl
                clear hp hq HP HO C1 C2 C3
                go_wp2_with fail
                clear r0 r1 r2 r3 r4 z0 z1 z2 z3 z4
                go_loopw [8] (fun v wr => ∃ k : Nat, k ≤ x.pre.length ∧ k ≤ y.pre.length ∧ v = .int .i64 k ∧ SB w x y a1 a2 a3 a4 c1 c2 c3 c4 wr ∧ Hid (R = lexO (x.pre.drop k) (y.pre.drop k))) (fun v _ => x.pre.length - (intOf v).toNat)
                case atStart => exact ⟨0, by omega, by omega, rfl, S2, HZ⟩
                case round =>
                  clear S2 HZ
                  obtain ⟨k, hk1, hk2, rfl, S, HR⟩ := hrel
                  obtain ⟨r0, r1, r2, r3, r4⟩ := seen5 S.b0
                  obtain ⟨z0, z1, z2, z3, z4⟩ := seen5 S.b1
                  by_cases h1 : k < x.pre.length
                  · have h1' : (k : Int) < (x.pre.length : Int) := by omega
                    by_cases h2 : k < y.pre.length
                    · have h2' : (k : Int) < (y.pre.length : Int) := by omega
                      obtain ⟨g1, o1, rfl, d1⟩ := (T1.out _ S.below).some (by omega)
                      obtain ⟨g2, o2, rfl, d2⟩ := (T2.out _ S.below).some (by omega)
                      have e1 := d1 k h1
                      have e2 := d2 k h2
                      have ON := hide (fun w => Rone_any x.pre[k] y.pre[k] w (HX.out _ (List.getElem_mem _)) (HY.out _ (List.getElem_mem _)))
                      have HL := hide (lexO_drop x.pre y.pre k h1 h2)
                      clear d1 d2
                      generalize x.pre[k] = s at *
                      generalize y.pre[k] = t at *
                      generalize oneO s t = c at *
                      clear h1 h2
                      by_cases h0 : c = 0
                      · subst h0
                        have HZ : Hid (R = lexO (x.pre.drop (k + 1)) (y.pre.drop (k + 1))) := by show _ = _; rw [HR.out, HL.out, if_pos rfl]
                        clear HR HL
                        go_wp2_with fail
                        go_quiet (first | (go_at_call 50; exact Calls.quiet_of_same (ON.out _)) | fail)
                        go_wp2_with fail
                        go_roundw
                        case rel => exact ⟨k + 1, by omega, by omega, by go_num, S.next (below_drewN _ _ _), HZ⟩
                        case measure => simp [intOf]; omega
                      · have hb0 : (c != 0) = true := by simpa using h0
                        have HZ : Hid (R = c) := by show _ = _; rw [HR.out, HL.out, if_neg h0]
                        clear HR HL h0
                        go_wp2_with fail
                        go_quiet (first | (go_at_call 50; exact Calls.quiet_of_same (ON.out _)) | fail)
                        go_wp2_with fail
                        go_ret
                        exact ⟨ret_i HZ.out.symm, (S.next (below_drewN _ _ _)).below⟩
                    · have h2' : ¬ (k : Int) < (y.pre.length : Int) := by omega
                      have HZ : Hid (R = 1) := by show _ = _; rw [HR.out, lexO_endb _ _ k h1 (by omega)]
                      have g1 : (y.pre.length : Int) < (x.pre.length : Int) := by omega
                      have g2 : ¬ (x.pre.length : Int) < (y.pre.length : Int) := by omega
                      have g3 : decide ((x.pre.length : Int) < (y.pre.length : Int)) = false := by simpa using g2
                      have g4 : decide ((y.pre.length : Int) < (x.pre.length : Int)) = true := by simpa using g1
                      clear h1 h2 HR
                      go_wp2_with fail
                      all_goals (go_quiet (first | (go_at_call 49; exact Calls.quiet_of_same (TR.out _ _)) | fail))
                      all_goals (go_wp2_with fail)
                      all_goals (go_ret)
                      all_goals exact ⟨ret_i HZ.out.symm, (S.next (below_drewN _ _ _)).below⟩
                  · have h1' : ¬ (k : Int) < (x.pre.length : Int) := by omega
                    by_cases h2 : k < y.pre.length
                    · have HZ : Hid (R = -1) := by show _ = _; rw [HR.out, lexO_enda _ _ k (by omega) h2]
                      have g1 : ¬ (y.pre.length : Int) < (x.pre.length : Int) := by omega
                      have g2 : (x.pre.length : Int) < (y.pre.length : Int) := by omega
                      have g3 : decide ((x.pre.length : Int) < (y.pre.length : Int)) = true := by simpa using g2
                      have g4 : decide ((y.pre.length : Int) < (x.pre.length : Int)) = false := by simpa using g1
                      clear h1 h2 HR
                      go_wp2_with fail
                      all_goals (go_quiet (first | (go_at_call 49; exact Calls.quiet_of_same (TR.out _ _)) | fail))
                      all_goals (go_wp2_with fail)
                      all_goals (go_ret)
                      all_goals exact ⟨ret_i HZ.out.symm, (S.next (below_drewN _ _ _)).below⟩
                    · have HZ : Hid (R = 0) := by show _ = _; rw [HR.out, lexO_end _ _ k (by omega) (by omega)]
                      have g1 : ¬ (y.pre.length : Int) < (x.pre.length : Int) := by omega
                      have g2 : ¬ (x.pre.length : Int) < (y.pre.length : Int) := by omega
                      have g3 : decide ((x.pre.length : Int) < (y.pre.length : Int)) = false := by simpa using g2
                      have g4 : decide ((y.pre.length : Int) < (x.pre.length : Int)) = false := by simpa using g1
                      clear h1 h2 HR
                      go_wp2_with fail
                      all_goals (go_quiet (first | (go_at_call 49; exact Calls.quiet_of_same (TR.out _ _)) | fail))
                      all_goals (go_wp2_with fail)
                      all_goals (go_ret)
                      all_goals exact ⟨ret_i HZ.out.symm, (S.next (below_drewN _ _ _)).below⟩
          · have hb3 : (o3 != 0) = true := by simpa using h3
            have HO : Hid (R = o3) := by show _ = _; rw [HO.out, if_neg h3]
            clear h3
            go_wp2_with fail
            go_ret
            exact ⟨ret_i HO.out.symm, S2.below⟩
        · have hb2 : (o2 != 0) = true := by simpa using h2
          have HO : Hid (R = o2) := by show _ = _; rw [HO.out, if_neg h2]
          clear h2
          go_wp2_with fail
          go_ret
          exact ⟨ret_i HO.out.symm, S2.below⟩
      · have hb1 : (o1 != 0) = true := by simpa using h1
        have HO : Hid (R = o1) := by show _ = _; rw [HO.out, if_neg h1]
        clear h1
        go_wp2_with fail
        go_ret
        exact ⟨ret_i HO.out.symm, S2.below⟩

end Go.Proofs.YtaflflelcdcanaaGreat
