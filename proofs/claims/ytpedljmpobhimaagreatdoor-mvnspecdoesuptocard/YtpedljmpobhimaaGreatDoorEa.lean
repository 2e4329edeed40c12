/-
  Walks: the document's classes of bytes and its token.
-/
import Derived.Test.YtpedljmpobhimaaGreatDoorDs
namespace Go.Proofs.YtpedljmpobhimaaGreatDoor
open Go.RowKit Go.Shelf
set_option linter.unusedVariables false

set_option maxHeartbeats 400000 in
theorem Rdigit_any (c : Int) (w : World) :
    Calls Tryz.prog 61 #[.int .u8 c] w fun e w' => e = .returned (.bool (isC c 1)) ∧ w' = w := by
  have HC : Hid (isC c 1 = (decide (48 ≤ c) && decide (c ≤ 57))) := rfl
  generalize isC c 1 = R at *
  by_cases h1 : 48 ≤ c
  · by_cases h2 : c ≤ 57
    · go_enter Tryz.func61, Tryz.ntmps61
      go_wp2_with fail
      go_ret
      exact ⟨by rw [HC.out]; first | (simp [h1, h2]; done) | (simp [h1, h2]; omega), rfl⟩
    · go_enter Tryz.func61, Tryz.ntmps61
      go_wp2_with fail
      go_ret
      exact ⟨by rw [HC.out]; first | (simp [h1, h2]; done) | (simp [h1, h2]; omega), rfl⟩
  · go_enter Tryz.func61, Tryz.ntmps61
    go_wp2_with fail
    go_ret
    exact ⟨by rw [HC.out]; first | (simp; done) | (simp; omega), rfl⟩
set_option maxHeartbeats 1000000 in
theorem Rletter_any (c : Int) (w : World) :
    Calls Tryz.prog 62 #[.int .u8 c] w fun e w' => e = .returned (.bool (isC c 4)) ∧ w' = w := by
  have HC : Hid (isC c 4 = ((decide (97 ≤ c) && decide (c ≤ 122)) || (decide (65 ≤ c) && decide (c ≤ 90)))) := rfl
  generalize isC c 4 = R at *
  by_cases h1 : 97 ≤ c
  · by_cases h2 : c ≤ 122
    · go_enter Tryz.func62, Tryz.ntmps62
      go_wp2_with fail
      go_ret
      exact ⟨by rw [HC.out]; first | (simp [h1, h2]; done) | (simp [h1, h2]; omega), rfl⟩
    · have h3 : 65 ≤ c := by omega
      have h4 : ¬ c ≤ 90 := by omega
      go_enter Tryz.func62, Tryz.ntmps62
      go_wp2_with fail
      go_ret
      exact ⟨by rw [HC.out]; first | (simp [h1, h2, h3, h4]; done) | (simp [h1, h2, h3, h4]; omega), rfl⟩
  · by_cases h3 : 65 ≤ c
    · by_cases h4 : c ≤ 90
      · go_enter Tryz.func62, Tryz.ntmps62
        go_wp2_with fail
        go_ret
        exact ⟨by rw [HC.out]; first | (simp [h3, h4]; done) | (simp [h1, h3, h4]; omega), rfl⟩
      · go_enter Tryz.func62, Tryz.ntmps62
        go_wp2_with fail
        go_ret
        exact ⟨by rw [HC.out]; first | (simp [h3, h4]; done) | (simp [h3, h4]; omega), rfl⟩
    · go_enter Tryz.func62, Tryz.ntmps62
      go_wp2_with fail
      go_ret
      exact ⟨by rw [HC.out]; first | (simp; done) | (simp; omega), rfl⟩
set_option maxHeartbeats 400000 in
theorem Rsep_any (c : UInt8) (w : World) :
    Calls Tryz.prog 63 #[.int .u8 (c.toNat : Int)] w fun e w' => e = .returned (.bool (markB c)) ∧ w' = w := by
  have HW : Hid (markB c = (((c.toNat : Int) == 46) || ((c.toNat : Int) == 45))) := by
    show _ = _
    rw [show (46 : Int) = ((46 : UInt8).toNat : Int) from rfl, show (45 : Int) = ((45 : UInt8).toNat : Int) from rfl, u8_beq, u8_beq]
    rfl
  generalize markB c = R at *
  cases h5 : ((c.toNat : Int) == 46)
  · cases h6 : ((c.toNat : Int) == 45)
    · go_enter Tryz.func63, Tryz.ntmps63
      go_wp2_with fail
      go_ret
      exact ⟨by rw [HW.out, h5, h6]; rfl, rfl⟩
    · go_enter Tryz.func63, Tryz.ntmps63
      go_wp2_with fail
      go_ret
      exact ⟨by rw [HW.out, h5, h6]; rfl, rfl⟩
  · go_enter Tryz.func63, Tryz.ntmps63
    go_wp2_with fail
    go_ret
    exact ⟨by rw [HW.out, h5]; rfl, rfl⟩

theorem qual_doc (y : List UInt8) (near : Bool) : qualL y near = if near && (y == [97]) then [97, 108, 112, 104, 97] else if near && (y == [98]) then [98, 101, 116, 97] else if near && (y == [109]) then [109, 105, 108, 101, 115, 116, 111, 110, 101]
    else if (y == [99, 114]) then [114, 99] else if (y == [102, 105, 110, 97, 108]) then [] else if (y == [103, 97]) then [] else if (y == [114, 101, 108, 101, 97, 115, 101]) then [] else y := by
  unfold qualL
  by_cases h1 : y = [99, 114]
  · subst h1; cases near <;> rfl
  · by_cases h2 : y = [102, 105, 110, 97, 108]
    · subst h2; cases near <;> rfl
    · by_cases h3 : y = [103, 97]
      · subst h3; cases near <;> rfl
      · by_cases h4 : y = [114, 101, 108, 101, 97, 115, 101]
        · subst h4; cases near <;> rfl
        · rw [if_neg h1, if_neg (c := _ ∨ _) (by simp [h2, h3, h4])]
          cases near <;> simp [h1, h2, h3, h4]

theorem fin79 {R : Ending → World → Prop} (tmps : Array Value) (W : World) (B : Nat) (a b c : Value)
    (h2 : tmps.getD 6 undef = .pointer (some ⟨B, 0, none⟩)) (e1 : W.heap[B]? = some (.cells #[a, b, c] 91 (0, 0)))
    (hR : R (.returned (.agg #[a, b, c])) W) :
    bodyPost Tryz.prog Tryz.f83 R .ret { tmps := tmps, defers := [] } W := by
  have r0 := cell_at 0 e1 rfl
  have r1 := cell_at 1 e1 rfl
  have r2 := cell_at 2 e1 rfl
  rw [Array.getD_eq_getD_getElem?] at h2
  refine ⟨rfl, _, ?_, hR⟩
  simp [results, Tryz.results83, go_sem, h2, r0, r1, r2]
  try rfl

set_option maxRecDepth 100000 in
set_option maxHeartbeats 4000000 in
theorem Rtoken_any (d : Bool) (s : ByteArray) (near : Bool) (w : World) (hs : s.size ≤ 64) :
    Calls Tryz.prog 83 #[.bool d, .string s, .bool near] w fun e w' => e = .returned (tokV (tokL d s.data.toList near)) ∧ Below w.heap.size w w' := by
  have b0 : Below w.heap.size w ((w.alloc (.cells #[.bool false, .bool false, .string ⟨#[]⟩] 91)).alloc (.cells #[.bool d, .bool false, .string ⟨#[]⟩] 91)) := ((Below.refl _ w).alloc (Nat.le_refl _) _).alloc (by simp) _
  have eN : ((w.alloc (.cells #[.bool false, .bool false, .string ⟨#[]⟩] 91)).alloc (.cells #[.bool d, .bool false, .string ⟨#[]⟩] 91)).heap[w.heap.size]? = some (.cells #[.bool false, .bool false, .string ⟨#[]⟩] 91 (0, 0)) := (Below.heap_alloc _ _ _ (by simp)).trans (World.alloc_heap_new w _)
  have eM : ((w.alloc (.cells #[.bool false, .bool false, .string ⟨#[]⟩] 91)).alloc (.cells #[.bool d, .bool false, .string ⟨#[]⟩] 91)).heap[w.heap.size + 1]? = some (.cells #[.bool d, .bool false, .string ⟨#[]⟩] 91 (0, 0)) := by
    have := World.alloc_heap_new (w.alloc (.cells #[.bool false, .bool false, .string ⟨#[]⟩] 91)) (.cells #[.bool d, .bool false, .string ⟨#[]⟩] 91)
    rwa [World.size_alloc] at this
  by_cases h0 : 0 < s.size
  · have hne := eqE s h0
    have hne' : s.toList.isEmpty = false := by rw [toL]; exact emp s h0
    have HN : Hid (numB s.data.toList = isC (s[0].toNat : Int) 1) := by
      show _ = _
      have := drop_at s 0 h0
      rw [List.drop_zero] at this
      rw [this]; rfl
    cases h1 : isC (s[0].toNat : Int) 1
    · have HV : Hid (tokV (tokL d s.data.toList near) = .agg #[.bool d, .bool false, .string (ofL (qualL (s.data.toList.map lowC) near))]) := by
        show _ = _
        unfold tokL tokV
        rw [HN.out, h1]; rfl
      have CL := hide (fun w => RLower_any s w (by unfold maxLen; omega))
      have HQ : Hid (qualL (s.data.toList.map lowC) near = if near && ((ofL (s.data.toList.map lowC)).toList == [97]) then [97, 108, 112, 104, 97] else if near && ((ofL (s.data.toList.map lowC)).toList == [98]) then [98, 101, 116, 97] else if near && ((ofL (s.data.toList.map lowC)).toList == [109]) then [109, 105, 108, 101, 115, 116, 111, 110, 101]
          else if ((ofL (s.data.toList.map lowC)).toList == [99, 114]) then [114, 99] else if ((ofL (s.data.toList.map lowC)).toList == [102, 105, 110, 97, 108]) then [] else if ((ofL (s.data.toList.map lowC)).toList == [103, 97]) then [] else if ((ofL (s.data.toList.map lowC)).toList == [114, 101, 108, 101, 97, 115, 101]) then [] else s.data.toList.map lowC) := by
        show _ = _
        rw [toL, ofL_data]
        exact qual_doc _ _
      have hsl : (ofL (s.data.toList.map lowC)) = ofL (s.data.toList.map lowC) := rfl
      generalize tokV (tokL d s.data.toList near) = TV at *
      generalize qualL (s.data.toList.map lowC) near = Q at *
      have HL : Hid (ofL (s.data.toList.map lowC) = ofL (s.data.toList.map lowC)) := rfl
      have HLD : Hid (∀ L : ByteArray, ofL (s.data.toList.map lowC) = L → ofL (s.data.toList.map lowC) = L) := fun _ h => h
      clear hsl HL HLD
      obtain ⟨L, hL⟩ : ∃ L, ofL (s.data.toList.map lowC) = L := ⟨_, rfl⟩
      have HLL := hide hL
      rw [hL] at CL HQ
      clear hL
      have FIN : Hid (∀ (w1 : World) (q : ByteArray), w1.heap[w.heap.size]? = some (.cells #[.bool false, .bool false, .string ⟨#[]⟩] 91 (0, 0)) → Below w.heap.size w w1 → ofL Q = q → ∀ (tmps : Array Value) (W0 W : World), tmps.getD 6 undef = .pointer (some ⟨w.heap.size, 0, none⟩) → W0.heap[w.heap.size]? = w1.heap[w.heap.size]? → Below w.heap.size w1 W0 → W = (((W0.setCell ⟨w.heap.size, 0, none⟩ (.bool d)).setCell ⟨w.heap.size, 1, none⟩ (.bool false)).setCell ⟨w.heap.size, 2, none⟩ (.string q)) →
          bodyPost Tryz.prog Tryz.f83 (fun e w' => e = .returned TV ∧ Below w.heap.size w w') .ret { tmps := tmps, defers := [] } W) := by
        intro w1 q e1 bw hq tmps W0 W h2 e2 b2 hW
        refine fin79 tmps W w.heap.size (.bool d) (.bool false) (.string q) h2 ?_ ⟨by rw [HV.out, hq], ?_⟩
        · rw [hW]; exact three_lies _ _ _ (e2.trans e1)
        · rw [hW]; exact (bw.trans b2).trans (three_below _ (Nat.le_refl _) _ _ _)
      clear HV HN
      cases near
      · cases c4 : (L.toList == [99, 114])
        · cases c5 : (L.toList == [102, 105, 110, 97, 108])
          · cases c6 : (L.toList == [103, 97])
            · cases c7 : (L.toList == [114, 101, 108, 101, 97, 115, 101])
              · have HX : Hid (Q = s.data.toList.map lowC) := by show _ = _; rw [HQ.out]; simp [c4, c5, c6, c7]
                clear HQ
                go_enter Tryz.func83, Tryz.ntmps83
                go_wp2_with fail
                refine (Rdigit_any _ _).mono ?_
                rintro e w' ⟨rfl, hw'⟩
                rw [hw']; clear hw' w'
                go_wp2_with fail
                refine (CL.out _).mono ?_
                rintro e w1 ⟨rfl, b1⟩
                have s1 := b1.size
                simp only [World.size_alloc] at s1
                have eN1 := (b1.block w.heap.size (by simp; omega)).trans eN
                have eM1 := (b1.block (w.heap.size + 1) (by simp)).trans eM
                have bw := b0.trans (b1.mono b0.size)
                have n0 := cell_at 0 eN1 rfl
                have n1 := cell_at 1 eN1 rfl
                have n2 := cell_at 2 eN1 rfl
                have m0 := cell_at 0 eM1 rfl
                have m1 := cell_at 1 eM1 rfl
                have m2 := cell_at 2 eM1 rfl
                have y0 := one_free 0 eN1
                have y1 := one_free 1 eN1
                have y2 := one_free 2 eN1
                have z0 := one_free 0 eM1
                have z1 := one_free 1 eM1
                have z2 := one_free 2 eM1
                clear b1 s1
                go_wp2_with fail
                exact FIN.out w1 _ eN1 bw (by rw [HX.out]; exact HLL.out) _ _ _ rfl (Below.heap_setCell _ _ _ _ (by simp only; omega)) ((Below.refl _ _).setCell (p := ⟨w.heap.size + 1, 2, none⟩) (Nat.le_succ _) _) rfl
              · have HX : Hid (Q = []) := by show _ = _; rw [HQ.out]; simp [c4, c5, c6, c7]
                clear HQ
                go_enter Tryz.func83, Tryz.ntmps83
                go_wp2_with fail
                refine (Rdigit_any _ _).mono ?_
                rintro e w' ⟨rfl, hw'⟩
                rw [hw']; clear hw' w'
                go_wp2_with fail
                refine (CL.out _).mono ?_
                rintro e w1 ⟨rfl, b1⟩
                have s1 := b1.size
                simp only [World.size_alloc] at s1
                have eN1 := (b1.block w.heap.size (by simp; omega)).trans eN
                have eM1 := (b1.block (w.heap.size + 1) (by simp)).trans eM
                have bw := b0.trans (b1.mono b0.size)
                have n0 := cell_at 0 eN1 rfl
                have n1 := cell_at 1 eN1 rfl
                have n2 := cell_at 2 eN1 rfl
                have m0 := cell_at 0 eM1 rfl
                have m1 := cell_at 1 eM1 rfl
                have m2 := cell_at 2 eM1 rfl
                have y0 := one_free 0 eN1
                have y1 := one_free 1 eN1
                have y2 := one_free 2 eN1
                have z0 := one_free 0 eM1
                have z1 := one_free 1 eM1
                have z2 := one_free 2 eM1
                clear b1 s1
                go_wp2_with fail
                exact FIN.out w1 _ eN1 bw (by rw [HX.out]; rfl) _ _ _ rfl ((Below.heap_setCell _ _ _ _ (by simp only; omega)).trans (Below.heap_setCell _ _ _ _ (by simp only; omega))) (((Below.refl _ _).setCell (p := ⟨w.heap.size + 1, 2, none⟩) (Nat.le_succ _) _).setCell (p := ⟨w.heap.size + 1, 2, none⟩) (Nat.le_succ _) _) rfl
            · have HX : Hid (Q = []) := by show _ = _; rw [HQ.out]; simp [c4, c5, c6]
              clear HQ
              go_enter Tryz.func83, Tryz.ntmps83
              go_wp2_with fail
              refine (Rdigit_any _ _).mono ?_
              rintro e w' ⟨rfl, hw'⟩
              rw [hw']; clear hw' w'
              go_wp2_with fail
              refine (CL.out _).mono ?_
              rintro e w1 ⟨rfl, b1⟩
              have s1 := b1.size
              simp only [World.size_alloc] at s1
              have eN1 := (b1.block w.heap.size (by simp; omega)).trans eN
              have eM1 := (b1.block (w.heap.size + 1) (by simp)).trans eM
              have bw := b0.trans (b1.mono b0.size)
              have n0 := cell_at 0 eN1 rfl
              have n1 := cell_at 1 eN1 rfl
              have n2 := cell_at 2 eN1 rfl
              have m0 := cell_at 0 eM1 rfl
              have m1 := cell_at 1 eM1 rfl
              have m2 := cell_at 2 eM1 rfl
              have y0 := one_free 0 eN1
              have y1 := one_free 1 eN1
              have y2 := one_free 2 eN1
              have z0 := one_free 0 eM1
              have z1 := one_free 1 eM1
              have z2 := one_free 2 eM1
              clear b1 s1
              go_wp2_with fail
              exact FIN.out w1 _ eN1 bw (by rw [HX.out]; rfl) _ _ _ rfl ((Below.heap_setCell _ _ _ _ (by simp only; omega)).trans (Below.heap_setCell _ _ _ _ (by simp only; omega))) (((Below.refl _ _).setCell (p := ⟨w.heap.size + 1, 2, none⟩) (Nat.le_succ _) _).setCell (p := ⟨w.heap.size + 1, 2, none⟩) (Nat.le_succ _) _) rfl
          · have HX : Hid (Q = []) := by show _ = _; rw [HQ.out]; simp [c4, c5]
            clear HQ
            go_enter Tryz.func83, Tryz.ntmps83
            go_wp2_with fail
            refine (Rdigit_any _ _).mono ?_
            rintro e w' ⟨rfl, hw'⟩
            rw [hw']; clear hw' w'
            go_wp2_with fail
            refine (CL.out _).mono ?_
            rintro e w1 ⟨rfl, b1⟩
            have s1 := b1.size
            simp only [World.size_alloc] at s1
            have eN1 := (b1.block w.heap.size (by simp; omega)).trans eN
            have eM1 := (b1.block (w.heap.size + 1) (by simp)).trans eM
            have bw := b0.trans (b1.mono b0.size)
            have n0 := cell_at 0 eN1 rfl
            have n1 := cell_at 1 eN1 rfl
            have n2 := cell_at 2 eN1 rfl
            have m0 := cell_at 0 eM1 rfl
            have m1 := cell_at 1 eM1 rfl
            have m2 := cell_at 2 eM1 rfl
            have y0 := one_free 0 eN1
            have y1 := one_free 1 eN1
            have y2 := one_free 2 eN1
            have z0 := one_free 0 eM1
            have z1 := one_free 1 eM1
            have z2 := one_free 2 eM1
            clear b1 s1
            go_wp2_with fail
            exact FIN.out w1 _ eN1 bw (by rw [HX.out]; rfl) _ _ _ rfl ((Below.heap_setCell _ _ _ _ (by simp only; omega)).trans (Below.heap_setCell _ _ _ _ (by simp only; omega))) (((Below.refl _ _).setCell (p := ⟨w.heap.size + 1, 2, none⟩) (Nat.le_succ _) _).setCell (p := ⟨w.heap.size + 1, 2, none⟩) (Nat.le_succ _) _) rfl
        · have HX : Hid (Q = [114, 99]) := by show _ = _; rw [HQ.out]; simp [c4]
          clear HQ
          go_enter Tryz.func83, Tryz.ntmps83
          go_wp2_with fail
          refine (Rdigit_any _ _).mono ?_
          rintro e w' ⟨rfl, hw'⟩
          rw [hw']; clear hw' w'
          go_wp2_with fail
          refine (CL.out _).mono ?_
          rintro e w1 ⟨rfl, b1⟩
          have s1 := b1.size
          simp only [World.size_alloc] at s1
          have eN1 := (b1.block w.heap.size (by simp; omega)).trans eN
          have eM1 := (b1.block (w.heap.size + 1) (by simp)).trans eM
          have bw := b0.trans (b1.mono b0.size)
          have n0 := cell_at 0 eN1 rfl
          have n1 := cell_at 1 eN1 rfl
          have n2 := cell_at 2 eN1 rfl
          have m0 := cell_at 0 eM1 rfl
          have m1 := cell_at 1 eM1 rfl
          have m2 := cell_at 2 eM1 rfl
          have y0 := one_free 0 eN1
          have y1 := one_free 1 eN1
          have y2 := one_free 2 eN1
          have z0 := one_free 0 eM1
          have z1 := one_free 1 eM1
          have z2 := one_free 2 eM1
          clear b1 s1
          go_wp2_with fail
          exact FIN.out w1 _ eN1 bw (by rw [HX.out]; rfl) _ _ _ rfl ((Below.heap_setCell _ _ _ _ (by simp only; omega)).trans (Below.heap_setCell _ _ _ _ (by simp only; omega))) (((Below.refl _ _).setCell (p := ⟨w.heap.size + 1, 2, none⟩) (Nat.le_succ _) _).setCell (p := ⟨w.heap.size + 1, 2, none⟩) (Nat.le_succ _) _) rfl
      · cases c1 : (L.toList == [97])
        · cases c2 : (L.toList == [98])
          · cases c3 : (L.toList == [109])
            · cases c4 : (L.toList == [99, 114])
              · cases c5 : (L.toList == [102, 105, 110, 97, 108])
                · cases c6 : (L.toList == [103, 97])
                  · cases c7 : (L.toList == [114, 101, 108, 101, 97, 115, 101])
                    · have HX : Hid (Q = s.data.toList.map lowC) := by show _ = _; rw [HQ.out]; simp [c1, c2, c3, c4, c5, c6, c7]
                      clear HQ
                      go_enter Tryz.func83, Tryz.ntmps83
                      go_wp2_with fail
                      refine (Rdigit_any _ _).mono ?_
                      rintro e w' ⟨rfl, hw'⟩
                      rw [hw']; clear hw' w'
                      go_wp2_with fail
                      refine (CL.out _).mono ?_
                      rintro e w1 ⟨rfl, b1⟩
                      have s1 := b1.size
                      simp only [World.size_alloc] at s1
                      have eN1 := (b1.block w.heap.size (by simp; omega)).trans eN
                      have eM1 := (b1.block (w.heap.size + 1) (by simp)).trans eM
                      have bw := b0.trans (b1.mono b0.size)
                      have n0 := cell_at 0 eN1 rfl
                      have n1 := cell_at 1 eN1 rfl
                      have n2 := cell_at 2 eN1 rfl
                      have m0 := cell_at 0 eM1 rfl
                      have m1 := cell_at 1 eM1 rfl
                      have m2 := cell_at 2 eM1 rfl
                      have y0 := one_free 0 eN1
                      have y1 := one_free 1 eN1
                      have y2 := one_free 2 eN1
                      have z0 := one_free 0 eM1
                      have z1 := one_free 1 eM1
                      have z2 := one_free 2 eM1
                      clear b1 s1
                      go_wp2_with fail
                      exact FIN.out w1 _ eN1 bw (by rw [HX.out]; exact HLL.out) _ _ _ rfl (Below.heap_setCell _ _ _ _ (by simp only; omega)) ((Below.refl _ _).setCell (p := ⟨w.heap.size + 1, 2, none⟩) (Nat.le_succ _) _) rfl
                    · have HX : Hid (Q = []) := by show _ = _; rw [HQ.out]; simp [c1, c2, c3, c4, c5, c6, c7]
                      clear HQ
                      go_enter Tryz.func83, Tryz.ntmps83
                      go_wp2_with fail
                      refine (Rdigit_any _ _).mono ?_
                      rintro e w' ⟨rfl, hw'⟩
                      rw [hw']; clear hw' w'
                      go_wp2_with fail
                      refine (CL.out _).mono ?_
                      rintro e w1 ⟨rfl, b1⟩
                      have s1 := b1.size
                      simp only [World.size_alloc] at s1
                      have eN1 := (b1.block w.heap.size (by simp; omega)).trans eN
                      have eM1 := (b1.block (w.heap.size + 1) (by simp)).trans eM
                      have bw := b0.trans (b1.mono b0.size)
                      have n0 := cell_at 0 eN1 rfl
                      have n1 := cell_at 1 eN1 rfl
                      have n2 := cell_at 2 eN1 rfl
                      have m0 := cell_at 0 eM1 rfl
                      have m1 := cell_at 1 eM1 rfl
                      have m2 := cell_at 2 eM1 rfl
                      have y0 := one_free 0 eN1
                      have y1 := one_free 1 eN1
                      have y2 := one_free 2 eN1
                      have z0 := one_free 0 eM1
                      have z1 := one_free 1 eM1
                      have z2 := one_free 2 eM1
                      clear b1 s1
                      go_wp2_with fail
                      exact FIN.out w1 _ eN1 bw (by rw [HX.out]; rfl) _ _ _ rfl ((Below.heap_setCell _ _ _ _ (by simp only; omega)).trans (Below.heap_setCell _ _ _ _ (by simp only; omega))) (((Below.refl _ _).setCell (p := ⟨w.heap.size + 1, 2, none⟩) (Nat.le_succ _) _).setCell (p := ⟨w.heap.size + 1, 2, none⟩) (Nat.le_succ _) _) rfl
                  · have HX : Hid (Q = []) := by show _ = _; rw [HQ.out]; simp [c1, c2, c3, c4, c5, c6]
                    clear HQ
                    go_enter Tryz.func83, Tryz.ntmps83
                    go_wp2_with fail
                    refine (Rdigit_any _ _).mono ?_
                    rintro e w' ⟨rfl, hw'⟩
                    rw [hw']; clear hw' w'
                    go_wp2_with fail
                    refine (CL.out _).mono ?_
                    rintro e w1 ⟨rfl, b1⟩
                    have s1 := b1.size
                    simp only [World.size_alloc] at s1
                    have eN1 := (b1.block w.heap.size (by simp; omega)).trans eN
                    have eM1 := (b1.block (w.heap.size + 1) (by simp)).trans eM
                    have bw := b0.trans (b1.mono b0.size)
                    have n0 := cell_at 0 eN1 rfl
                    have n1 := cell_at 1 eN1 rfl
                    have n2 := cell_at 2 eN1 rfl
                    have m0 := cell_at 0 eM1 rfl
                    have m1 := cell_at 1 eM1 rfl
                    have m2 := cell_at 2 eM1 rfl
                    have y0 := one_free 0 eN1
                    have y1 := one_free 1 eN1
                    have y2 := one_free 2 eN1
                    have z0 := one_free 0 eM1
                    have z1 := one_free 1 eM1
                    have z2 := one_free 2 eM1
                    clear b1 s1
                    go_wp2_with fail
                    exact FIN.out w1 _ eN1 bw (by rw [HX.out]; rfl) _ _ _ rfl ((Below.heap_setCell _ _ _ _ (by simp only; omega)).trans (Below.heap_setCell _ _ _ _ (by simp only; omega))) (((Below.refl _ _).setCell (p := ⟨w.heap.size + 1, 2, none⟩) (Nat.le_succ _) _).setCell (p := ⟨w.heap.size + 1, 2, none⟩) (Nat.le_succ _) _) rfl
                · have HX : Hid (Q = []) := by show _ = _; rw [HQ.out]; simp [c1, c2, c3, c4, c5]
                  clear HQ
                  go_enter Tryz.func83, Tryz.ntmps83
                  go_wp2_with fail
                  refine (Rdigit_any _ _).mono ?_
                  rintro e w' ⟨rfl, hw'⟩
                  rw [hw']; clear hw' w'
                  go_wp2_with fail
                  refine (CL.out _).mono ?_
                  rintro e w1 ⟨rfl, b1⟩
                  have s1 := b1.size
                  simp only [World.size_alloc] at s1
                  have eN1 := (b1.block w.heap.size (by simp; omega)).trans eN
                  have eM1 := (b1.block (w.heap.size + 1) (by simp)).trans eM
                  have bw := b0.trans (b1.mono b0.size)
                  have n0 := cell_at 0 eN1 rfl
                  have n1 := cell_at 1 eN1 rfl
                  have n2 := cell_at 2 eN1 rfl
                  have m0 := cell_at 0 eM1 rfl
                  have m1 := cell_at 1 eM1 rfl
                  have m2 := cell_at 2 eM1 rfl
                  have y0 := one_free 0 eN1
                  have y1 := one_free 1 eN1
                  have y2 := one_free 2 eN1
                  have z0 := one_free 0 eM1
                  have z1 := one_free 1 eM1
                  have z2 := one_free 2 eM1
                  clear b1 s1
                  go_wp2_with fail
                  exact FIN.out w1 _ eN1 bw (by rw [HX.out]; rfl) _ _ _ rfl ((Below.heap_setCell _ _ _ _ (by simp only; omega)).trans (Below.heap_setCell _ _ _ _ (by simp only; omega))) (((Below.refl _ _).setCell (p := ⟨w.heap.size + 1, 2, none⟩) (Nat.le_succ _) _).setCell (p := ⟨w.heap.size + 1, 2, none⟩) (Nat.le_succ _) _) rfl
              · have HX : Hid (Q = [114, 99]) := by show _ = _; rw [HQ.out]; simp [c1, c2, c3, c4]
                clear HQ
                go_enter Tryz.func83, Tryz.ntmps83
                go_wp2_with fail
                refine (Rdigit_any _ _).mono ?_
                rintro e w' ⟨rfl, hw'⟩
                rw [hw']; clear hw' w'
                go_wp2_with fail
                refine (CL.out _).mono ?_
                rintro e w1 ⟨rfl, b1⟩
                have s1 := b1.size
                simp only [World.size_alloc] at s1
                have eN1 := (b1.block w.heap.size (by simp; omega)).trans eN
                have eM1 := (b1.block (w.heap.size + 1) (by simp)).trans eM
                have bw := b0.trans (b1.mono b0.size)
                have n0 := cell_at 0 eN1 rfl
                have n1 := cell_at 1 eN1 rfl
                have n2 := cell_at 2 eN1 rfl
                have m0 := cell_at 0 eM1 rfl
                have m1 := cell_at 1 eM1 rfl
                have m2 := cell_at 2 eM1 rfl
                have y0 := one_free 0 eN1
                have y1 := one_free 1 eN1
                have y2 := one_free 2 eN1
                have z0 := one_free 0 eM1
                have z1 := one_free 1 eM1
                have z2 := one_free 2 eM1
                clear b1 s1
                go_wp2_with fail
                exact FIN.out w1 _ eN1 bw (by rw [HX.out]; rfl) _ _ _ rfl ((Below.heap_setCell _ _ _ _ (by simp only; omega)).trans (Below.heap_setCell _ _ _ _ (by simp only; omega))) (((Below.refl _ _).setCell (p := ⟨w.heap.size + 1, 2, none⟩) (Nat.le_succ _) _).setCell (p := ⟨w.heap.size + 1, 2, none⟩) (Nat.le_succ _) _) rfl
            · have HX : Hid (Q = [109, 105, 108, 101, 115, 116, 111, 110, 101]) := by show _ = _; rw [HQ.out]; simp [c1, c2, c3]
              clear HQ
              go_enter Tryz.func83, Tryz.ntmps83
              go_wp2_with fail
              refine (Rdigit_any _ _).mono ?_
              rintro e w' ⟨rfl, hw'⟩
              rw [hw']; clear hw' w'
              go_wp2_with fail
              refine (CL.out _).mono ?_
              rintro e w1 ⟨rfl, b1⟩
              have s1 := b1.size
              simp only [World.size_alloc] at s1
              have eN1 := (b1.block w.heap.size (by simp; omega)).trans eN
              have eM1 := (b1.block (w.heap.size + 1) (by simp)).trans eM
              have bw := b0.trans (b1.mono b0.size)
              have n0 := cell_at 0 eN1 rfl
              have n1 := cell_at 1 eN1 rfl
              have n2 := cell_at 2 eN1 rfl
              have m0 := cell_at 0 eM1 rfl
              have m1 := cell_at 1 eM1 rfl
              have m2 := cell_at 2 eM1 rfl
              have y0 := one_free 0 eN1
              have y1 := one_free 1 eN1
              have y2 := one_free 2 eN1
              have z0 := one_free 0 eM1
              have z1 := one_free 1 eM1
              have z2 := one_free 2 eM1
              clear b1 s1
              go_wp2_with fail
              exact FIN.out w1 _ eN1 bw (by rw [HX.out]; rfl) _ _ _ rfl ((Below.heap_setCell _ _ _ _ (by simp only; omega)).trans (Below.heap_setCell _ _ _ _ (by simp only; omega))) (((Below.refl _ _).setCell (p := ⟨w.heap.size + 1, 2, none⟩) (Nat.le_succ _) _).setCell (p := ⟨w.heap.size + 1, 2, none⟩) (Nat.le_succ _) _) rfl
          · have HX : Hid (Q = [98, 101, 116, 97]) := by show _ = _; rw [HQ.out]; simp [c1, c2]
            clear HQ
            go_enter Tryz.func83, Tryz.ntmps83
            go_wp2_with fail
            refine (Rdigit_any _ _).mono ?_
            rintro e w' ⟨rfl, hw'⟩
            rw [hw']; clear hw' w'
            go_wp2_with fail
            refine (CL.out _).mono ?_
            rintro e w1 ⟨rfl, b1⟩
            have s1 := b1.size
            simp only [World.size_alloc] at s1
            have eN1 := (b1.block w.heap.size (by simp; omega)).trans eN
            have eM1 := (b1.block (w.heap.size + 1) (by simp)).trans eM
            have bw := b0.trans (b1.mono b0.size)
            have n0 := cell_at 0 eN1 rfl
            have n1 := cell_at 1 eN1 rfl
            have n2 := cell_at 2 eN1 rfl
            have m0 := cell_at 0 eM1 rfl
            have m1 := cell_at 1 eM1 rfl
            have m2 := cell_at 2 eM1 rfl
            have y0 := one_free 0 eN1
            have y1 := one_free 1 eN1
            have y2 := one_free 2 eN1
            have z0 := one_free 0 eM1
            have z1 := one_free 1 eM1
            have z2 := one_free 2 eM1
            clear b1 s1
            go_wp2_with fail
            exact FIN.out w1 _ eN1 bw (by rw [HX.out]; rfl) _ _ _ rfl ((Below.heap_setCell _ _ _ _ (by simp only; omega)).trans (Below.heap_setCell _ _ _ _ (by simp only; omega))) (((Below.refl _ _).setCell (p := ⟨w.heap.size + 1, 2, none⟩) (Nat.le_succ _) _).setCell (p := ⟨w.heap.size + 1, 2, none⟩) (Nat.le_succ _) _) rfl
        · have HX : Hid (Q = [97, 108, 112, 104, 97]) := by show _ = _; rw [HQ.out]; simp [c1]
          clear HQ
          go_enter Tryz.func83, Tryz.ntmps83
          go_wp2_with fail
          refine (Rdigit_any _ _).mono ?_
          rintro e w' ⟨rfl, hw'⟩
          rw [hw']; clear hw' w'
          go_wp2_with fail
          refine (CL.out _).mono ?_
          rintro e w1 ⟨rfl, b1⟩
          have s1 := b1.size
          simp only [World.size_alloc] at s1
          have eN1 := (b1.block w.heap.size (by simp; omega)).trans eN
          have eM1 := (b1.block (w.heap.size + 1) (by simp)).trans eM
          have bw := b0.trans (b1.mono b0.size)
          have n0 := cell_at 0 eN1 rfl
          have n1 := cell_at 1 eN1 rfl
          have n2 := cell_at 2 eN1 rfl
          have m0 := cell_at 0 eM1 rfl
          have m1 := cell_at 1 eM1 rfl
          have m2 := cell_at 2 eM1 rfl
          have y0 := one_free 0 eN1
          have y1 := one_free 1 eN1
          have y2 := one_free 2 eN1
          have z0 := one_free 0 eM1
          have z1 := one_free 1 eM1
          have z2 := one_free 2 eM1
          clear b1 s1
          go_wp2_with fail
          exact FIN.out w1 _ eN1 bw (by rw [HX.out]; rfl) _ _ _ rfl ((Below.heap_setCell _ _ _ _ (by simp only; omega)).trans (Below.heap_setCell _ _ _ _ (by simp only; omega))) (((Below.refl _ _).setCell (p := ⟨w.heap.size + 1, 2, none⟩) (Nat.le_succ _) _).setCell (p := ⟨w.heap.size + 1, 2, none⟩) (Nat.le_succ _) _) rfl
    · have HV : Hid (tokV (tokL d s.data.toList near) = .agg #[.bool d, .bool true, .string (ofL (trimL s.data.toList))]) := by
        show _ = _
        unfold tokL tokV
        rw [HN.out, h1]; rfl
      have CT := hide (fun w => RTrim_any s w (by unfold maxLen; omega))
      generalize tokV (tokL d s.data.toList near) = TV at *
      generalize ofL (trimL s.data.toList) = L at *
      clear b0 eN eM
      go_enter Tryz.func83, Tryz.ntmps83
      go_wp2_with fail
      refine (Rdigit_any _ _).mono ?_
      rintro e w' ⟨rfl, hw'⟩
      rw [hw']; clear hw' w'
      go_wp2_with fail
      refine (CT.out _).mono ?_
      rintro e w' ⟨rfl, hw'⟩
      rw [hw']; clear hw' w'
      go_wp2_with fail
      exact fin79 _ _ w.heap.size _ _ _ rfl ((Below.heap_alloc _ _ _ (by simp)).trans (World.alloc_heap_new w _)) ⟨by rw [HV.out], ((Below.refl _ w).alloc (Nat.le_refl _) _).alloc (by simp) _⟩
  · obtain rfl := size0 s h0
    have HV : Hid (tokV (tokL d (⟨#[]⟩ : ByteArray).data.toList near) = .agg #[.bool d, .bool true, .string (ofL (trimL (⟨#[]⟩ : ByteArray).data.toList))]) := rfl
    have CT := hide (fun w => RTrim_any ⟨#[]⟩ w (by unfold maxLen; simp [ByteArray.size]))
    generalize tokV (tokL d (⟨#[]⟩ : ByteArray).data.toList near) = TV at *
    generalize ofL (trimL (⟨#[]⟩ : ByteArray).data.toList) = L at *
    clear h0 hs b0 eN eM
    go_enter Tryz.func83, Tryz.ntmps83
    go_wp2_with fail
    refine (CT.out _).mono ?_
    rintro e w' ⟨rfl, hw'⟩
    rw [hw']; clear hw' w'
    go_wp2_with fail
    exact fin79 _ _ w.heap.size _ _ _ rfl ((Below.heap_alloc _ _ _ (by simp)).trans (World.alloc_heap_new w _)) ⟨by rw [HV.out], ((Below.refl _ w).alloc (Nat.le_refl _) _).alloc (by simp) _⟩

end Go.Proofs.YtpedljmpobhimaaGreatDoor
