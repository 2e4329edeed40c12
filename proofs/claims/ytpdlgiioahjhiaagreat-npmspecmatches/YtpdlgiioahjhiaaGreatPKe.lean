/- Sets of comparators, a comparator and a version that came in -/
import Derived.Test.YtpdlgiioahjhiaaGreatPPlainT
import Derived.Test.YtpdlgiioahjhiaaGreatPEzg
import Derived.Test.YtpdlgiioahjhiaaGreatPEzo
import Derived.Deep.RegionHeld3
import Derived.ProofKit
import Derived.OpenShut
import Derived.ShutString
import Derived.ChangeOld
import Derived.Below
import Derived.SizedLaws
import Derived.SliceStrings
import Derived.Deep.Slices
namespace Go.Proofs.YtpdlgiioahjhiaaGreat
open Go.RowKit Go.Shelf
open Calls renaming quiet_of_same → qcgr
set_option linter.unusedVariables false
set_option maxHeartbeats 4000000
set_option maxRecDepth 100000
theorem qbdd (b : Bool) (w : World) : Calls Tryz.prog 49 #[.bool b] w fun e w' => e = .returned (.int .i64 (if b then 1 else 0)) ∧ w' = w := by
 cases b
 ·go_enter Tryz.func49, Tryz.ntmps49
  (go_wp2_with fail);go_ret
  exact ⟨rfl, rfl⟩
 ·go_enter Tryz.func49, Tryz.ntmps49
  (go_wp2_with fail);go_ret
  exact ⟨rfl, rfl⟩
theorem Rone_any (a b : QB) (w : World) (ha : a.length ≤ 1048576) (hb : b.length ≤ 1048576) :
  Calls Tryz.prog 50 #[.string (qg a), .string (qg b)] w fun e w' => e = .returned (.int .i64 (oneO a b)) ∧ w' = w := by
 have DA := fun w => qmv (qg a) w (by rw [qx]; unfold maxLen; omega)
 have DB := fun w => qmv (qg b) w (by rw [qx]; unfold maxLen; omega)
 have CD := fun w => qtv (qg a) (qg b) w (by rw [qx]; omega) (by rw [qx]; omega)
 rw [qj] at DA DB;rw [qj, qj] at CD;have HT := qb (cmp3 (qg a).toList (qg b).toList);have hO : oneO a b = if digB a then (if digB b then cmpD a b else -1) else if digB b then 1 else Lib.compareBytes (qg a).toList (qg b).toList := by rw [toL, toL, qj, qj]; rfl
 generalize oneO a b = O at *;generalize digB a = x at *;generalize digB b = y at *;generalize cmpD a b = cd at *;generalize Lib.compareBytes (qg a).toList (qg b).toList = c2 at *;have HO := qb hO;have DA := qb DA;have DB := qb DB;have CD := qb CD;clear hO;generalize qg a = sa at *;generalize qg b = sb at *;cases x
 ·cases y
  ·rcases HT.out with ⟨rfl, hbl⟩ | ⟨rfl, hbl, heq⟩ | ⟨rfl, hbl, heq⟩
   ·go_enter Tryz.func50, Tryz.ntmps50
    (go_wp2_with fail);refine (DA.out _).mono ?_;rintro e w' ⟨rfl, hw'⟩;rw [hw']; clear hw' w';(go_wp2_with fail);refine (DA.out _).mono ?_;rintro e w' ⟨rfl, hw'⟩;rw [hw']; clear hw' w';(go_wp2_with fail);refine (DB.out _).mono ?_;rintro e w' ⟨rfl, hw'⟩;rw [hw']; clear hw' w';(go_wp2_with fail);go_ret
    exact ⟨qbn (by rw [HO.out]; rfl), rfl⟩
   ·go_enter Tryz.func50, Tryz.ntmps50
    (go_wp2_with fail);refine (DA.out _).mono ?_;rintro e w' ⟨rfl, hw'⟩;rw [hw']; clear hw' w';(go_wp2_with fail);refine (DA.out _).mono ?_;rintro e w' ⟨rfl, hw'⟩;rw [hw']; clear hw' w';(go_wp2_with fail);refine (DB.out _).mono ?_;rintro e w' ⟨rfl, hw'⟩;rw [hw']; clear hw' w';(go_wp2_with fail);go_ret
    exact ⟨qbn (by rw [HO.out]; rfl), rfl⟩
   ·go_enter Tryz.func50, Tryz.ntmps50
    (go_wp2_with fail);refine (DA.out _).mono ?_;rintro e w' ⟨rfl, hw'⟩;rw [hw']; clear hw' w';(go_wp2_with fail);refine (DA.out _).mono ?_;rintro e w' ⟨rfl, hw'⟩;rw [hw']; clear hw' w';(go_wp2_with fail);refine (DB.out _).mono ?_;rintro e w' ⟨rfl, hw'⟩;rw [hw']; clear hw' w';(go_wp2_with fail);go_ret
    exact ⟨qbn (by rw [HO.out]; rfl), rfl⟩
  ·skip
   go_enter Tryz.func50, Tryz.ntmps50
   (go_wp2_with fail);refine (DA.out _).mono ?_;rintro e w' ⟨rfl, hw'⟩;rw [hw']; clear hw' w';(go_wp2_with fail);refine (DA.out _).mono ?_;rintro e w' ⟨rfl, hw'⟩;rw [hw']; clear hw' w';(go_wp2_with fail);refine (DB.out _).mono ?_;rintro e w' ⟨rfl, hw'⟩;rw [hw']; clear hw' w';(go_wp2_with fail);go_ret
   exact ⟨qbn (by rw [HO.out]; rfl), rfl⟩
 ·cases y
  ·skip
   go_enter Tryz.func50, Tryz.ntmps50
   (go_wp2_with fail);refine (DA.out _).mono ?_;rintro e w' ⟨rfl, hw'⟩;rw [hw']; clear hw' w';(go_wp2_with fail);refine (DB.out _).mono ?_;rintro e w' ⟨rfl, hw'⟩;rw [hw']; clear hw' w';(go_wp2_with fail);refine (DA.out _).mono ?_;rintro e w' ⟨rfl, hw'⟩;rw [hw']; clear hw' w';(go_wp2_with fail);go_ret
   exact ⟨qbn (by rw [HO.out]; rfl), rfl⟩
  ·skip
   go_enter Tryz.func50, Tryz.ntmps50
   (go_wp2_with fail);refine (DA.out _).mono ?_;rintro e w' ⟨rfl, hw'⟩;rw [hw']; clear hw' w';(go_wp2_with fail);refine (DB.out _).mono ?_;rintro e w' ⟨rfl, hw'⟩;rw [hw']; clear hw' w';(go_wp2_with fail);refine (CD.out _).mono ?_;rintro e w' ⟨rfl, hw'⟩;rw [hw']; clear hw' w';(go_wp2_with fail);go_ret
   exact ⟨qbn (by rw [HO.out]; rfl), rfl⟩
structure SB (w : World) (x y : SemL) (a1 a2 a3 a4 : Option Addr) (c1 c2 c3 c4 : Nat) (W : World) : Prop where
 below : Below w.heap.size w W
 b0 : W.heap[w.heap.size]? = some (.cells #[.string (qg x.maj), .string (qg x.min), .string (qg x.pat), .slice a1 x.pre.length c1, .slice a3 x.bld.length c3] 33 (0, 0))
 b1 : W.heap[w.heap.size + 1]? = some (.cells #[.string (qg y.maj), .string (qg y.min), .string (qg y.pat), .slice a2 y.pre.length c2, .slice a4 y.bld.length c4] 33 (0, 0))
section
variable {w : World} {x y : SemL} {a1 a2 a3 a4 : Option Addr} {c1 c2 c3 c4 : Nat} {W W' : World}
theorem SB.next (h : SB w x y a1 a2 a3 a4 c1 c2 c3 c4 W) (hb : Below W.heap.size W W') : SB w x y a1 a2 a3 a4 c1 c2 c3 c4 W' :=
 ⟨h.below.trans (hb.mono h.below.size), (hb.block _ (Array.getElem?_eq_some_iff.1 h.b0).1).trans h.b0, (hb.block _ (Array.getElem?_eq_some_iff.1 h.b1).1).trans h.b1⟩
theorem SB.start (w : World) (x y : SemL) (a1 a2 a3 a4 : Option Addr) (c1 c2 c3 c4 : Nat) : SB w x y a1 a2 a3 a4 c1 c2 c3 c4 ((w.alloc (.cells #[.string (qg x.maj), .string (qg x.min), .string (qg x.pat), .slice a1 x.pre.length c1, .slice a3 x.bld.length c3] 33)).alloc (.cells #[.string (qg y.maj), .string (qg y.min), .string (qg y.pat), .slice a2 y.pre.length c2, .slice a4 y.bld.length c4] 33)) := by
 have k0 := World.alloc_heap_new w (.cells #[.string (qg x.maj), .string (qg x.min), .string (qg x.pat), .slice a1 x.pre.length c1, .slice a3 x.bld.length c3] 33);have k1 := World.alloc_heap_new (w.alloc (.cells #[.string (qg x.maj), .string (qg x.min), .string (qg x.pat), .slice a1 x.pre.length c1, .slice a3 x.bld.length c3] 33)) (.cells #[.string (qg y.maj), .string (qg y.min), .string (qg y.pat), .slice a2 y.pre.length c2, .slice a4 y.bld.length c4] 33);simp only [World.size_alloc] at k1;exact ⟨((Below.refl _ w).alloc (Nat.le_refl _) _).alloc (by simp) _, (Below.heap_alloc _ _ _ (by simp)).trans k0, k1⟩
end
theorem ord_o (x y : SemL) : ordO x y = if cmpD x.maj y.maj = 0 then (if cmpD x.min y.min = 0 then (if cmpD x.pat y.pat = 0 then preO x.pre y.pre else cmpD x.pat y.pat) else cmpD x.min y.min) else cmpD x.maj y.maj := by
 unfold ordO or4
 (repeat' split) <;> simp_all
theorem qzv (va vb : Value) (x y : SemL) (w : World) (ha : qfd w va x) (hb : qfd w vb y) (lx : lenS x ≤ 1048576) (ly : lenS y ≤ 1048576) :
  Calls Tryz.prog 26 #[va, vb] w fun e w' => e = .returned (.int .i64 (ordW x y)) ∧ Below w.heap.size w w' := by
 have F1 := qb (fun W (hW : Below w.heap.size w W) => qrg va x W (ha.below hW) lx);have F2 := qb (fun W (hW : Below w.heap.size w W) => qrg vb y W (hb.below hW) ly);have HO : Hid (ordW x y = if fitW x && fitW y then ordO x y else 0) := rfl;have HO2 := qb (ord_o x y);obtain ⟨p1, q1, rfl, t1, u1⟩ := ha;obtain ⟨p2, q2, rfl, t2, u2⟩ := hb;have T1 := qb (fun W (hW : Below w.heap.size w W) => t1.below hW);have T2 := qb (fun W (hW : Below w.heap.size w W) => t2.below hW);obtain ⟨a1, c1, rfl, y1⟩ := t1;obtain ⟨a2, c2, rfl, y2⟩ := t2;obtain ⟨a3, c3, rfl, y3⟩ := u1;obtain ⟨a4, c4, rfl, y4⟩ := u2;clear y1 y2 y3 y4;have lp := qnm x.pre;have lq := qnm y.pre;have hx1 : x.pre.length ≤ 1048576 := by unfold lenS at lx; omega
 have hy1 : y.pre.length ≤ 1048576 := by unfold lenS at ly; omega
 have HX : Hid (∀ t ∈ x.pre, t.length ≤ 1048576) := fun t ht => by have := lp.2 t ht; unfold lenS at lx; omega
 have HY : Hid (∀ t ∈ y.pre, t.length ≤ 1048576) := fun t ht => by have := lq.2 t ht; unfold lenS at ly; omega
 have C1 := fun w => qtv (qg x.maj) (qg y.maj) w (by rw [qx]; unfold lenS at lx; omega) (by rw [qx]; unfold lenS at ly; omega)
 have C2 := fun w => qtv (qg x.min) (qg y.min) w (by rw [qx]; unfold lenS at lx; omega) (by rw [qx]; unfold lenS at ly; omega)
 have C3 := fun w => qtv (qg x.pat) (qg y.pat) w (by rw [qx]; unfold lenS at lx; omega) (by rw [qx]; unfold lenS at ly; omega)
 rw [qj, qj] at C1 C2 C3;have C1 := qb C1;have C2 := qb C2;have C3 := qb C3;have TR := qb (fun b w => qbdd b w);clear lp lq lx ly;generalize ordW x y = R at *;generalize ordO x y = o at *;generalize fitW x = f1 at *;generalize fitW y = f2 at *;generalize cmpD x.maj y.maj = o1 at *;generalize cmpD x.min y.min = o2 at *;generalize cmpD x.pat y.pat = o3 at *;have S0 := SB.start w x y a1 a2 a3 a4 c1 c2 c3 c4;have HP : Hid (preO x.pre y.pre = if x.pre = [] ∨ y.pre = [] then (if y.pre.length < x.pre.length then -1 else if x.pre.length < y.pre.length then 1 else 0) else lexO x.pre y.pre) := rfl;generalize preO x.pre y.pre = o4 at *;cases f1
 ·go_enter Tryz.func26, Tryz.ntmps26
  (go_wp2_with fail);generalize ((w.alloc (.cells #[.string (qg x.maj), .string (qg x.min), .string (qg x.pat), .slice a1 x.pre.length c1, .slice a3 x.bld.length c3] 33)).alloc (.cells #[.string (qg y.maj), .string (qg y.min), .string (qg y.pat), .slice a2 y.pre.length c2, .slice a4 y.bld.length c4] 33)) = w0 at *;refine (F1.out _ S0.below).mono ?_;rintro e w1 ⟨rfl, b1⟩;have S1 := S0.next b1;clear S0 b1;(go_wp2_with fail);go_ret
  exact ⟨qbn (by rw [HO.out]; rfl), S1.below⟩
 ·go_enter Tryz.func26, Tryz.ntmps26
  (go_wp2_with fail);generalize ((w.alloc (.cells #[.string (qg x.maj), .string (qg x.min), .string (qg x.pat), .slice a1 x.pre.length c1, .slice a3 x.bld.length c3] 33)).alloc (.cells #[.string (qg y.maj), .string (qg y.min), .string (qg y.pat), .slice a2 y.pre.length c2, .slice a4 y.bld.length c4] 33)) = w0 at *;refine (F1.out _ S0.below).mono ?_;rintro e w1 ⟨rfl, b1⟩;have S1 := S0.next b1;clear S0 b1;obtain ⟨z0, z1, z2, z3, z4⟩ := qcd S1.b1;(go_wp2_with fail);refine (F2.out _ S1.below).mono ?_;rintro e w2 ⟨rfl, b2⟩;have S2 := S1.next b2;clear S1 b2 z0 z1 z2 z3 z4;obtain ⟨r0, r1, r2, r3, r4⟩ := qcd S2.b0;obtain ⟨z0, z1, z2, z3, z4⟩ := qcd S2.b1;cases f2
  ·(go_wp2_with fail);go_ret
   exact ⟨qbn (by rw [HO.out]; rfl), S2.below⟩
  ·have HO : Hid (R = if o1 = 0 then (if o2 = 0 then (if o3 = 0 then o4 else o3) else o2) else o1) := by show _ = _; rw [HO.out, ← HO2.out]; rfl
   clear HO2 F1 F2;(go_wp2_with fail);refine (C1.out _).mono ?_;rintro e w' ⟨rfl, hw'⟩;rw [hw']; clear hw' w'
   by_cases h1 : o1 = 0
   ·have hb1 : (o1 != 0) = false := by simpa using h1
    have HO : Hid (R = if o2 = 0 then (if o3 = 0 then o4 else o3) else o2) := by show _ = _; rw [HO.out, if_pos h1]
    clear h1;(go_wp2_with fail);refine (C2.out _).mono ?_;rintro e w' ⟨rfl, hw'⟩;rw [hw']; clear hw' w'
    by_cases h2 : o2 = 0
    ·have hb2 : (o2 != 0) = false := by simpa using h2
     have HO : Hid (R = if o3 = 0 then o4 else o3) := by show _ = _; rw [HO.out, if_pos h2]
     clear h2;(go_wp2_with fail);refine (C3.out _).mono ?_;rintro e w' ⟨rfl, hw'⟩;rw [hw']; clear hw' w'
     by_cases h3 : o3 = 0
     ·have hb3 : (o3 != 0) = false := by simpa using h3
      have HO : Hid (R = o4) := by show _ = _; rw [HO.out, if_pos h3]
      clear h3
      by_cases hp : x.pre.length = 0
      ·have hbp := qtt hp;have hxe : x.pre = [] := List.length_eq_zero_iff.1 hp
       by_cases hq : y.pre.length = 0
       ·have hbq := qtt hq;have HZ : Hid (R = 0) := by show _ = _; rw [HO.out, HP.out, if_pos (.inl hxe), if_neg (by omega), if_neg (by omega)]
        clear hp hq hxe HP HO;(go_wp2_with fail);go_quiet (first | (go_at_call 49; exact qcgr (TR.out _ _)) | fail)
        (go_wp2_with fail);go_ret
        exact ⟨qbn HZ.out.symm, (S2.next (qbm _ _ _)).below⟩
       ·have hbq := qvf hq;have HZ : Hid (R = 1) := by show _ = _; rw [HO.out, HP.out, if_pos (.inl hxe), if_neg (by omega), if_pos (by omega)]
        clear hp hq hxe HP HO;(go_wp2_with fail);go_quiet (first | (go_at_call 49; exact qcgr (TR.out _ _)) | fail)
        (go_wp2_with fail);go_ret
        exact ⟨qbn HZ.out.symm, (S2.next (qbm _ _ _)).below⟩
      ·have hbp := qvf hp
       by_cases hq : y.pre.length = 0
       ·have hbq := qtt hq;have hye : y.pre = [] := List.length_eq_zero_iff.1 hq;have HZ : Hid (R = -1) := by show _ = _; rw [HO.out, HP.out, if_pos (.inr hye), if_pos (by omega)]
        clear hp hq hye HP HO;(go_wp2_with fail);go_quiet (first | (go_at_call 49; exact qcgr (TR.out _ _)) | fail)
        (go_wp2_with fail);go_ret
        exact ⟨qbn HZ.out.symm, (S2.next (qbm _ _ _)).below⟩
       ·have hbq := qvf hq;have HZ : Hid (R = lexO (x.pre.drop 0) (y.pre.drop 0)) := by
         show _ = _;rw [HO.out, HP.out, if_neg (by rintro (h | h) <;> simp [h] at hp hq)]; rfl
        clear hp hq HP HO C1 C2 C3;(go_wp2_with fail);clear r0 r1 r2 r3 r4 z0 z1 z2 z3 z4;go_loopw [8] (fun v wr => ∃ k : Nat, k ≤ x.pre.length ∧ k ≤ y.pre.length ∧ v = .int .i64 k ∧ SB w x y a1 a2 a3 a4 c1 c2 c3 c4 wr ∧ Hid (R = lexO (x.pre.drop k) (y.pre.drop k))) (fun v _ => x.pre.length - (intOf v).toNat)
        case atStart => exact ⟨0, by omega, by omega, rfl, S2, HZ⟩
        case round =>
         clear S2 HZ;obtain ⟨k, hk1, hk2, rfl, S, HR⟩ := hrel;obtain ⟨r0, r1, r2, r3, r4⟩ := qcd S.b0;obtain ⟨z0, z1, z2, z3, z4⟩ := qcd S.b1
         by_cases h1 : k < x.pre.length
         ·have h1' : (k : Int) < (x.pre.length : Int) := by omega
          by_cases h2 : k < y.pre.length
          ·have h2' : (k : Int) < (y.pre.length : Int) := by omega
           obtain ⟨g1, o1, rfl, d1⟩ := (T1.out _ S.below).some (by omega)
           obtain ⟨g2, o2, rfl, d2⟩ := (T2.out _ S.below).some (by omega)
           have e1 := d1 k h1;have e2 := d2 k h2;have ON := qb (fun w => Rone_any x.pre[k] y.pre[k] w (HX.out _ (List.getElem_mem _)) (HY.out _ (List.getElem_mem _)));have HL := qb (qbjx x.pre y.pre k h1 h2);clear d1 d2;generalize x.pre[k] = s at *;generalize y.pre[k] = t at *;generalize oneO s t = c at *;clear h1 h2
           by_cases h0 : c = 0
           ·subst h0;have HZ : Hid (R = lexO (x.pre.drop (k + 1)) (y.pre.drop (k + 1))) := by show _ = _; rw [HR.out, HL.out, if_pos rfl]
            clear HR HL;(go_wp2_with fail);go_quiet (first | (go_at_call 50; exact qcgr (ON.out _)) | fail)
            (go_wp2_with fail);go_roundw
            case rel => exact ⟨k + 1, by omega, by omega, by go_num, S.next (qbm _ _ _), HZ⟩
            case measure => simp [intOf]; omega
           ·have hb0 : (c != 0) = true := by simpa using h0
            have HZ : Hid (R = c) := by show _ = _; rw [HR.out, HL.out, if_neg h0]
            clear HR HL h0;(go_wp2_with fail);go_quiet (first | (go_at_call 50; exact qcgr (ON.out _)) | fail)
            (go_wp2_with fail);go_ret
            exact ⟨qbn HZ.out.symm, (S.next (qbm _ _ _)).below⟩
          ·have h2' : ¬ (k : Int) < (y.pre.length : Int) := by omega
           have HZ : Hid (R = 1) := by show _ = _; rw [HR.out, qbhb _ _ k h1 (by omega)]
           have g1 : (y.pre.length : Int) < (x.pre.length : Int) := by omega
           have g2 : ¬ (x.pre.length : Int) < (y.pre.length : Int) := by omega
           have g3 : decide ((x.pre.length : Int) < (y.pre.length : Int)) = false := by simpa using g2
           have g4 : decide ((y.pre.length : Int) < (x.pre.length : Int)) = true := by simpa using g1
           clear h1 h2 HR;go_wp2_with fail
           all_goals (go_quiet (first | (go_at_call 49; exact qcgr (TR.out _ _)) | fail))
           all_goals (go_wp2_with fail)
           all_goals (go_ret)
           all_goals exact ⟨qbn HZ.out.symm, (S.next (qbm _ _ _)).below⟩
         ·have h1' : ¬ (k : Int) < (x.pre.length : Int) := by omega
          by_cases h2 : k < y.pre.length
          ·have HZ : Hid (R = -1) := by show _ = _; rw [HR.out, qbjp _ _ k (by omega) h2]
           have g1 : ¬ (y.pre.length : Int) < (x.pre.length : Int) := by omega
           have g2 : (x.pre.length : Int) < (y.pre.length : Int) := by omega
           have g3 : decide ((x.pre.length : Int) < (y.pre.length : Int)) = true := by simpa using g2
           have g4 : decide ((y.pre.length : Int) < (x.pre.length : Int)) = false := by simpa using g1
           clear h1 h2 HR;go_wp2_with fail
           all_goals (go_quiet (first | (go_at_call 49; exact qcgr (TR.out _ _)) | fail))
           all_goals (go_wp2_with fail)
           all_goals (go_ret)
           all_goals exact ⟨qbn HZ.out.symm, (S.next (qbm _ _ _)).below⟩
          ·have HZ : Hid (R = 0) := by show _ = _; rw [HR.out, qbss _ _ k (by omega) (by omega)]
           have g1 : ¬ (y.pre.length : Int) < (x.pre.length : Int) := by omega
           have g2 : ¬ (x.pre.length : Int) < (y.pre.length : Int) := by omega
           have g3 : decide ((x.pre.length : Int) < (y.pre.length : Int)) = false := by simpa using g2
           have g4 : decide ((y.pre.length : Int) < (x.pre.length : Int)) = false := by simpa using g1
           clear h1 h2 HR;go_wp2_with fail
           all_goals (go_quiet (first | (go_at_call 49; exact qcgr (TR.out _ _)) | fail))
           all_goals (go_wp2_with fail)
           all_goals (go_ret)
           all_goals exact ⟨qbn HZ.out.symm, (S.next (qbm _ _ _)).below⟩
     ·have hb3 : (o3 != 0) = true := by simpa using h3
      have HO : Hid (R = o3) := by show _ = _; rw [HO.out, if_neg h3]
      clear h3;(go_wp2_with fail);go_ret
      exact ⟨qbn HO.out.symm, S2.below⟩
    ·have hb2 : (o2 != 0) = true := by simpa using h2
     have HO : Hid (R = o2) := by show _ = _; rw [HO.out, if_neg h2]
     clear h2;(go_wp2_with fail);go_ret
     exact ⟨qbn HO.out.symm, S2.below⟩
   ·have hb1 : (o1 != 0) = true := by simpa using h1
    have HO : Hid (R = o1) := by show _ = _; rw [HO.out, if_neg h1]
    clear h1;(go_wp2_with fail);go_ret
    exact ⟨qbn HO.out.symm, S2.below⟩
end Go.Proofs.YtpdlgiioahjhiaaGreat

namespace Go.Proofs.YtpdlgiioahjhiaaGreat
open Go.RowKit Go.Shelf
set_option linter.unusedVariables false
set_option maxHeartbeats 4000000
set_option maxRecDepth 100000
theorem qbwp (op : Int) (x y : SemL) (vp vb : Value) (u : Value) (w : World) (t1 : Txt w vp x.pre) (t2 : Txt w vb x.bld) (hu : qfd w u y) (sx : lenS x ≤ 1048576) (sy : lenS y ≤ 1048576) :
  Calls Tryz.prog 16 #[.agg #[.int .i64 op, .string (qg x.maj), .string (qg x.min), .string (qg x.pat), vp, vb], u] w fun e w' => e = .returned (.bool (qgv (op, x) y)) ∧ Below w.heap.size w w' := by
 obtain ⟨a1, k1, rfl, _⟩ := id t1;obtain ⟨a2, k2, rfl, _⟩ := id t2;obtain ⟨vq, vc, rfl, t3, t4⟩ := hu;obtain ⟨a3, k3, rfl, _⟩ := id t3;obtain ⟨a4, k4, rfl, _⟩ := id t4;have FX := qb (fun W (hW : Below w.heap.size w W) => qrg (.agg #[.string (qg x.maj), .string (qg x.min), .string (qg x.pat), .slice a1 x.pre.length k1, .slice a2 x.bld.length k2]) x W ⟨_, _, rfl, t1.below hW, t2.below hW⟩ sx);have FY := qb (fun W (hW : Below w.heap.size w W) => qrg (.agg #[.string (qg y.maj), .string (qg y.min), .string (qg y.pat), .slice a3 y.pre.length k3, .slice a4 y.bld.length k4]) y W ⟨_, _, rfl, t3.below hW, t4.below hW⟩ sy);have OO := qb (fun W (hW : Below w.heap.size w W) => qzv (.agg #[.string (qg y.maj), .string (qg y.min), .string (qg y.pat), .slice a3 y.pre.length k3, .slice a4 y.bld.length k4]) (.agg #[.string (qg x.maj), .string (qg x.min), .string (qg x.pat), .slice a1 x.pre.length k1, .slice a2 x.bld.length k2]) y x W ⟨_, _, rfl, t3.below hW, t4.below hW⟩ ⟨_, _, rfl, t1.below hW, t2.below hW⟩ sy sx);have hH : qgv (op, x) y = (fitW x && fitW y && cmpO op (ordW y x)) := rfl;generalize qgv (op, x) y = R at *;generalize fitW x = fx at *;generalize fitW y = fy at *;generalize ordW y x = n at *;generalize hc : cmpO op n = cc at *;have HC := qb hc;clear hc
 have B0 : HB w ((w.alloc (.cells #[.int .i64 op, .string (qg x.maj), .string (qg x.min), .string (qg x.pat), .slice a1 x.pre.length k1, .slice a2 x.bld.length k2] 35)).alloc (.cells #[.string (qg y.maj), .string (qg y.min), .string (qg y.pat), .slice a3 y.pre.length k3, .slice a4 y.bld.length k4] 33)) op x y a1 a2 a3 a4 k1 k2 k3 k4 := ⟨qgm w _ _, qkb w _ _⟩;have b0 := qdr w (.cells #[.int .i64 op, .string (qg x.maj), .string (qg x.min), .string (qg x.pat), .slice a1 x.pre.length k1, .slice a2 x.bld.length k2] 35) (.cells #[.string (qg y.maj), .string (qg y.min), .string (qg y.pat), .slice a3 y.pre.length k3, .slice a4 y.bld.length k4] 33);clear t1 t2 t3 t4 sx sy;subst hH;go_enter Tryz.func16, Tryz.ntmps16
 (go_wp2_with fail);generalize (w.alloc _).alloc _ = W0 at *;refine (FX.out _ b0).mono ?_;rintro e w1 ⟨rfl, h1⟩;have B1 := B0.below h1;have hb1 := b0.trans (h1.mono b0.size);clear B0 b0 h1;cases fx
 ·(go_wp2_with fail);go_ret
  exact ⟨rfl, hb1⟩
 obtain ⟨g0, g1, g2, g3, g4, g5, g6, g7, g8, g9, g10⟩ := B1.seen
 try dsimp only
 (go_wp2_with fail);refine (FY.out _ hb1).mono ?_;rintro e w2 ⟨rfl, h2⟩;have B2 := B1.below h2;have hb2 := hb1.trans (h2.mono hb1.size);clear B1 hb1 h2 g0 g1 g2 g3 g4 g5 g6 g7 g8 g9 g10;cases fy
 ·(go_wp2_with fail);go_ret
  exact ⟨rfl, hb2⟩
 obtain ⟨g0, g1, g2, g3, g4, g5, g6, g7, g8, g9, g10⟩ := B2.seen
 try dsimp only
 (go_wp2_with fail);refine (OO.out _ hb2).mono ?_;rintro e w3 ⟨rfl, h3⟩;have B3 := B2.below h3;have hb3 := hb2.trans (h3.mono hb2.size);clear B2 hb2 h3 g0 g1 g2 g3 g4 g5 g6 g7 g8 g9 g10;obtain ⟨g0, g1, g2, g3, g4, g5, g6, g7, g8, g9, g10⟩ := B3.seen;clear B3
 try dsimp only
 by_cases o1 : op = 1
 ·have HO : cmpO op n = decide (n < 0) := if_pos o1;have HP := HC.out.symm.trans HO;clear HC HO;subst HP;subst o1;(go_wp2_with fail);go_ret
  refine ⟨?_, hb3⟩;generalize decide (n < 0) = q;simp only [Bool.true_and];exact rfl
 have p1 : (op == 1) = false := by simpa using o1
 by_cases o2 : op = 2
 ·have HO : cmpO op n = decide (n ≤ 0) := (if_neg o1).trans (if_pos o2);have HP := HC.out.symm.trans HO;clear HC HO;subst HP;subst o2;(go_wp2_with fail);go_ret
  refine ⟨?_, hb3⟩;generalize decide (n ≤ 0) = q;simp only [Bool.true_and];exact rfl
 have p2 : (op == 2) = false := by simpa using o2
 by_cases o3 : op = 3
 ·have HO : cmpO op n = decide (0 < n) := (if_neg o1).trans ((if_neg o2).trans (if_pos o3));have HP := HC.out.symm.trans HO;clear HC HO;subst HP;subst o3;(go_wp2_with fail);go_ret
  refine ⟨?_, hb3⟩;generalize decide (0 < n) = q;simp only [Bool.true_and];exact rfl
 have p3 : (op == 3) = false := by simpa using o3
 by_cases o4 : op = 4
 ·have HO : cmpO op n = decide (0 ≤ n) := (if_neg o1).trans ((if_neg o2).trans ((if_neg o3).trans (if_pos o4)));have HP := HC.out.symm.trans HO;clear HC HO;subst HP;subst o4;(go_wp2_with fail);go_ret
  refine ⟨?_, hb3⟩;generalize decide (0 ≤ n) = q;simp only [Bool.true_and];exact rfl
 have p4 : (op == 4) = false := by simpa using o4
 by_cases o5 : op = 5
 ·have HO : cmpO op n = (n == 0) := (if_neg o1).trans ((if_neg o2).trans ((if_neg o3).trans ((if_neg o4).trans (if_pos o5))));have HP := HC.out.symm.trans HO;clear HC HO;subst HP;subst o5;(go_wp2_with fail);go_ret
  refine ⟨?_, hb3⟩;generalize (n == 0) = q;simp only [Bool.true_and];exact rfl
 have p5 : (op == 5) = false := by simpa using o5
 have HO : cmpO op n = false := (if_neg o1).trans ((if_neg o2).trans ((if_neg o3).trans ((if_neg o4).trans (if_neg o5))));have HP := HC.out.symm.trans HO;clear HC HO;subst HP;clear o1 o2 o3 o4 o5;(go_wp2_with fail);go_ret
 exact ⟨rfl, hb3⟩
end Go.Proofs.YtpdlgiioahjhiaaGreat

namespace Go.Proofs.YtpdlgiioahjhiaaGreat
open Go.RowKit Go.Shelf
set_option linter.unusedVariables false
set_option maxHeartbeats 8000000
set_option maxRecDepth 100000
theorem qbwt {x y : SemL} {q1 q2 q3 : Bool} (h1 : ((qg x.maj).toList == (qg y.maj).toList) = q1) (h2 : ((qg x.min).toList == (qg y.min).toList) = q2) (h3 : ((qg x.pat).toList == (qg y.pat).toList) = q3) : qnl x y = (q1 && q2 && q3) := by
 rw [qkc, qkc] at h1 h2 h3;unfold qnl;rw [h1, h2, h3]
theorem RSet_any (cs : List Comp) (y : SemL) (v u : Value) (w : World) (hv : qnf w v cs) (hu : qfd w u y) (hs : ∀ c ∈ cs, lenS c.2 ≤ 1048576) (sy : lenS y ≤ 1048576) (hcn : cs.length ≤ 2000000) :
  Calls Tryz.prog 18 #[v, u] w fun e w' => e = .returned (.bool (setL cs y)) ∧ Below w.heap.size w w' := by
 obtain ⟨a, k, rfl, hc0⟩ := id hv;obtain ⟨vq, vc, rfl, t3, t4⟩ := hu;obtain ⟨a3, k3, rfl, _⟩ := id t3;obtain ⟨a4, k4, rfl, _⟩ := id t4;obtain ⟨n, hn⟩ : ∃ n, cs.length = n := ⟨_, rfl⟩;obtain ⟨n3, hn3⟩ : ∃ n3, y.pre.length = n3 := ⟨_, rfl⟩;obtain ⟨n4, hn4⟩ : ∃ n4, y.bld.length = n4 := ⟨_, rfl⟩;rw [hn3] at t3 ⊢;rw [hn4] at t4 ⊢;rw [hn] at hv hcn ⊢;have HN := qb hn;have HN3 := qb hn3;have HV := qb hv;have HSC := qb hs;have Q0 := qb (Vb.start t3 t4);have hX := set_eq cs y;rw [qsk hn3] at hX;have FY := qb (fun W (q : Vb w y a3 a4 n3 n4 k3 k4 W) => qrg _ y W q.sem sy);clear hn hn3 hn4 t3 t4 hv hc0 hs;generalize setL cs y = X at *;generalize hfy : fitW y = fy at *;clear hfy;have HX := qb hX;clear hX;obtain ⟨s0, s1, s2, s3, s4⟩ := Q0.out.seen;go_enter Tryz.func18, Tryz.ntmps18
 (go_wp2_with fail);generalize w.alloc (.cells #[.string (qg y.maj), .string (qg y.min), .string (qg y.pat), .slice a3 n3 k3, .slice a4 n4 k4] 33) = W0 at *;refine (FY.out _ Q0.out).mono ?_;rintro e W1 ⟨rfl, b1⟩;have Q1 := qb (Q0.out.next b1);clear b1 Q0 s0 s1 s2 s3 s4 FY;obtain ⟨s0, s1, s2, s3, s4⟩ := Q1.out.seen;cases fy with
 | false =>
  (go_wp2_with fail);go_ret
  exact ⟨by rw [HX.out]; rfl, Q1.out.bel⟩
 | true =>
  obtain ⟨E, hE⟩ : ∃ E, decide (n3 = 0) = E := ⟨_, rfl⟩;have hEb : ((n3 : Int) == 0) = E := by rw [← hE, Bool.eq_iff_iff]; simp
  rw [hE] at HX;clear hE;(go_wp2_with fail);go_loopw [5, 6] (fun z j wr => ∃ (i : Nat) (R : Bool), i ≤ n ∧ z = .bool R ∧ j = .int .i64 i ∧ Hid (Vb w y a3 a4 n3 n4 k3 k4 wr) ∧ Hid (R = (E || (cs.take i).any (qgp y))) ∧ Hid ((cs.take i).all (fun c => qgv c y) = true)) (fun _ j _ => n - (intOf j).toNat)
  case atStart => exact ⟨0, E, by omega, by first | rfl | (rw [hEb]), rfl, Q1, by show E = (E || false); simp, rfl⟩
  case round =>
   clear Q1 s0 s1 s2 s3 s4;obtain ⟨i, R, hin, rfl, rfl, Q, HR, HA⟩ := hrel;obtain ⟨s0, s1, s2, s3, s4⟩ := Q.out.seen
   by_cases hlt : i < n
   ·have hlt' : (i : Int) < (n : Int) := by omega
    have i1 : i < cs.length := by rw [HN.out]; exact hlt
    obtain ⟨a', k', hv', h0 | ⟨b, o, rfl, hbl, hrow⟩⟩ := HV.out.below Q.out.bel
    ·exfalso;rw [h0] at i1;simp at i1
    ·cases hv';have HROW := qb (hrow i i1);obtain ⟨vp, vb, d0, d1, d2, d3, d4, d5, t1, t2, _⟩ := hrow i i1;have sc := HSC.out cs[i] (List.getElem_mem i1);have h1 := qrv cs i i1 HA.out;have h2 := qbbt (f := qgp y) cs i i1;have h3 : cs.all (fun c => qgv c y) = true → (fun c => qgv c y) cs[i] = true := fun h => List.all_eq_true.1 h _ (List.getElem_mem i1);obtain ⟨a1, k1, rfl, _⟩ := id t1;obtain ⟨a2, k2, rfl, _⟩ := id t2;obtain ⟨m1, hm1⟩ : ∃ m1, cs[i].2.pre.length = m1 := ⟨_, rfl⟩;obtain ⟨m2, hm2⟩ : ∃ m2, cs[i].2.bld.length = m2 := ⟨_, rfl⟩;have hrd : qgp y cs[i] = (!decide (m1 = 0) && qnl cs[i].2 y) := by unfold qgp; rw [qsk hm1]
     rw [hm1] at t1 d4;rw [hm2] at t2 d5;rw [hrd] at h2;have H1 := qb h1;have H2 := qb h2;have H3 := qb h3;have hblt := hbl;clear hrd h1 h2 h3 hrow hm1 hm2 HROW;generalize cs[i] = c at *;clear i1;obtain ⟨op, x⟩ := c;dsimp only at *;have bb := (Below.refl _ wr).alloc (Nat.le_refl _) (.cells #[.string (qg x.maj), .string (qg x.min), .string (qg x.pat), .slice a1 m1 k1, .slice a2 m2 k2] 33);have V0 := qb (Q.out.next bb);have X0 := World.alloc_heap_new wr (.cells #[.string (qg x.maj), .string (qg x.min), .string (qg x.pat), .slice a1 m1 k1, .slice a2 m2 k2] 33);have e0 := (bb.cell hbl).trans d0;have e1 := (bb.cell hbl).trans d1;have e2 := (bb.cell hbl).trans d2;have e3 := (bb.cell hbl).trans d3;have e4 := (bb.cell hbl).trans d4;have e5 := (bb.cell hbl).trans d5;have T1 := qb ((t1.below bb).below (qbh _ _));have T2 := qb ((t2.below bb).below (qbh _ _));have VD := qb (V0.out.next (qbh _ _));have HO := qb (qbwp op x y _ _ _ _ T1.out T2.out VD.out.sem sc sy);have NX := qb X0;have HBL := qb (Nat.lt_of_lt_of_le hbl bb.size);have s0' := s0;clear t1 t2 bb Q;obtain ⟨r0, r1, r2, r3, r4⟩ := V0.out.seen;generalize hH : qgv (op, x) y = Hv at *;generalize hq1 : ((qg x.maj).toList == (qg y.maj).toList) = q1 at *;generalize hq2 : ((qg x.min).toList == (qg y.min).toList) = q2 at *;generalize hq3 : ((qg x.pat).toList == (qg y.pat).toList) = q3 at *;have hsm := qbwt hq1 hq2 hq3;rw [hsm] at H2;clear hH hsm X0;(go_wp2_with fail)
     generalize wr.alloc (.cells #[.string (qg x.maj), .string (qg x.min), .string (qg x.pat), .slice a1 m1 k1, .slice a2 m2 k2] 33) = W2 at *;have HK : Hid (wr.heap.size < W2.heap.size) := (Array.getElem?_eq_some_iff.1 NX.out).1;generalize wr.heap.size = K at *;clear s0 s1 s2 s3 s4 s0' d0 d1 d2 d3 d4 d5;go_region_held3 (fun W' => W'.cell? ⟨b, o + i * 6, none⟩ = some (.int .i64 op) ∧ W'.cell? ⟨b, o + i * 6 + 1, none⟩ = some (.string (qg x.maj)) ∧ W'.cell? ⟨b, o + i * 6 + 2, none⟩ = some (.string (qg x.min)) ∧ W'.cell? ⟨b, o + i * 6 + 3, none⟩ = some (.string (qg x.pat)) ∧ W'.cell? ⟨b, o + i * 6 + 4, none⟩ = some (.slice a1 m1 k1) ∧ W'.cell? ⟨b, o + i * 6 + 5, none⟩ = some (.slice a2 m2 k2) ∧ W'.cell? ⟨w.heap.size, 0, none⟩ = some (.string (qg y.maj)) ∧ W'.cell? ⟨w.heap.size, 1, none⟩ = some (.string (qg y.min)) ∧ W'.cell? ⟨w.heap.size, 2, none⟩ = some (.string (qg y.pat)) ∧ W'.cell? ⟨w.heap.size, 3, none⟩ = some (.slice a3 n3 k3) ∧ W'.cell? ⟨w.heap.size, 4, none⟩ = some (.slice a4 n4 k4)) (go_keep) ((first
      | (go_at_call 16; refine HO.out.mono ?_; rintro e9 W3 ⟨rfl, b3⟩; have V3 := qb (VD.out.next b3); have X3 := qb ((b3.block _ HK.out).trans NX.out); have z0 := (b3.cell HBL.out).trans e0; have z1 := (b3.cell HBL.out).trans e1; have z2 := (b3.cell HBL.out).trans e2; have z3 := (b3.cell HBL.out).trans e3; have z4 := (b3.cell HBL.out).trans e4; have z5 := (b3.cell HBL.out).trans e5; obtain ⟨y0, y1, y2, y3, y4⟩ := V3.out.seen; clear b3)
      | fail))
     clear e0 e1 e2 e3 e4 e5 r0 r1 r2 r3 r4 z0 z1 z2 z3 z4 z5 T1 T2 VD V0 HO HBL;have g0 : W3.cell? ⟨K, 0, none⟩ = some (.string (qg x.maj)) := qd 0 X3.out rfl;have g1 : W3.cell? ⟨K, 1, none⟩ = some (.string (qg x.min)) := qd 1 X3.out rfl;have g2 : W3.cell? ⟨K, 2, none⟩ = some (.string (qg x.pat)) := qd 2 X3.out rfl;have g3 : W3.cell? ⟨K, 3, none⟩ = some (.slice a1 m1 k1) := qd 3 X3.out rfl;cases Hv with
     | false =>
      have hX : X = false := by
       rw [HX.out];cases ha : cs.all (fun c => qgv c y) with
       | false => rfl
       | true => exact absurd (H3.out ha) (by simp)
      have HX2 := qb hX;clear hX;(go_wp2_with fail);go_ret
      exact ⟨by rw [HX2.out]; rfl, V3.out.bel⟩
     | true =>
      have HR2 : Hid ((R || (!decide (m1 = 0) && (q1 && q2 && q3))) = (E || (cs.take (i + 1)).any (qgp y))) := by
       show _ = _;rw [H2.out, ← Bool.or_assoc, ← HR.out]
      clear H2 HR
      by_cases hm : m1 = 0
      ·have hm' : ¬ (0 : Int) < (m1 : Int) := by omega
       have hmn : ¬ 0 < m1 := by omega
       have HR3 : Hid (R = (E || (cs.take (i + 1)).any (qgp y))) := by
        have := HR2.out;rw [decide_eq_true hm, Bool.not_true, Bool.false_and, Bool.or_false] at this;exact this
       clear hm HR2;(go_wp2_with fail);go_roundw
       case rel => exact ⟨i + 1, R, by omega, rfl, by go_num, V3, HR3, H1⟩
       case measure => simp [intOf]; omega
      ·have hm' : (0 : Int) < (m1 : Int) := by omega
       have hmn : 0 < m1 := by omega
       have HR3 : Hid ((R || (q1 && q2 && q3)) = (E || (cs.take (i + 1)).any (qgp y))) := by
        have := HR2.out;rw [decide_eq_false hm, Bool.not_false, Bool.true_and] at this;exact this
       clear hm HR2;cases q1
       ·have HR4 : Hid (R = (E || (cs.take (i + 1)).any (qgp y))) := by
         have := HR3.out;rw [Bool.false_and, Bool.false_and, Bool.or_false] at this;exact this
        clear HR3;(go_wp2_with fail);go_roundw
        case rel => exact ⟨i + 1, R, by omega, rfl, by go_num, V3, HR4, H1⟩
        case measure => simp [intOf]; omega
       cases q2
       ·have HR4 : Hid (R = (E || (cs.take (i + 1)).any (qgp y))) := by
         have := HR3.out;rw [Bool.true_and, Bool.false_and, Bool.or_false] at this;exact this
        clear HR3;(go_wp2_with fail);go_roundw
        case rel => exact ⟨i + 1, R, by omega, rfl, by go_num, V3, HR4, H1⟩
        case measure => simp [intOf]; omega
       cases q3
       ·have HR4 : Hid (R = (E || (cs.take (i + 1)).any (qgp y))) := by
         have := HR3.out;rw [Bool.true_and, Bool.and_false, Bool.or_false] at this;exact this
        clear HR3;(go_wp2_with fail);go_roundw
        case rel => exact ⟨i + 1, R, by omega, rfl, by go_num, V3, HR4, H1⟩
        case measure => simp [intOf]; omega
       ·have HR4 : Hid (true = (E || (cs.take (i + 1)).any (qgp y))) := by
         have := HR3.out;rw [Bool.true_and, Bool.true_and, Bool.or_true] at this;exact this
        clear HR3;(go_wp2_with fail);go_roundw
        case rel => exact ⟨i + 1, true, by omega, rfl, by go_num, V3, HR4, H1⟩
        case measure => simp [intOf]; omega
   ·have hlt' : ¬ (i : Int) < (n : Int) := by omega
    have hX : X = R := by
     have h1 := HA.out;have h2 := HR.out;rw [List.take_of_length_le (by rw [HN.out]; omega)] at h1 h2
     rw [HX.out, h1, h2]
     rfl
    have HX2 := qb hX;clear hX;(go_wp2_with fail);go_ret
    exact ⟨by rw [HX2.out]; rfl, Q.out.bel⟩
end Go.Proofs.YtpdlgiioahjhiaaGreat

namespace Go.Proofs.YtpdlgiioahjhiaaGreat
open Go.ChangeShapes Go.WideShapes Go.ChangeAt Go.RowKit
set_option linter.unusedVariables false
instance : Inhabited Comp := ⟨(0, semN)⟩
end Go.Proofs.YtpdlgiioahjhiaaGreat
