/-
  Walks: a byte's kind; the first segment of a text.
-/
import Derived.Test.YtmcabgjcppnihaaDb
import Derived.RangeFuncNested
import Derived.RangeFuncBound
import Derived.RangeFuncCalls
import Derived.RangeFuncLeaves
import Derived.Shelf.Abstract
import Derived.Shelf.RegionOpen
import Derived.OwnWalkIn
import Derived.TacticsInMore
import Derived.LoopNIn
import Derived.LoopIn
import Derived.Sort.QuietIn
namespace Go.Proofs.Ytmcabgjcppnihaa
open Go.RowKit Go.Shelf
set_option linter.unusedVariables false

attribute [local go_sem] Oper.semAt_some

theorem u8_eq (c d : UInt8) (h : c = d) : ((c.toNat : Int) == (d.toNat : Int)) = true := by rw [h]; simp
theorem u8_ne (c d : UInt8) (h : ¬ c = d) : ((c.toNat : Int) == (d.toNat : Int)) = false := by
  have : c.toNat ≠ d.toNat := fun e => h (UInt8.toNat_inj.1 e)
  simp; omega

set_option maxHeartbeats 400000 in
theorem kindOf_any (c : UInt8) (w : World) :
    Calls Try.prog 48 #[.int .u8 (c.toNat : Int)] w fun e w' => e = .returned (.int .i64 (kindB c)) ∧ w' = w := by
  have hK : kindB c = if c = 126 then 0 else if c = 94 then 2 else if isC (c.toNat : Int) 4 then 3 else if isC (c.toNat : Int) 1 then 4 else 1 := rfl
  generalize kindB c = K at *
  by_cases h1 : c = 126
  · rw [if_pos h1] at hK
    have hb : ((c.toNat : Int) == 126) = true := u8_eq c 126 h1
    subst hK
    clear h1
    go_enter Try.func48, Try.ntmps48
    go_wp2_with fail
    go_ret
    exact ⟨rfl, rfl⟩
  rw [if_neg h1] at hK
  have hb : ((c.toNat : Int) == 126) = false := u8_ne c 126 h1
  by_cases h2 : c = 94
  · rw [if_pos h2] at hK
    have hb2 : ((c.toNat : Int) == 94) = true := u8_eq c 94 h2
    subst hK
    clear h1 h2
    go_enter Try.func48, Try.ntmps48
    go_wp2_with fail
    go_ret
    exact ⟨rfl, rfl⟩
  rw [if_neg h2] at hK
  have hb2 : ((c.toNat : Int) == 94) = false := u8_ne c 94 h2
  clear h1 h2
  cases h4 : isC (c.toNat : Int) 4
  · rw [h4, if_neg (by simp)] at hK
    cases h5 : isC (c.toNat : Int) 1
    · rw [h5, if_neg (by simp)] at hK
      subst hK
      go_enter Try.func48, Try.ntmps48
      go_wp2_with fail
      refine (Is_any _ _ _).mono ?_
      rintro e w' ⟨rfl, rfl⟩
      go_wp2_with fail
      refine (Is_any _ _ _).mono ?_
      rintro e w' ⟨rfl, rfl⟩
      go_wp2_with fail
      go_ret
      exact ⟨rfl, rfl⟩
    · rw [h5, if_pos rfl] at hK
      subst hK
      go_enter Try.func48, Try.ntmps48
      go_wp2_with fail
      refine (Is_any _ _ _).mono ?_
      rintro e w' ⟨rfl, rfl⟩
      go_wp2_with fail
      refine (Is_any _ _ _).mono ?_
      rintro e w' ⟨rfl, rfl⟩
      go_wp2_with fail
      go_ret
      exact ⟨rfl, rfl⟩
  · rw [h4, if_pos rfl] at hK
    subst hK
    go_enter Try.func48, Try.ntmps48
    go_wp2_with fail
    refine (Is_any _ _ _).mono ?_
    rintro e w' ⟨rfl, rfl⟩
    go_wp2_with fail
    go_ret
    exact ⟨rfl, rfl⟩

theorem skN_hit (s : ByteArray) (i : Nat) (h : i < s.size) (hc : (kindB s[i] == 1) = true) : skN (s.data.toList.drop i) = skN (s.data.toList.drop (i + 1)) + 1 := by
  rw [drop_at s i h]; unfold skN; rw [List.takeWhile_cons, if_pos hc, List.length_cons]
theorem skN_miss (s : ByteArray) (i : Nat) (h : i < s.size) (hc : (kindB s[i] == 1) = false) : skN (s.data.toList.drop i) = 0 := by
  rw [drop_at s i h]; unfold skN; rw [List.takeWhile_cons, if_neg (by simp [hc])]; rfl
theorem skN_end (s : ByteArray) (i : Nat) (h : s.size ≤ i) : skN (s.data.toList.drop i) = 0 := by
  rw [drop_end s i h]; rfl
theorem knN_hit (k : Int) (s : ByteArray) (i : Nat) (h : i < s.size) (hc : (kindB s[i] == k) = true) : knN k (s.data.toList.drop i) = knN k (s.data.toList.drop (i + 1)) + 1 := by
  rw [drop_at s i h]; unfold knN; rw [List.takeWhile_cons, if_pos hc, List.length_cons]
theorem knN_miss (k : Int) (s : ByteArray) (i : Nat) (h : i < s.size) (hc : (kindB s[i] == k) = false) : knN k (s.data.toList.drop i) = 0 := by
  rw [drop_at s i h]; unfold knN; rw [List.takeWhile_cons, if_neg (by simp [hc])]; rfl
theorem knN_end (k : Int) (s : ByteArray) (i : Nat) (h : s.size ≤ i) : knN k (s.data.toList.drop i) = 0 := by
  rw [drop_end s i h]; rfl
theorem kn_in (s : ByteArray) (h : skN s.data.toList < s.size) : knL s.data.toList = kindB s[skN s.data.toList] := by
  unfold knL skL; rw [drop_at s _ h]
theorem tk_in (s : ByteArray) (h : skN s.data.toList < s.size) : tkN s.data.toList = 1 + if joinB (kindB s[skN s.data.toList]) then knN (kindB s[skN s.data.toList]) (s.data.toList.drop (skN s.data.toList + 1)) else 0 := by
  unfold tkN skL; rw [drop_at s _ h]
theorem txL_seg (l : List UInt8) : txL l = seg l (skN l) (skN l + tkN l) := by unfold txL skL; rw [seg_run]

/-- A segment as a value. -/
def segV (l : List UInt8) : Value := .agg #[.int .i64 (knL l), .string (ofL (txL l))]
theorem segV_out (s : ByteArray) (h : skN s.data.toList = s.size) : segV s.data.toList = .agg #[.int .i64 1, .string ⟨#[]⟩] ∧ ofL (restL s.data.toList) = ⟨#[]⟩ := by
  have hs : skL s.data.toList = [] := by unfold skL; rw [h]; exact drop_end s _ (Nat.le_refl _)
  have h1 : knL s.data.toList = 1 := by unfold knL; rw [hs]
  constructor
  · unfold segV txL; rw [h1, hs]; simp [ofL]
  · unfold restL; rw [hs]; simp [ofL]

theorem fin28 {R : Ending → World → Prop} (tmps : Array Value) (W : World) (B : Nat) (k : Int) (b c : ByteArray)
    (h2 : tmps.getD 2 undef = .pointer (some ⟨B, 0, none⟩)) (h3 : tmps.getD 3 undef = .string c)
    (e1 : W.heap[B]? = some (.cells #[.int .i64 k, .string b] 49 (0, 0)))
    (hR : R (.returned (.tuple #[.agg #[.int .i64 k, .string b], .string c])) W) :
    bodyPost Try.prog Try.f28 R .ret { tmps := tmps, defers := [] } W := by
  have r0 := cell_at 0 e1 rfl
  have r1 := cell_at 1 e1 rfl
  rw [Array.getD_eq_getD_getElem?] at h2 h3
  refine ⟨rfl, _, ?_, hR⟩
  simp [results, Try.results28, go_sem, h2, h3, r0, r1]
  try rfl

set_option maxRecDepth 100000 in
set_option maxHeartbeats 1000000 in
theorem cutSegment_any (s : ByteArray) (w : World) (hs : s.size ≤ maxLen) :
    Calls Try.prog 28 #[.string s] w fun e w' => e = .returned (.tuple #[segV s.data.toList, .string (ofL (restL s.data.toList))]) ∧ Below w.heap.size w w' := by
  unfold maxLen at hs
  have hsk := skN_le s.data.toList
  rw [len_data] at hsk
  have HO := hide (segV_out s)
  have htk := tkN_le s.data.toList
  rw [skL_len, len_data] at htk
  have HI : Hid (∀ h : skN s.data.toList < s.size, segV s.data.toList = .agg #[.int .i64 (kindB s[skN s.data.toList]), .string (s.extract (skN s.data.toList) (skN s.data.toList + tkN s.data.toList))] ∧ ofL (restL s.data.toList) = s.extract (skN s.data.toList + tkN s.data.toList) s.size) := fun h => by
    constructor
    · unfold segV; rw [kn_in s h, extract_seg, ← txL_seg]
    · rw [extract_end, restL_eq]
  have HT := hide (tk_in s)
  generalize segV s.data.toList = V at *
  generalize ofL (restL s.data.toList) = RS at *
  generalize tkN s.data.toList = T at *
  generalize hM : skN s.data.toList = M at *
  have HM := hide hM
  clear hM
  go_enter Try.func28, Try.ntmps28
  go_wp2_with fail
  go_loop [4] (fun i => ∃ j : Nat, j ≤ s.size ∧ i = .int .i64 j ∧ Hid (M = j + skN (s.data.toList.drop j))) (fun i => s.size - (intOf i).toNat)
  case atStart => exact ⟨0, by omega, rfl, by show _ = _; rw [← HM.out]; simp⟩
  case round =>
    obtain ⟨j, hj, rfl, HJ⟩ := hrel
    by_cases hlt : j < s.size
    · have hlt' : (j : Int) < (s.size : Int) := by omega
      have KO := hide (fun w => kindOf_any s[j] w)
      cases hc : (kindB s[j] == 1)
      · obtain rfl : M = j := by have a := HJ.out; have b := skN_miss s j hlt hc; omega
        clear HJ HO
        obtain ⟨hV, hR⟩ := HI.out hlt
        have hT := HT.out hlt
        clear HI HT
        have hjb : joinB (kindB s[M]) = (kindB s[M] == 3 || kindB s[M] == 4) := rfl
        have HH := hide (knN_hit (kindB s[M]) s)
        have HMI := hide (knN_miss (kindB s[M]) s)
        have HEN := hide (knN_end (kindB s[M]) s)
        generalize kindB s[M] = k at *
        by_cases hk3 : k = 3
        · subst hk3
          rw [hjb, if_pos (by rfl)] at hT
          have HV := hide hV
          have HR := hide hR
          have HT := hide hT
          clear hV hR hT hjb hc
          go_wp2_with fail
          refine (KO.out _).mono ?_
          rintro e w' ⟨rfl, hw'⟩
          rw [hw']
          clear hw' w'
          go_wp2_with fail
          refine (KO.out _).mono ?_
          rintro e w' ⟨rfl, hw'⟩
          rw [hw']
          clear hw' w'
          go_wp2_with fail
          have hms : ((M : Int) == (s.size : Int)) = false := by simp; omega
          go_loop [6] (fun i => ∃ q : Nat, M + 1 ≤ q ∧ q ≤ s.size ∧ i = .int .i64 q ∧ Hid (M + T = q + knN 3 (s.data.toList.drop q))) (fun i => s.size - (intOf i).toNat)
          case atStart => exact ⟨M + 1, Nat.le_refl _, by omega, by go_num, by show _ = _; rw [HT.out]; omega⟩
          case round =>
            obtain ⟨q, hq1, hq, rfl, HQ⟩ := hrel
            by_cases hql : q < s.size
            · have hql' : (q : Int) < (s.size : Int) := by omega
              have KQ := hide (fun w => kindOf_any s[q] w)
              cases hd : (kindB s[q] == 3)
              · obtain rfl : M + T = q := by have a := HQ.out; have b := HMI.out q hql hd; omega
                clear HQ HH HMI HEN
                generalize kindB s[M + T] = d at *
                generalize hE : M + T = E at *
                clear hE
                have g1 : (M : Int) ≤ (E : Int) := by omega
                have g2 : (E : Int) ≤ (s.size : Int) := by omega
                have g0 : (0 : Int) ≤ (M : Int) := by omega
                go_wp2_with fail
                refine (KQ.out _).mono ?_
                rintro e w' ⟨rfl, hw'⟩
                rw [hw']
                clear hw' w'
                go_wp2_with fail
                go_region
                go_wp2_with fail
                refine fin28 _ _ w.heap.size 3 (s.extract M E) (s.extract E s.size) rfl rfl ?_ ?_
                · exact World.alloc_heap_new w _
                · exact ⟨by rw [HV.out, HR.out], ((Below.refl _ w).alloc (Nat.le_refl _) _).drew⟩
              · have H1 := hide (HH.out q hql hd)
                generalize kindB s[q] = d at *
                go_wp2_with fail
                refine (KQ.out _).mono ?_
                rintro e w' ⟨rfl, hw'⟩
                rw [hw']
                clear hw' w'
                go_wp2_with fail
                go_round
                case rel => exact ⟨q + 1, by omega, by omega, by go_num, by have a := HQ.out; have b := H1.out; show _ = _; omega⟩
                case measure => simp [intOf]; omega
            · obtain rfl : M + T = q := by have a := HQ.out; have b := HEN.out q (by omega); omega
              clear HQ HH HMI HEN
              have hql' : ¬ ((M + T : Nat) : Int) < (s.size : Int) := by omega
              generalize hE : M + T = E at *
              clear hE
              have g1 : (M : Int) ≤ (E : Int) := by omega
              have g2 : (E : Int) ≤ (s.size : Int) := by omega
              have g0 : (0 : Int) ≤ (M : Int) := by omega
              go_wp2_with fail
              go_region
              go_wp2_with fail
              refine fin28 _ _ w.heap.size 3 (s.extract M E) (s.extract E s.size) rfl rfl ?_ ?_
              · exact World.alloc_heap_new w _
              · exact ⟨by rw [HV.out, HR.out], ((Below.refl _ w).alloc (Nat.le_refl _) _).drew⟩
        by_cases hk4 : k = 4
        · subst hk4
          rw [hjb, if_pos (by rfl)] at hT
          have HV := hide hV
          have HR := hide hR
          have HT := hide hT
          clear hV hR hT hjb hc
          go_wp2_with fail
          refine (KO.out _).mono ?_
          rintro e w' ⟨rfl, hw'⟩
          rw [hw']
          clear hw' w'
          go_wp2_with fail
          refine (KO.out _).mono ?_
          rintro e w' ⟨rfl, hw'⟩
          rw [hw']
          clear hw' w'
          go_wp2_with fail
          have hms : ((M : Int) == (s.size : Int)) = false := by simp; omega
          go_loop [6] (fun i => ∃ q : Nat, M + 1 ≤ q ∧ q ≤ s.size ∧ i = .int .i64 q ∧ Hid (M + T = q + knN 4 (s.data.toList.drop q))) (fun i => s.size - (intOf i).toNat)
          case atStart => exact ⟨M + 1, Nat.le_refl _, by omega, by go_num, by show _ = _; rw [HT.out]; omega⟩
          case round =>
            obtain ⟨q, hq1, hq, rfl, HQ⟩ := hrel
            by_cases hql : q < s.size
            · have hql' : (q : Int) < (s.size : Int) := by omega
              have KQ := hide (fun w => kindOf_any s[q] w)
              cases hd : (kindB s[q] == 4)
              · obtain rfl : M + T = q := by have a := HQ.out; have b := HMI.out q hql hd; omega
                clear HQ HH HMI HEN
                generalize kindB s[M + T] = d at *
                generalize hE : M + T = E at *
                clear hE
                have g1 : (M : Int) ≤ (E : Int) := by omega
                have g2 : (E : Int) ≤ (s.size : Int) := by omega
                have g0 : (0 : Int) ≤ (M : Int) := by omega
                go_wp2_with fail
                refine (KQ.out _).mono ?_
                rintro e w' ⟨rfl, hw'⟩
                rw [hw']
                clear hw' w'
                go_wp2_with fail
                go_region
                go_wp2_with fail
                refine fin28 _ _ w.heap.size 4 (s.extract M E) (s.extract E s.size) rfl rfl ?_ ?_
                · exact World.alloc_heap_new w _
                · exact ⟨by rw [HV.out, HR.out], ((Below.refl _ w).alloc (Nat.le_refl _) _).drew⟩
              · have H1 := hide (HH.out q hql hd)
                generalize kindB s[q] = d at *
                go_wp2_with fail
                refine (KQ.out _).mono ?_
                rintro e w' ⟨rfl, hw'⟩
                rw [hw']
                clear hw' w'
                go_wp2_with fail
                go_round
                case rel => exact ⟨q + 1, by omega, by omega, by go_num, by have a := HQ.out; have b := H1.out; show _ = _; omega⟩
                case measure => simp [intOf]; omega
            · obtain rfl : M + T = q := by have a := HQ.out; have b := HEN.out q (by omega); omega
              clear HQ HH HMI HEN
              have hql' : ¬ ((M + T : Nat) : Int) < (s.size : Int) := by omega
              generalize hE : M + T = E at *
              clear hE
              have g1 : (M : Int) ≤ (E : Int) := by omega
              have g2 : (E : Int) ≤ (s.size : Int) := by omega
              have g0 : (0 : Int) ≤ (M : Int) := by omega
              go_wp2_with fail
              go_region
              go_wp2_with fail
              refine fin28 _ _ w.heap.size 4 (s.extract M E) (s.extract E s.size) rfl rfl ?_ ?_
              · exact World.alloc_heap_new w _
              · exact ⟨by rw [HV.out, HR.out], ((Below.refl _ w).alloc (Nat.le_refl _) _).drew⟩
        have hb3 : (k == 3) = false := by simpa using hk3
        have hb4 : (k == 4) = false := by simpa using hk4
        rw [hjb, hb3, hb4, if_neg (by simp)] at hT
        subst hT
        have HV := hide hV
        have HR := hide hR
        clear hV hR hjb hk3 hk4 HH HMI HEN
        go_wp2_with fail
        refine (KO.out _).mono ?_
        rintro e w' ⟨rfl, hw'⟩
        rw [hw']
        clear hw' w'
        go_wp2_with fail
        refine (KO.out _).mono ?_
        rintro e w' ⟨rfl, hw'⟩
        rw [hw']
        clear hw' w'
        go_wp2_with fail
        have hms : ((M : Int) == (s.size : Int)) = false := by simp; omega
        go_loop [6] (fun i => i = .int .i64 ((M : Int) + 1)) (fun i => 0)
        case atStart => first | rfl | go_num
        case round =>
          obtain rfl := hrel
          have e1 : ((M : Int) + 1) = ((M + (1 + 0) : Nat) : Int) := by omega
          rw [e1]
          clear e1
          have hE1 : M + (1 + 0) ≤ s.size := by omega
          have hE2 : M ≤ M + (1 + 0) := by omega
          generalize M + (1 + 0) = E at *
          have g1 : (M : Int) ≤ (E : Int) := by omega
          have g2 : (E : Int) ≤ (s.size : Int) := by omega
          have g0 : (0 : Int) ≤ (M : Int) := by omega
          go_wp2_with fail
          go_region
          go_wp2_with fail
          refine fin28 _ _ w.heap.size k (s.extract M E) (s.extract E s.size) rfl rfl ?_ ?_
          · exact World.alloc_heap_new w _
          · exact ⟨by rw [HV.out, HR.out], ((Below.refl _ w).alloc (Nat.le_refl _) _).drew⟩
      · have H1 : Hid _ := skN_hit s j hlt hc
        generalize kindB s[j] = k at *
        go_wp2_with fail
        refine (KO.out _).mono ?_
        rintro e w' ⟨rfl, hw'⟩
        rw [hw']
        clear hw' w'
        go_wp2_with fail
        go_round
        case rel => exact ⟨j + 1, by omega, by go_num, by have a := HJ.out; have b := H1.out; show _ = _; omega⟩
        case measure => simp [intOf]; omega
    · obtain rfl : M = j := by have a := HJ.out; have b := skN_end s j (by omega); omega
      clear HJ HI HT
      have hms : M = s.size := by omega
      obtain ⟨hV, hR⟩ := HO.out hms
      have HV := hide hV
      have HR := hide hR
      clear hV hR HO
      have hlt' : ¬ (M : Int) < (s.size : Int) := by omega
      have hmb : ((M : Int) == (s.size : Int)) = true := by simp; omega
      clear hms
      go_wp2_with fail
      refine fin28 _ _ w.heap.size 1 ⟨#[]⟩ ⟨#[]⟩ rfl rfl ?_ ?_
      · exact World.alloc_heap_new w _
      · exact ⟨by rw [HV.out, HR.out], (Below.refl _ w).alloc (Nat.le_refl _) _⟩
theorem cutSegment_row (l : List UInt8) (w : World) (hs : l.length ≤ maxLen) :
    Calls Try.prog 28 #[.string (ofL l)] w fun e w' => e = .returned (.tuple #[segV l, .string (ofL (restL l))]) ∧ Below w.heap.size w w' := by
  have := cutSegment_any (ofL l) w (by rw [ofL_size]; exact hs)
  rwa [ofL_data] at this

end Go.Proofs.Ytmcabgjcppnihaa
