/-
  Walks: the document's order of two tokens.
-/
import Derived.Test.YtpedljmpobhimaaGreatDoorDl
import Derived.Test.YtpedljmpobhimaaGreatDoorEf
import Derived.Deep.RegionHeld3
namespace Go.Proofs.YtpedljmpobhimaaGreatDoor
open Go.RowKit Go.Shelf
set_option linter.unusedVariables false

set_option maxHeartbeats 400000 in
theorem Rtruth_any (b : Bool) (w : World) : Calls Tryz.prog 41 #[.bool b] w fun e w' => e = .returned (.int .i64 (if b then 1 else 0)) ∧ w' = w := by
  cases b
  · go_enter Tryz.func41, Tryz.ntmps41
    go_wp2_with fail
    go_ret
    exact ⟨rfl, rfl⟩
  · go_enter Tryz.func41, Tryz.ntmps41
    go_wp2_with fail
    go_ret
    exact ⟨rfl, rfl⟩

/-- The sign of a number. -/
def sgI (n : Int) : Int := if 0 < n then 1 else if n < 0 then -1 else 0
theorem cmpI_sg (x y : Int) : cmpI x y = sgI (x - y) := by
  unfold cmpI sgI
  (repeat' split) <;> omega

set_option maxRecDepth 100000 in
set_option maxHeartbeats 400000 in
theorem Rsign_any (n : Int) (w : World) : Calls Tryz.prog 86 #[.int .i64 n] w fun e w' => e = .returned (.int .i64 (sgI n)) ∧ w' = w := by
  have T1 := hide (fun w => Rtruth_any true w)
  have T0 := hide (fun w => Rtruth_any false w)
  by_cases h1 : 0 < n
  · skip
    have h2 : ¬ n < 0 := by omega
    have hd : decide (n < 0) = false := by simpa using h2
    go_enter Tryz.func86, Tryz.ntmps86
    go_wp2_with fail
    refine (T1.out _).mono ?_
    rintro e w' ⟨rfl, hw'⟩
    rw [hw']; clear hw' w'
    go_wp2_with fail
    refine (T0.out _).mono ?_
    rintro e w' ⟨rfl, hw'⟩
    rw [hw']; clear hw' w'
    go_wp2_with fail
    go_ret
    exact ⟨ret_i (by unfold sgI; first | rfl | ((repeat' split) <;> omega)), rfl⟩
  · by_cases h2 : n < 0
    · skip
      skip
      go_enter Tryz.func86, Tryz.ntmps86
      go_wp2_with fail
      refine (T0.out _).mono ?_
      rintro e w' ⟨rfl, hw'⟩
      rw [hw']; clear hw' w'
      go_wp2_with fail
      refine (T1.out _).mono ?_
      rintro e w' ⟨rfl, hw'⟩
      rw [hw']; clear hw' w'
      go_wp2_with fail
      go_ret
      exact ⟨ret_i (by unfold sgI; first | rfl | ((repeat' split) <;> omega)), rfl⟩
    · skip
      have hd : decide (n < 0) = false := by simpa using h2
      go_enter Tryz.func86, Tryz.ntmps86
      go_wp2_with fail
      refine (T0.out _).mono ?_
      rintro e w' ⟨rfl, hw'⟩
      rw [hw']; clear hw' w'
      go_wp2_with fail
      refine (T0.out _).mono ?_
      rintro e w' ⟨rfl, hw'⟩
      rw [hw']; clear hw' w'
      go_wp2_with fail
      go_ret
      exact ⟨ret_i (by unfold sgI; first | rfl | ((repeat' split) <;> omega)), rfl⟩

set_option maxRecDepth 100000 in
set_option maxHeartbeats 400000 in
theorem Rclass_any (t : Tok) (f : Bool) (w : World) (h : f = true → t.dash = false) : Calls Tryz.prog 85 #[tokV t, .bool f] w fun e w' => e = .returned (.int .i64 (kindT t)) ∧ Below w.heap.size w w' := by
  obtain ⟨d, n, x⟩ := t
  unfold tokV
  dsimp only at h ⊢
  have bw : Below w.heap.size w (w.alloc (.cells #[.bool d, .bool n, .string (ofL x)] 91)) := (Below.refl _ w).alloc (Nat.le_refl _) _
  cases n
  · have HV : Hid (kindT ⟨d, false, x⟩ = 0) := rfl
    generalize kindT ⟨d, false, x⟩ = R at *
    clear h
    go_enter Tryz.func85, Tryz.ntmps85
    go_wp2_with fail
    go_ret
    exact ⟨ret_i HV.out.symm, bw⟩
  · cases d
    · have HV : Hid (kindT ⟨false, true, x⟩ = 2) := rfl
      generalize kindT ⟨false, true, x⟩ = R at *
      clear h
      go_enter Tryz.func85, Tryz.ntmps85
      go_wp2_with fail
      go_ret
      exact ⟨ret_i HV.out.symm, bw⟩
    · obtain rfl : f = false := by cases f; rfl; exact absurd (h rfl) (by simp)
      have HV : Hid (kindT ⟨true, true, x⟩ = 1) := rfl
      generalize kindT ⟨true, true, x⟩ = R at *
      clear h
      go_enter Tryz.func85, Tryz.ntmps85
      go_wp2_with fail
      go_ret
      exact ⟨ret_i HV.out.symm, bw⟩

theorem kind_is (t : Tok) : 0 ≤ kindT t ∧ kindT t ≤ 2 ∧ (0 < kindT t ↔ t.num = true) := by
  unfold kindT
  cases t.num <;> cases t.dash <;> simp
theorem rank_is (q : List UInt8) : 1 ≤ rankL q ∧ rankL q ≤ 8 := by
  unfold rankL
  (repeat' split) <;> omega
theorem rank_same {p q : List UInt8} (h : rankL p = rankL q) (h8 : rankL p < 8) : p = q := by
  unfold rankL at h h8
  (repeat' split at h) <;> first | omega | simp_all
set_option maxRecDepth 100000 in
set_option maxHeartbeats 4000000 in
theorem Rone_any (x y : Tok) (f : Bool) (w : World) (hf : f = true → x.dash = false ∧ y.dash = false) (hx : x.text.length ≤ 1048576) (hy : y.text.length ≤ 1048576) :
    Calls Tryz.prog 67 #[tokV x, tokV y, .bool f] w fun e w' => e = .returned (.int .i64 (ordT x y)) ∧ Below w.heap.size w w' := by
  have KX := fun w => Rclass_any x f w (fun h => (hf h).1)
  have KY := fun w => Rclass_any y f w (fun h => (hf h).2)
  have CD := fun w => RCmp_any (ofL x.text) (ofL y.text) w (by rw [ofL_size]; omega) (by rw [ofL_size]; omega)
  have RX := fun w => RRank_any (ofL x.text) w
  have RY := fun w => RRank_any (ofL y.text) w
  rw [ofL_data, ofL_data] at CD
  rw [ofL_data] at RX RY
  unfold tokV at KX KY ⊢
  have KX := hide KX
  have KY := hide KY
  have RX := hide RX
  have RY := hide RY
  have CD := hide CD
  have SG := hide (fun n w => Rsign_any n w)
  have TR := hide (fun b w => Rtruth_any b w)
  have S0 := OB.start w x y
  have HO := hide (ordT_or x y)
  have HO2 : Hid (cmpI (kindT x) (kindT y) ≠ 0 → ordT x y = cmpI (kindT x) (kindT y)) := fun h => by unfold ordT; rw [if_pos h]
  obtain ⟨x1, x2, x3⟩ := kind_is x
  obtain ⟨y1, y2, y3⟩ := kind_is y
  obtain ⟨p1, p2⟩ := rank_is x.text
  obtain ⟨q1, q2⟩ := rank_is y.text
  have HRS : Hid (rankL x.text = rankL y.text → rankL x.text < 8 → Lib.compareBytes x.text y.text = 0) := fun h1 h2 => by
    rw [rank_same h1 h2]; exact bytes_cmp3.self _
  have HBT : Hid ((Lib.compareBytes x.text y.text = -1 ∧ Op.bytesLess (ofL x.text).toList (ofL y.text).toList = true) ∨ (Lib.compareBytes x.text y.text = 0 ∧ Op.bytesLess (ofL x.text).toList (ofL y.text).toList = false ∧ ((ofL x.text).toList == (ofL y.text).toList) = true) ∨ (Lib.compareBytes x.text y.text = 1 ∧ Op.bytesLess (ofL x.text).toList (ofL y.text).toList = false ∧ ((ofL x.text).toList == (ofL y.text).toList) = false)) := by
    rw [toL, toL, ofL_data, ofL_data]
    exact cmp3 x.text y.text
  have wR : IntKind.i64.wrap (rankL x.text - rankL y.text) = rankL x.text - rankL y.text := by rw [IntKind.wrap_i64]; omega
  have wK : IntKind.i64.wrap (kindT x - kindT y) = kindT x - kindT y := by rw [IntKind.wrap_i64]; omega
  have HX3 := hide x3
  have HY3 := hide y3
  clear x3 y3 hf hx hy
  generalize ordT x y = O at *
  generalize cmpD x.text y.text = d at *
  generalize Lib.compareBytes x.text y.text = c2 at *
  generalize rankL x.text = rx at *
  generalize rankL y.text = ry at *
  generalize kindT x = kx at *
  generalize kindT y = ky at *
  by_cases hk : kx = ky
  · subst hk
    have hkb : (kx != kx) = false := by simp
    have HO := hide (HO.out (by unfold cmpI; simp))
    clear HO2
    by_cases hp : 0 < kx
    · have hxn : x.num = true := HX3.out.1 hp
      have HO : Hid (O = d) := by show _ = _; rw [HO.out, hxn]; rfl
      clear HX3 HY3 hxn
      go_enter Tryz.func67, Tryz.ntmps67
      go_wp2_with fail
      generalize (w.alloc (.cells #[.bool x.dash, .bool x.num, .string (ofL x.text)] 91)).alloc (.cells #[.bool y.dash, .bool y.num, .string (ofL y.text)] 91) = W0 at *
      obtain ⟨a0, a1, a2, a3, a4, a5⟩ := S0.seen
      refine (KX.out _).mono ?_
      rintro e w1 ⟨rfl, b1⟩
      have Q1 := S0.next b1
      obtain ⟨g0, g1, g2, g3, g4, g5⟩ := Q1.seen
      go_wp2_with fail
      refine (KY.out _).mono ?_
      rintro e w2 ⟨rfl, b2⟩
      have Q2 := Q1.next b2
      obtain ⟨h0, h1, h2, h3, h4, h5⟩ := Q2.seen
      clear a0 a1 a2 a3 a4 a5 g0 g1 g2 g3 g4 g5
      go_wp2_with fail
      refine (CD.out _).mono ?_
      rintro e w3 ⟨rfl, hw3⟩
      rw [hw3]; clear hw3 w3
      go_wp2_with fail
      go_ret
      exact ⟨ret_i HO.out.symm, Q2.bel⟩
    · have hxn : x.num = false := by cases h : x.num; rfl; exact absurd (HX3.out.2 h) hp
      have HO : Hid (O = orI [cmpI rx ry, c2]) := by show _ = _; rw [HO.out, hxn]; rfl
      rw [cmpI_sg] at HO
      have HRX : Hid (rx - ry = 0 → rx < 8 → c2 = 0) := fun h1 h2 => HRS.out (by omega) h2
      have hs3 : sgI (rx - ry) = -1 ∨ sgI (rx - ry) = 0 ∨ sgI (rx - ry) = 1 := by unfold sgI; (repeat' split) <;> omega
      have HS0 : Hid (sgI (rx - ry) = 0 → rx - ry = 0) := by
        show _ → _
        unfold sgI; (repeat' split) <;> omega
      clear HX3 HY3 HRS hxn
      by_cases hn : sgI (rx - ry) = 0
      · by_cases h8 : rx < 8
        · have HO9 : Hid (O = sgI (rx - ry)) := by show _ = _; rw [HO.out, hn, HRX.out (HS0.out hn) h8]; rfl
          clear HO
          generalize hsg : sgI (rx - ry) = sg at *
          subst hn
          go_enter Tryz.func67, Tryz.ntmps67
          go_wp2_with fail
          generalize (w.alloc (.cells #[.bool x.dash, .bool x.num, .string (ofL x.text)] 91)).alloc (.cells #[.bool y.dash, .bool y.num, .string (ofL y.text)] 91) = W0 at *
          obtain ⟨a0, a1, a2, a3, a4, a5⟩ := S0.seen
          refine (KX.out _).mono ?_
          rintro e w1 ⟨rfl, b1⟩
          have Q1 := S0.next b1
          obtain ⟨g0, g1, g2, g3, g4, g5⟩ := Q1.seen
          go_wp2_with fail
          refine (KY.out _).mono ?_
          rintro e w2 ⟨rfl, b2⟩
          have Q2 := Q1.next b2
          obtain ⟨h0, h1, h2, h3, h4, h5⟩ := Q2.seen
          clear a0 a1 a2 a3 a4 a5 g0 g1 g2 g3 g4 g5
          have D2 := Q2.drew
          go_wp2_with fail
          go_region_held3 (fun w' => w'.cell? ⟨w.heap.size, 0, none⟩ = some (.bool x.dash) ∧ w'.cell? ⟨w.heap.size, 1, none⟩ = some (.bool x.num) ∧ w'.cell? ⟨w.heap.size, 2, none⟩ = some (.string (ofL x.text)) ∧ w'.cell? ⟨w.heap.size + 1, 0, none⟩ = some (.bool y.dash) ∧ w'.cell? ⟨w.heap.size + 1, 1, none⟩ = some (.bool y.num) ∧ w'.cell? ⟨w.heap.size + 1, 2, none⟩ = some (.string (ofL y.text)))
            (go_keep)
            ((first
              | (go_at_call 86; refine (SG.out _ _).mono ?_; rintro e w5 ⟨rfl, hw5⟩; rw [hw5]; clear hw5 w5)
              | (have hq := Q3; go_at_call 88; refine (RY.out _).mono ?_; rintro e w4 ⟨rfl, b4⟩; have Q4 := Q3.next b4; obtain ⟨j0, j1, j2, j3, j4, j5⟩ := Q4.seen)
              | (go_at_call 88; refine (RX.out _).mono ?_; rintro e w3 ⟨rfl, b3⟩; have Q3 := D2.next b3; obtain ⟨i0, i1, i2, i3, i4, i5⟩ := Q3.seen)
              | fail))
          try rw [hsg]
          go_wp2_with fail
          refine (RX.out _).mono ?_
          rintro e w6 ⟨rfl, b6⟩
          have Q6 := Q4.next b6
          go_wp2_with fail
          go_ret
          exact ⟨ret_i HO9.out.symm, Q6.bel⟩
        · have HO9 : Hid (O = c2) := by
            show _ = _
            rw [HO.out, hn]
            simp only [orI]
            split <;> simp_all
          clear HO
          generalize hsg : sgI (rx - ry) = sg at *
          subst hn
          rcases HBT.out with ⟨rfl, hbl⟩ | ⟨rfl, hbl, heq⟩ | ⟨rfl, hbl, heq⟩
          · skip
            go_enter Tryz.func67, Tryz.ntmps67
            go_wp2_with fail
            generalize (w.alloc (.cells #[.bool x.dash, .bool x.num, .string (ofL x.text)] 91)).alloc (.cells #[.bool y.dash, .bool y.num, .string (ofL y.text)] 91) = W0 at *
            obtain ⟨a0, a1, a2, a3, a4, a5⟩ := S0.seen
            refine (KX.out _).mono ?_
            rintro e w1 ⟨rfl, b1⟩
            have Q1 := S0.next b1
            obtain ⟨g0, g1, g2, g3, g4, g5⟩ := Q1.seen
            go_wp2_with fail
            refine (KY.out _).mono ?_
            rintro e w2 ⟨rfl, b2⟩
            have Q2 := Q1.next b2
            obtain ⟨h0, h1, h2, h3, h4, h5⟩ := Q2.seen
            clear a0 a1 a2 a3 a4 a5 g0 g1 g2 g3 g4 g5
            have D2 := Q2.drew
            go_wp2_with fail
            go_region_held3 (fun w' => w'.cell? ⟨w.heap.size, 0, none⟩ = some (.bool x.dash) ∧ w'.cell? ⟨w.heap.size, 1, none⟩ = some (.bool x.num) ∧ w'.cell? ⟨w.heap.size, 2, none⟩ = some (.string (ofL x.text)) ∧ w'.cell? ⟨w.heap.size + 1, 0, none⟩ = some (.bool y.dash) ∧ w'.cell? ⟨w.heap.size + 1, 1, none⟩ = some (.bool y.num) ∧ w'.cell? ⟨w.heap.size + 1, 2, none⟩ = some (.string (ofL y.text)))
              (go_keep)
              ((first
                | (go_at_call 86; refine (SG.out _ _).mono ?_; rintro e w5 ⟨rfl, hw5⟩; rw [hw5]; clear hw5 w5)
                | (have hq := Q3; go_at_call 88; refine (RY.out _).mono ?_; rintro e w4 ⟨rfl, b4⟩; have Q4 := Q3.next b4; obtain ⟨j0, j1, j2, j3, j4, j5⟩ := Q4.seen)
                | (go_at_call 88; refine (RX.out _).mono ?_; rintro e w3 ⟨rfl, b3⟩; have Q3 := D2.next b3; obtain ⟨i0, i1, i2, i3, i4, i5⟩ := Q3.seen)
                | fail))
            try rw [hsg]
            go_wp2_with fail
            refine (RX.out _).mono ?_
            rintro e w6 ⟨rfl, b6⟩
            have Q6 := Q4.next b6
            obtain ⟨k0, k1, k2, k3, k4, k5⟩ := Q6.seen
            go_wp2_with fail
            go_quiet (first | (go_at_call 41; exact Calls.quiet_of_same (TR.out _ _)) | fail)
            go_wp2_with fail
            go_ret
            exact ⟨ret_i HO9.out.symm, Q6.bel.trans (below_drewN _ _ _)⟩
          · skip
            go_enter Tryz.func67, Tryz.ntmps67
            go_wp2_with fail
            generalize (w.alloc (.cells #[.bool x.dash, .bool x.num, .string (ofL x.text)] 91)).alloc (.cells #[.bool y.dash, .bool y.num, .string (ofL y.text)] 91) = W0 at *
            obtain ⟨a0, a1, a2, a3, a4, a5⟩ := S0.seen
            refine (KX.out _).mono ?_
            rintro e w1 ⟨rfl, b1⟩
            have Q1 := S0.next b1
            obtain ⟨g0, g1, g2, g3, g4, g5⟩ := Q1.seen
            go_wp2_with fail
            refine (KY.out _).mono ?_
            rintro e w2 ⟨rfl, b2⟩
            have Q2 := Q1.next b2
            obtain ⟨h0, h1, h2, h3, h4, h5⟩ := Q2.seen
            clear a0 a1 a2 a3 a4 a5 g0 g1 g2 g3 g4 g5
            have D2 := Q2.drew
            go_wp2_with fail
            go_region_held3 (fun w' => w'.cell? ⟨w.heap.size, 0, none⟩ = some (.bool x.dash) ∧ w'.cell? ⟨w.heap.size, 1, none⟩ = some (.bool x.num) ∧ w'.cell? ⟨w.heap.size, 2, none⟩ = some (.string (ofL x.text)) ∧ w'.cell? ⟨w.heap.size + 1, 0, none⟩ = some (.bool y.dash) ∧ w'.cell? ⟨w.heap.size + 1, 1, none⟩ = some (.bool y.num) ∧ w'.cell? ⟨w.heap.size + 1, 2, none⟩ = some (.string (ofL y.text)))
              (go_keep)
              ((first
                | (go_at_call 86; refine (SG.out _ _).mono ?_; rintro e w5 ⟨rfl, hw5⟩; rw [hw5]; clear hw5 w5)
                | (have hq := Q3; go_at_call 88; refine (RY.out _).mono ?_; rintro e w4 ⟨rfl, b4⟩; have Q4 := Q3.next b4; obtain ⟨j0, j1, j2, j3, j4, j5⟩ := Q4.seen)
                | (go_at_call 88; refine (RX.out _).mono ?_; rintro e w3 ⟨rfl, b3⟩; have Q3 := D2.next b3; obtain ⟨i0, i1, i2, i3, i4, i5⟩ := Q3.seen)
                | fail))
            try rw [hsg]
            go_wp2_with fail
            refine (RX.out _).mono ?_
            rintro e w6 ⟨rfl, b6⟩
            have Q6 := Q4.next b6
            obtain ⟨k0, k1, k2, k3, k4, k5⟩ := Q6.seen
            go_wp2_with fail
            go_quiet (first | (go_at_call 41; exact Calls.quiet_of_same (TR.out _ _)) | fail)
            go_wp2_with fail
            go_ret
            exact ⟨ret_i HO9.out.symm, Q6.bel.trans (below_drewN _ _ _)⟩
          · skip
            go_enter Tryz.func67, Tryz.ntmps67
            go_wp2_with fail
            generalize (w.alloc (.cells #[.bool x.dash, .bool x.num, .string (ofL x.text)] 91)).alloc (.cells #[.bool y.dash, .bool y.num, .string (ofL y.text)] 91) = W0 at *
            obtain ⟨a0, a1, a2, a3, a4, a5⟩ := S0.seen
            refine (KX.out _).mono ?_
            rintro e w1 ⟨rfl, b1⟩
            have Q1 := S0.next b1
            obtain ⟨g0, g1, g2, g3, g4, g5⟩ := Q1.seen
            go_wp2_with fail
            refine (KY.out _).mono ?_
            rintro e w2 ⟨rfl, b2⟩
            have Q2 := Q1.next b2
            obtain ⟨h0, h1, h2, h3, h4, h5⟩ := Q2.seen
            clear a0 a1 a2 a3 a4 a5 g0 g1 g2 g3 g4 g5
            have D2 := Q2.drew
            go_wp2_with fail
            go_region_held3 (fun w' => w'.cell? ⟨w.heap.size, 0, none⟩ = some (.bool x.dash) ∧ w'.cell? ⟨w.heap.size, 1, none⟩ = some (.bool x.num) ∧ w'.cell? ⟨w.heap.size, 2, none⟩ = some (.string (ofL x.text)) ∧ w'.cell? ⟨w.heap.size + 1, 0, none⟩ = some (.bool y.dash) ∧ w'.cell? ⟨w.heap.size + 1, 1, none⟩ = some (.bool y.num) ∧ w'.cell? ⟨w.heap.size + 1, 2, none⟩ = some (.string (ofL y.text)))
              (go_keep)
              ((first
                | (go_at_call 86; refine (SG.out _ _).mono ?_; rintro e w5 ⟨rfl, hw5⟩; rw [hw5]; clear hw5 w5)
                | (have hq := Q3; go_at_call 88; refine (RY.out _).mono ?_; rintro e w4 ⟨rfl, b4⟩; have Q4 := Q3.next b4; obtain ⟨j0, j1, j2, j3, j4, j5⟩ := Q4.seen)
                | (go_at_call 88; refine (RX.out _).mono ?_; rintro e w3 ⟨rfl, b3⟩; have Q3 := D2.next b3; obtain ⟨i0, i1, i2, i3, i4, i5⟩ := Q3.seen)
                | fail))
            try rw [hsg]
            go_wp2_with fail
            refine (RX.out _).mono ?_
            rintro e w6 ⟨rfl, b6⟩
            have Q6 := Q4.next b6
            obtain ⟨k0, k1, k2, k3, k4, k5⟩ := Q6.seen
            go_wp2_with fail
            go_quiet (first | (go_at_call 41; exact Calls.quiet_of_same (TR.out _ _)) | fail)
            go_wp2_with fail
            go_ret
            exact ⟨ret_i HO9.out.symm, Q6.bel.trans (below_drewN _ _ _)⟩
      · have HO : Hid (O = sgI (rx - ry)) := by show _ = _; rw [HO.out, orI, if_neg hn]
        have hnb : (sgI (rx - ry) != 0) = true := by simpa using hn
        clear hn
        go_enter Tryz.func67, Tryz.ntmps67
        go_wp2_with fail
        generalize (w.alloc (.cells #[.bool x.dash, .bool x.num, .string (ofL x.text)] 91)).alloc (.cells #[.bool y.dash, .bool y.num, .string (ofL y.text)] 91) = W0 at *
        obtain ⟨a0, a1, a2, a3, a4, a5⟩ := S0.seen
        refine (KX.out _).mono ?_
        rintro e w1 ⟨rfl, b1⟩
        have Q1 := S0.next b1
        obtain ⟨g0, g1, g2, g3, g4, g5⟩ := Q1.seen
        go_wp2_with fail
        refine (KY.out _).mono ?_
        rintro e w2 ⟨rfl, b2⟩
        have Q2 := Q1.next b2
        obtain ⟨h0, h1, h2, h3, h4, h5⟩ := Q2.seen
        clear a0 a1 a2 a3 a4 a5 g0 g1 g2 g3 g4 g5
        have D2 := Q2.drew
        go_wp2_with fail
        go_region_held3 (fun w' => w'.cell? ⟨w.heap.size, 0, none⟩ = some (.bool x.dash) ∧ w'.cell? ⟨w.heap.size, 1, none⟩ = some (.bool x.num) ∧ w'.cell? ⟨w.heap.size, 2, none⟩ = some (.string (ofL x.text)) ∧ w'.cell? ⟨w.heap.size + 1, 0, none⟩ = some (.bool y.dash) ∧ w'.cell? ⟨w.heap.size + 1, 1, none⟩ = some (.bool y.num) ∧ w'.cell? ⟨w.heap.size + 1, 2, none⟩ = some (.string (ofL y.text)))
          (go_keep)
          ((first
            | (go_at_call 86; refine (SG.out _ _).mono ?_; rintro e w5 ⟨rfl, hw5⟩; rw [hw5]; clear hw5 w5)
            | (have hq := Q3; go_at_call 88; refine (RY.out _).mono ?_; rintro e w4 ⟨rfl, b4⟩; have Q4 := Q3.next b4; obtain ⟨j0, j1, j2, j3, j4, j5⟩ := Q4.seen)
            | (go_at_call 88; refine (RX.out _).mono ?_; rintro e w3 ⟨rfl, b3⟩; have Q3 := D2.next b3; obtain ⟨i0, i1, i2, i3, i4, i5⟩ := Q3.seen)
            | fail))
        go_wp2_with fail
        go_ret
        exact ⟨ret_i HO.out.symm, Q4.bel⟩
  · have hkb : (kx != ky) = true := by simpa using hk
    have HO : Hid (O = sgI (kx - ky)) := by
      show _ = _
      rw [← cmpI_sg]
      exact HO2.out (by unfold cmpI; (repeat' split) <;> omega)
    clear HX3 HY3 HO2
    go_enter Tryz.func67, Tryz.ntmps67
    go_wp2_with fail
    generalize (w.alloc (.cells #[.bool x.dash, .bool x.num, .string (ofL x.text)] 91)).alloc (.cells #[.bool y.dash, .bool y.num, .string (ofL y.text)] 91) = W0 at *
    obtain ⟨a0, a1, a2, a3, a4, a5⟩ := S0.seen
    refine (KX.out _).mono ?_
    rintro e w1 ⟨rfl, b1⟩
    have Q1 := S0.next b1
    obtain ⟨g0, g1, g2, g3, g4, g5⟩ := Q1.seen
    go_wp2_with fail
    refine (KY.out _).mono ?_
    rintro e w2 ⟨rfl, b2⟩
    have Q2 := Q1.next b2
    obtain ⟨h0, h1, h2, h3, h4, h5⟩ := Q2.seen
    clear a0 a1 a2 a3 a4 a5 g0 g1 g2 g3 g4 g5
    go_wp2_with fail
    refine (SG.out _ _).mono ?_
    rintro e w3 ⟨rfl, hw3⟩
    rw [hw3]; clear hw3 w3
    go_wp2_with fail
    go_ret
    exact ⟨ret_i HO.out.symm, Q2.bel⟩

end Go.Proofs.YtpedljmpobhimaaGreatDoor
