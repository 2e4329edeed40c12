/-
  Walks: the order of identifiers, of lists of them, of versions.
-/
import Derived.Test.YtaflflelcdcanaaGreatZSa
import Derived.Test.YtaflflelcdcanaaGreatZPlainT
import Derived.StillTailTactics
import Derived.Deep.QuietTactic
import Derived.BigQuiet
namespace Go.Proofs.YtaflflelcdcanaaGreat
open Go.RowKit
set_option linter.unusedVariables false

set_option maxHeartbeats 400000 in
theorem orderId_any (a b : ByteArray) (w : World) (ha : a.size ≤ 9223372036854775806) (hb : b.size ≤ 9223372036854775806) :
    Calls Tryz.prog 143 #[.string a, .string b] w fun e w' => e = .returned (.int .i64 (oneO a.data.toList b.data.toList)) ∧ w' = w := by
  have hO : oneO a.data.toList b.data.toList = if digB a.data.toList then (if digB b.data.toList then cmpD a.data.toList b.data.toList else -1) else if digB b.data.toList then 1 else Lib.compareBytes a.data.toList b.data.toList := rfl
  have D1 := hide (fun w => digits_any a w (by unfold maxLen; omega))
  have D2 := hide (fun w => digits_any b w (by unfold maxLen; omega))
  generalize oneO a.data.toList b.data.toList = O at *
  generalize digB a.data.toList = x at *
  generalize digB b.data.toList = y at *
  have HO := hide hO
  clear hO
  cases x <;> cases y
  · go_enter Tryz.func143, Tryz.ntmps143
    go_wp2_with fail
    refine (D1.out _).mono ?_
    rintro e w' ⟨rfl, rfl⟩
    go_wp2_with fail
    refine (D2.out _).mono ?_
    rintro e w' ⟨rfl, rfl⟩
    go_wp2_with fail
    refine (StrCompare_any _ _ _).mono ?_
    rintro e w' ⟨rfl, rfl⟩
    go_wp2_with fail
    go_ret
    exact ⟨ret_i (by rw [HO.out]; rfl), rfl⟩
  · go_enter Tryz.func143, Tryz.ntmps143
    go_wp2_with fail
    refine (D1.out _).mono ?_
    rintro e w' ⟨rfl, rfl⟩
    go_wp2_with fail
    refine (D2.out _).mono ?_
    rintro e w' ⟨rfl, rfl⟩
    go_wp2_with fail
    go_ret
    exact ⟨ret_i (by rw [HO.out]; rfl), rfl⟩
  · go_enter Tryz.func143, Tryz.ntmps143
    go_wp2_with fail
    refine (D1.out _).mono ?_
    rintro e w' ⟨rfl, rfl⟩
    go_wp2_with fail
    refine (D2.out _).mono ?_
    rintro e w' ⟨rfl, rfl⟩
    go_wp2_with fail
    go_ret
    exact ⟨ret_i (by rw [HO.out]; rfl), rfl⟩
  · go_enter Tryz.func143, Tryz.ntmps143
    go_wp2_with fail
    refine (D1.out _).mono ?_
    rintro e w' ⟨rfl, rfl⟩
    go_wp2_with fail
    refine (D2.out _).mono ?_
    rintro e w' ⟨rfl, rfl⟩
    go_wp2_with fail
    refine (Cmp_any _ _ _ ha hb).mono ?_
    rintro e w' ⟨rfl, rfl⟩
    go_wp2_with fail
    go_ret
    exact ⟨ret_i (by rw [HO.out]; rfl), rfl⟩

/-- A slice of texts in memory. -/
def Txt (W : World) (v : Value) (ts : List (List UInt8)) : Prop :=
  ∃ a cap, v = .slice a ts.length cap ∧ (ts = [] ∨ ∃ b off, a = some ⟨b, off, none⟩ ∧ b < W.heap.size ∧ ∀ i (h : i < ts.length), W.cell? ⟨b, off + i, none⟩ = some (.string (ofL ts[i])))
theorem Txt.below {W W' : World} {v : Value} {ts : List (List UInt8)} (h : Txt W v ts) (hb : Below W.heap.size W W') : Txt W' v ts := by
  obtain ⟨a, cap, hv, h0 | ⟨b, off, ha, hlt, hc⟩⟩ := h
  · exact ⟨a, cap, hv, .inl h0⟩
  · exact ⟨a, cap, hv, .inr ⟨b, off, ha, Nat.lt_of_lt_of_le hlt hb.size, fun i hi => by rw [← hc i hi]; simp only [World.cell?]; rw [hb.block b hlt]⟩⟩
theorem Txt.some {W : World} {a : Option Addr} {n cap : Nat} {ts : List (List UInt8)} (h : Txt W (.slice a n cap) ts) (hne : 0 < ts.length) :
    ∃ b off, a = some ⟨b, off, none⟩ ∧ ∀ i (h : i < ts.length), W.cell? ⟨b, off + i, none⟩ = some (.string (ofL ts[i])) := by
  obtain ⟨a', cap', hv, h0 | ⟨b, off, ha, hlt, hc⟩⟩ := h
  · subst h0; simp at hne
  · cases hv
    exact ⟨b, off, ha, hc⟩

/-- Texts short enough. -/
def Short (ts : List (List UInt8)) : Prop := ts.length ≤ 9223372036854775806 ∧ ∀ t ∈ ts, t.length ≤ 9223372036854775806

set_option maxHeartbeats 1000000 in
theorem CompareFunc_any (va vb : Value) (xs ys : List (List UInt8)) (w : World) (ha : Txt w va xs) (hb : Txt w vb ys) (sx : Short xs) (sy : Short ys) :
    Calls Tryz.prog 142 #[va, vb, .func (.func 143) #[] #[]] w fun e w' => e = .returned (.int .i64 (lexO xs ys)) ∧ w' = w := by
  obtain ⟨a1, c1, rfl, _⟩ := id ha
  obtain ⟨a2, c2, rfl, _⟩ := id hb
  have HA := hide ha
  have HB := hide hb
  have SX := hide sx
  have SY := hide sy
  have lx := sx.1
  have ly := sy.1
  clear ha hb sx sy
  go_enter Tryz.func142, Tryz.ntmps142
  go_wp2_with fail
  go_loop [13] (fun i => ∃ k : Nat, k ≤ xs.length ∧ k ≤ ys.length ∧ i = .int .i64 k ∧ Hid (lexO xs ys = lexO (xs.drop k) (ys.drop k))) (fun i => xs.length - (intOf i).toNat)
  case atStart => exact ⟨0, by omega, by omega, rfl, by simp [Hid]⟩
  case round =>
    obtain ⟨k, hk, hky, rfl, HR⟩ := hrel
    by_cases h1 : k < xs.length
    · obtain ⟨b1, o1, rfl, hc1⟩ := HA.out.some (by omega)
      have p1 := hc1 k h1
      clear hc1
      by_cases h2 : k < ys.length
      · obtain ⟨b2, o2, rfl, hc2⟩ := HB.out.some (by omega)
        have p2 := hc2 k h2
        clear hc2
        have C := orderId_any (ofL xs[k]) (ofL ys[k]) w (by rw [ofL_size]; exact SX.out.2 _ (List.getElem_mem _)) (by rw [ofL_size]; exact SY.out.2 _ (List.getElem_mem _))
        rw [ofL_data, ofL_data] at C
        have HC := hide C
        clear C
        have hX := lexO_drop xs ys k h1 h2
        have hge : ¬ ((ys.length : Int) ≤ (k : Int)) := by omega
        generalize xs[k] = x at *
        generalize ys[k] = y at *
        generalize oneO x y = O at *
        by_cases h0 : O = 0
        · subst h0
          rw [if_pos rfl] at hX
          have HX := hide hX
          clear hX
          go_wp2_with fail
          refine HC.out.mono ?_
          rintro e w' ⟨rfl, hw'⟩
          rw [hw']
          clear hw' w'
          go_wp2_with fail
          go_round
          case rel => exact ⟨k + 1, by omega, by omega, by go_num, by rw [HR.out, HX.out]; rfl⟩
          case measure => simp [intOf]; omega
        · rw [if_neg h0] at hX
          have hb0 : (O != 0) = true := by simpa using h0
          have HX := hide hX
          clear hX h0
          go_wp2_with fail
          refine HC.out.mono ?_
          rintro e w' ⟨rfl, hw'⟩
          rw [hw']
          clear hw' w'
          go_wp2_with fail
          go_ret
          exact ⟨ret_i (by rw [HR.out, HX.out]), rfl⟩
      · have HX := hide (lexO_endb xs ys k h1 (by omega))
        have hge : ((ys.length : Int) ≤ (k : Int)) := by omega
        go_wp2_with fail
        go_ret
        exact ⟨ret_i (by rw [HR.out, HX.out]), rfl⟩
    · by_cases h2 : k < ys.length
      · have HX := hide (lexO_enda xs ys k (by omega) h2)
        have hlt : ((xs.length : Int) < (ys.length : Int)) := by omega
        go_wp2_with fail
        go_ret
        exact ⟨ret_i (by rw [HR.out, HX.out]), rfl⟩
      · have HX := hide (lexO_end xs ys k (by omega) (by omega))
        have hlt : ¬ ((xs.length : Int) < (ys.length : Int)) := by omega
        go_wp2_with fail
        go_ret
        exact ⟨ret_i (by rw [HR.out, HX.out]), rfl⟩

theorem int_eq0 {n : Nat} (h : n = 0) : ((n : Int) == 0) = true := by subst h; rfl
theorem int_ne0 {n : Nat} (h : ¬ n = 0) : ((n : Int) == 0) = false := by simp; omega

set_option maxHeartbeats 1000000 in
theorem orderPre_any (va vb : Value) (xs ys : List (List UInt8)) (w : World) (ha : Txt w va xs) (hb : Txt w vb ys) (sx : Short xs) (sy : Short ys) :
    Calls Tryz.prog 107 #[va, vb] w fun e w' => e = .returned (.int .i64 (preO xs ys)) ∧ w' = w := by
  have C := CompareFunc_any va vb xs ys w ha hb sx sy
  obtain ⟨a1, c1, rfl, _⟩ := id ha
  obtain ⟨a2, c2, rfl, _⟩ := id hb
  have lx := sx.1
  have ly := sy.1
  have hP : preO xs ys = if xs = [] ∨ ys = [] then (if ys.length < xs.length then -1 else if xs.length < ys.length then 1 else 0) else lexO xs ys := rfl
  generalize preO xs ys = R at *
  have HC := hide C
  clear C ha hb sx sy
  by_cases h1 : xs.length = 0
  · rw [if_pos (.inl (List.length_eq_zero_iff.1 h1))] at hP
    have CC := Compare_any (ys.length : Int) (xs.length : Int) w
    simp only [Int.ofNat_lt] at CC
    rw [← hP] at CC
    have HD := hide CC
    have hb1 := int_eq0 h1
    clear hP CC h1
    go_enter Tryz.func107, Tryz.ntmps107
    go_wp2_with fail
    refine HD.out.mono ?_
    rintro e w' ⟨rfl, rfl⟩
    go_wp2_with fail
    go_ret
    exact ⟨rfl, rfl⟩
  · have hb1 := int_ne0 h1
    by_cases h2 : ys.length = 0
    · rw [if_pos (.inr (List.length_eq_zero_iff.1 h2))] at hP
      have CC := Compare_any (ys.length : Int) (xs.length : Int) w
      simp only [Int.ofNat_lt] at CC
      rw [← hP] at CC
      have HD := hide CC
      have hb2 := int_eq0 h2
      clear hP CC h1 h2
      go_enter Tryz.func107, Tryz.ntmps107
      go_wp2_with fail
      refine HD.out.mono ?_
      rintro e w' ⟨rfl, rfl⟩
      go_wp2_with fail
      go_ret
      exact ⟨rfl, rfl⟩
    · rw [if_neg (by rintro (h | h) <;> simp [h] at h1 h2)] at hP
      have HP := hide hP
      have hb2 := int_ne0 h2
      clear hP h1 h2
      go_enter Tryz.func107, Tryz.ntmps107
      go_wp2_with fail
      refine HC.out.mono ?_
      rintro e w' ⟨rfl, rfl⟩
      go_wp2_with fail
      go_ret
      exact ⟨ret_i HP.out.symm, rfl⟩

set_option maxHeartbeats 1000000 in
theorem Or_any (B : Nat) (x y z u : Int) (w : World) (h0 : w.cell? ⟨B, 0, none⟩ = some (.int .i64 x)) (h1 : w.cell? ⟨B, 1, none⟩ = some (.int .i64 y)) (h2 : w.cell? ⟨B, 2, none⟩ = some (.int .i64 z)) (h3 : w.cell? ⟨B, 3, none⟩ = some (.int .i64 u)) :
    Calls Tryz.prog 105 #[.slice (some ⟨B, 0, none⟩) 4 4] w fun e w' => e = .returned (.int .i64 (or4 x y z u)) ∧ w' = w := by
  have hO : or4 x y z u = if x ≠ 0 then x else if y ≠ 0 then y else if z ≠ 0 then z else u := rfl
  generalize or4 x y z u = R at *
  by_cases c0 : x = 0
  · rw [if_neg (by simp [c0])] at hO
    have b0 : (x != 0) = false := by simpa using c0
    by_cases c1 : y = 0
    · rw [if_neg (by simp [c1])] at hO
      have b1 : (y != 0) = false := by simpa using c1
      by_cases c2 : z = 0
      · rw [if_neg (by simp [c2])] at hO
        have b2 : (z != 0) = false := by simpa using c2
        by_cases c3 : u = 0
        · have HO : Hid (R = 0) := hO.trans c3
          have b3 : (u != 0) = false := by simpa using c3
          clear hO c0 c1 c2 c3
          go_enter Tryz.func105, Tryz.ntmps105
          go_wp2_with fail
          refine wp_loop_rounds 5 ?_
          rw [rounds_succ]
          go_wp2_with fail
          rw [rounds_succ]
          go_wp2_with fail
          rw [rounds_succ]
          go_wp2_with fail
          rw [rounds_succ]
          go_wp2_with fail
          rw [rounds_succ]
          go_wp2_with fail
          go_ret
          exact ⟨ret_i HO.out.symm, rfl⟩
        · have HO := hide hO
          have b3 : (u != 0) = true := by simpa using c3
          clear hO c0 c1 c2 c3
          go_enter Tryz.func105, Tryz.ntmps105
          go_wp2_with fail
          refine wp_loop_rounds 5 ?_
          rw [rounds_succ]
          go_wp2_with fail
          rw [rounds_succ]
          go_wp2_with fail
          rw [rounds_succ]
          go_wp2_with fail
          rw [rounds_succ]
          go_wp2_with fail
          go_ret
          exact ⟨ret_i HO.out.symm, rfl⟩
      · rw [if_pos c2] at hO
        have HO := hide hO
        have b2 : (z != 0) = true := by simpa using c2
        clear hO c0 c1 c2
        go_enter Tryz.func105, Tryz.ntmps105
        go_wp2_with fail
        refine wp_loop_rounds 5 ?_
        rw [rounds_succ]
        go_wp2_with fail
        rw [rounds_succ]
        go_wp2_with fail
        rw [rounds_succ]
        go_wp2_with fail
        go_ret
        exact ⟨ret_i HO.out.symm, rfl⟩
    · rw [if_pos c1] at hO
      have HO := hide hO
      have b1 : (y != 0) = true := by simpa using c1
      clear hO c0 c1
      go_enter Tryz.func105, Tryz.ntmps105
      go_wp2_with fail
      refine wp_loop_rounds 5 ?_
      rw [rounds_succ]
      go_wp2_with fail
      rw [rounds_succ]
      go_wp2_with fail
      go_ret
      exact ⟨ret_i HO.out.symm, rfl⟩
  · rw [if_pos c0] at hO
    have HO := hide hO
    have b0 : (x != 0) = true := by simpa using c0
    clear hO c0
    go_enter Tryz.func105, Tryz.ntmps105
    go_wp2_with fail
    refine wp_loop_rounds 5 ?_
    rw [rounds_succ]
    go_wp2_with fail
    go_ret
    exact ⟨ret_i HO.out.symm, rfl⟩

/-- A version in memory. -/
def SemAt (W : World) (v : Value) (x : SemL) : Prop :=
  ∃ vp vb, v = .agg #[.string (ofL x.maj), .string (ofL x.min), .string (ofL x.pat), vp, vb] ∧ Txt W vp x.pre ∧ Txt W vb x.bld
theorem SemAt.below {W W' : World} {v : Value} {x : SemL} (h : SemAt W v x) (hb : Below W.heap.size W W') : SemAt W' v x := by
  obtain ⟨vp, vb, hv, h1, h2⟩ := h
  exact ⟨vp, vb, hv, h1.below hb, h2.below hb⟩
/-- A version short enough. -/
def ShortS (x : SemL) : Prop := x.maj.length ≤ 9223372036854775806 ∧ x.min.length ≤ 9223372036854775806 ∧ x.pat.length ≤ 9223372036854775806 ∧ Short x.pre ∧ Short x.bld

theorem cmp_ofL (a b : List UInt8) (w : World) (ha : a.length ≤ 9223372036854775806) (hb : b.length ≤ 9223372036854775806) :
    Calls Tryz.prog 106 #[.string (ofL a), .string (ofL b)] w fun e w' => e = .returned (.int .i64 (cmpD a b)) ∧ w' = w := by
  have := Cmp_any (ofL a) (ofL b) w (by rw [ofL_size]; exact ha) (by rw [ofL_size]; exact hb)
  rw [ofL_data, ofL_data] at this
  exact this

set_option maxRecDepth 100000 in
set_option maxHeartbeats 2000000 in
theorem order_any (va vb : Value) (x y : SemL) (w : World) (ha : SemAt w va x) (hb : SemAt w vb y) (sx : ShortS x) (sy : ShortS y) :
    Calls Tryz.prog 71 #[va, vb] w fun e w' => e = .returned (.int .i64 (ordO x y)) ∧ Below w.heap.size w w' := by
  obtain ⟨p1, q1, rfl, t1, u1⟩ := ha
  obtain ⟨p2, q2, rfl, t2, u2⟩ := hb
  obtain ⟨a1, c1, rfl, _⟩ := id t1
  obtain ⟨a2, c2, rfl, _⟩ := id t2
  obtain ⟨a3, c3, rfl, _⟩ := id u1
  obtain ⟨a4, c4, rfl, _⟩ := id u2
  have C1 := hide (fun w => cmp_ofL x.maj y.maj w sx.1 sy.1)
  have C2 := hide (fun w => cmp_ofL x.min y.min w sx.2.1 sy.2.1)
  have C3 := hide (fun w => cmp_ofL x.pat y.pat w sx.2.2.1 sy.2.2.1)
  have C4 := hide (fun W hW => orderPre_any _ _ x.pre y.pre W (t1.below hW) (t2.below hW) sx.2.2.2.1 sy.2.2.2.1)
  have HO : Hid (ordO x y = or4 (cmpD x.maj y.maj) (cmpD x.min y.min) (cmpD x.pat y.pat) (preO x.pre y.pre)) := rfl
  generalize ordO x y = O at *
  generalize cmpD x.maj y.maj = o1 at *
  generalize cmpD x.min y.min = o2 at *
  generalize cmpD x.pat y.pat = o3 at *
  generalize preO x.pre y.pre = o4 at *
  clear t1 t2 u1 u2 sx sy
  go_enter Tryz.func71, Tryz.ntmps71
  go_wp2_with fail
  refine wp_region_still_tail 20 (by kernel_rfl) (by kernel_rfl) ?_
  change wpStill _ _ (World.drew _) _ _ _
  simp only [List.take_succ_cons, List.take_zero, List.drop_succ_cons, List.drop_zero]
  still_step
  still_step
  still_step
  still_step
  still_call (C1.out _)
  still_step
  still_step
  still_step
  still_step
  still_call (C2.out _)
  still_step
  still_step
  still_step
  still_step
  still_call (C3.out _)
  still_step
  still_step
  still_step
  still_step
  still_call (C4.out _ (((Below.refl _ w).alloc (Nat.le_refl _) _).alloc (by simp) _).drew)
  refine wpStill_nil ?_
  go_wp2_with fail
  refine (Or_any _ o1 o2 o3 o4 _ (by go_simp) (by go_simp) (by go_simp) (by go_simp)).mono ?_
  rintro e w' ⟨rfl, rfl⟩
  go_wp2_with fail
  go_ret
  exact ⟨ret_i HO.out.symm, ((((Below.refl _ w).alloc (Nat.le_refl _) _).alloc (by simp) _).alloc (by simp; omega) _).drew⟩

end Go.Proofs.YtaflflelcdcanaaGreat
