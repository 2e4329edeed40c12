/-
  Walks: orders of parts.
-/
import Derived.Test.YtagnikhkmaplpaaGreatPj
namespace Go.Proofs.YtagnikhkmaplpaaGreat
open Go.RowKit Go.Shelf
set_option linter.unusedVariables false

/-- The first that is not nought. -/
def orI : List Int → Int
  | [] => 0
  | x :: r => if x = 0 then orI r else x
/-- The order of parts of a local row. -/
def locO (a b : List UInt8) : Int := if digB a then (if digB b then cmpD a b else 1) else if digB b then -1 else Lib.compareBytes a b
/-- Rows, the shorter one filled up. -/
def padO (O : List UInt8 → List UInt8 → Int) (d : List UInt8) (xs ys : List (List UInt8)) (k : Nat) : Int :=
  orI ((List.range' k (max xs.length ys.length - k)).map fun i => O (xs.getD i d) (ys.getD i d))
theorem padO_end (O : List UInt8 → List UInt8 → Int) (d : List UInt8) (xs ys : List (List UInt8)) (k : Nat) (h : max xs.length ys.length ≤ k) : padO O d xs ys k = 0 := by
  unfold padO
  rw [show max xs.length ys.length - k = 0 by omega]
  rfl
theorem padO_step (O : List UInt8 → List UInt8 → Int) (d : List UInt8) (xs ys : List (List UInt8)) (k : Nat) (h : k < max xs.length ys.length) : padO O d xs ys k = if O (xs.getD k d) (ys.getD k d) = 0 then padO O d xs ys (k + 1) else O (xs.getD k d) (ys.getD k d) := by
  unfold padO
  rw [show max xs.length ys.length - k = (max xs.length ys.length - (k + 1)) + 1 by omega, List.range'_succ]
  rfl

set_option maxHeartbeats 400000 in
theorem orderLocal_any (a b : ByteArray) (w : World) (ha : a.size ≤ 9223372036854775806) (hb : b.size ≤ 9223372036854775806) :
    Calls Tryz.prog 74 #[.string a, .string b] w fun e w' => e = .returned (.int .i64 (locO a.data.toList b.data.toList)) ∧ w' = w := by
  have hO : locO a.data.toList b.data.toList = if digB a.data.toList then (if digB b.data.toList then cmpD a.data.toList b.data.toList else 1) else if digB b.data.toList then -1 else Lib.compareBytes a.data.toList b.data.toList := rfl
  have D1 := hide (fun w => isDigits_any a w (by unfold maxLen; omega))
  have D2 := hide (fun w => isDigits_any b w (by unfold maxLen; omega))
  generalize locO a.data.toList b.data.toList = O at *
  generalize digB a.data.toList = x at *
  generalize digB b.data.toList = y at *
  have HO := hide hO
  clear hO
  cases x <;> cases y
  · go_enter Tryz.func74, Tryz.ntmps74
    go_wp2_with fail
    refine (D1.out _).mono ?_
    rintro e w' ⟨rfl, rfl⟩
    go_wp2_with fail
    refine (D2.out _).mono ?_
    rintro e w' ⟨rfl, rfl⟩
    go_wp2_with fail
    refine (StrCompare_any _ _ _).mono ?_
    rintro e w' ⟨rfl, rfl⟩
    go_wp2_with fail
    go_ret
    exact ⟨ret_i (by rw [HO.out]; rfl), rfl⟩
  · go_enter Tryz.func74, Tryz.ntmps74
    go_wp2_with fail
    refine (D1.out _).mono ?_
    rintro e w' ⟨rfl, rfl⟩
    go_wp2_with fail
    refine (D2.out _).mono ?_
    rintro e w' ⟨rfl, rfl⟩
    go_wp2_with fail
    go_ret
    exact ⟨ret_i (by rw [HO.out]; rfl), rfl⟩
  · go_enter Tryz.func74, Tryz.ntmps74
    go_wp2_with fail
    refine (D1.out _).mono ?_
    rintro e w' ⟨rfl, rfl⟩
    go_wp2_with fail
    refine (D2.out _).mono ?_
    rintro e w' ⟨rfl, rfl⟩
    go_wp2_with fail
    go_ret
    exact ⟨ret_i (by rw [HO.out]; rfl), rfl⟩
  · go_enter Tryz.func74, Tryz.ntmps74
    go_wp2_with fail
    refine (D1.out _).mono ?_
    rintro e w' ⟨rfl, rfl⟩
    go_wp2_with fail
    refine (D2.out _).mono ?_
    rintro e w' ⟨rfl, rfl⟩
    go_wp2_with fail
    refine (Cmp_any _ _ _ ha hb).mono ?_
    rintro e w' ⟨rfl, rfl⟩
    go_wp2_with fail
    go_ret
    exact ⟨ret_i (by rw [HO.out]; rfl), rfl⟩

set_option maxHeartbeats 400000 in
theorem partAt_any (v : Value) (xs : List (List UInt8)) (i : Nat) (d : ByteArray) (w : World) (h : Txt w v xs) (hl : xs.length ≤ 9223372036854775806) :
    Calls Tryz.prog 97 #[v, .int .i64 (i : Int), .string d] w fun e w' => e = .returned (.string (ofL (xs.getD i d.data.toList))) ∧ w' = w := by
  obtain ⟨a1, c1, rfl, _⟩ := id h
  by_cases hi : i < xs.length
  · obtain ⟨b1, o1, rfl, hc1⟩ := h.some (by omega)
    have p1 := hc1 i hi
    have hd : decide ((i : Int) < (xs.length : Int)) = true := by simp; omega
    have HG : Hid (xs.getD i d.data.toList = xs[i]) := by show _ = _; rw [List.getD_eq_getElem?_getD, List.getElem?_eq_getElem hi]; rfl
    rw [HG.out]
    clear hc1 h HG
    generalize xs[i] = x at *
    go_enter Tryz.func97, Tryz.ntmps97
    go_wp2_with fail
    go_ret
    exact ⟨rfl, rfl⟩
  · have hd : decide ((i : Int) < (xs.length : Int)) = false := by simp; omega
    have hd3 : ¬ ((i : Int) < (xs.length : Int)) := by omega
    have HG : Hid (xs.getD i d.data.toList = d.data.toList) := by show _ = _; rw [List.getD_eq_getElem?_getD, List.getElem?_eq_none (by omega)]; rfl
    rw [HG.out]
    have HD : Hid (ofL d.data.toList = d) := ofL_self d
    rw [HD.out]
    clear HG HD h
    go_enter Tryz.func97, Tryz.ntmps97
    go_wp2_with fail
    go_ret
    exact ⟨rfl, rfl⟩
theorem short_getD {ts : List (List UInt8)} (h : Short ts) (i : Nat) (d : List UInt8) (hd : d.length ≤ 9223372036854775806) : (ts.getD i d).length ≤ 9223372036854775806 := by
  rw [List.getD_eq_getElem?_getD]
  by_cases hi : i < ts.length
  · rw [List.getElem?_eq_getElem hi]; exact h.2 _ (List.getElem_mem _)
  · rw [List.getElem?_eq_none (by omega)]; exact hd

set_option maxHeartbeats 1000000 in
theorem orderParts_cmp (va vb : Value) (xs ys : List (List UInt8)) (d : ByteArray) (w : World) (ha : Txt w va xs) (hb : Txt w vb ys) (sx : Short xs) (sy : Short ys) (hd : d.size ≤ 9223372036854775806) :
    Calls Tryz.prog 70 #[va, vb, .string d, .func (.func 69) #[] #[]] w fun e w' => e = .returned (.int .i64 (padO cmpD d.data.toList xs ys 0)) ∧ w' = w := by
  obtain ⟨a1, c1, rfl, _⟩ := id ha
  obtain ⟨a2, c2, rfl, _⟩ := id hb
  have PA := hide (fun i : Nat => partAt_any _ xs i d w ha sx.1)
  have PB := hide (fun i : Nat => partAt_any _ ys i d w hb sy.1)
  have CC : Hid (∀ i : Nat, Calls Tryz.prog 69 #[.string (ofL (xs.getD i d.data.toList)), .string (ofL (ys.getD i d.data.toList))] w fun e w' => e = .returned (.int .i64 (cmpD (xs.getD i d.data.toList) (ys.getD i d.data.toList))) ∧ w' = w) := by
    intro i
    have := Cmp_any (ofL (xs.getD i d.data.toList)) (ofL (ys.getD i d.data.toList)) w (by rw [ofL_size]; exact short_getD sx i _ (by rw [len_data]; exact hd)) (by rw [ofL_size]; exact short_getD sy i _ (by rw [len_data]; exact hd))
    rwa [ofL_data, ofL_data] at this
  have lx := sx.1
  have ly := sy.1
  have HS := hide (fun k h => padO_step cmpD d.data.toList xs ys k h)
  have HE := hide (fun k h => padO_end cmpD d.data.toList xs ys k h)
  by_cases hle : xs.length < ys.length
  · have hM : max xs.length ys.length = ys.length := by omega
    have g1 : (xs.length : Int) < (ys.length : Int) := by omega
    have g2 : ¬ (ys.length : Int) ≤ (xs.length : Int) := by omega
    have g3 : ¬ (ys.length : Int) < (xs.length : Int) := by omega
    rw [hM] at HS HE
    clear ha hb sx sy hM
    go_enter Tryz.func70, Tryz.ntmps70
    go_wp2_with fail
    go_loop [16] (fun i => ∃ k : Nat, k ≤ ys.length ∧ i = .int .i64 k ∧ Hid (padO cmpD d.data.toList xs ys 0 = padO cmpD d.data.toList xs ys k)) (fun i => ys.length - (intOf i).toNat)
    case atStart => exact ⟨0, by omega, rfl, rfl⟩
    case round =>
      obtain ⟨k, hk, rfl, HR⟩ := hrel
      by_cases h1 : k < ys.length
      · have hd1 : decide ((k : Int) < (ys.length : Int)) = true := by simp; omega
        have pa := hide (PA.out k)
        have pb := hide (PB.out k)
        have cc := hide (CC.out k)
        have hX := HS.out k h1
        generalize cmpD (xs.getD k d.data.toList) (ys.getD k d.data.toList) = O at *
        generalize ofL (xs.getD k d.data.toList) = x at *
        generalize ofL (ys.getD k d.data.toList) = y at *
        by_cases h0 : O = 0
        · subst h0
          rw [if_pos rfl] at hX
          have HX := hide hX
          clear hX
          go_wp2_with fail
          refine pa.out.mono ?_
          rintro e w' ⟨rfl, hw'⟩
          rw [hw']
          clear hw' w'
          go_wp2_with fail
          refine pb.out.mono ?_
          rintro e w' ⟨rfl, hw'⟩
          rw [hw']
          clear hw' w'
          go_wp2_with fail
          refine cc.out.mono ?_
          rintro e w' ⟨rfl, hw'⟩
          rw [hw']
          clear hw' w'
          go_wp2_with fail
          go_round
          case rel => exact ⟨k + 1, by omega, by go_num, by show _ = _; rw [HR.out, HX.out]⟩
          case measure => simp [intOf]; omega
        · rw [if_neg h0] at hX
          have hb0 : (O != 0) = true := by simpa using h0
          have HX := hide hX
          clear hX h0
          go_wp2_with fail
          refine pa.out.mono ?_
          rintro e w' ⟨rfl, hw'⟩
          rw [hw']
          clear hw' w'
          go_wp2_with fail
          refine pb.out.mono ?_
          rintro e w' ⟨rfl, hw'⟩
          rw [hw']
          clear hw' w'
          go_wp2_with fail
          refine cc.out.mono ?_
          rintro e w' ⟨rfl, hw'⟩
          rw [hw']
          clear hw' w'
          go_wp2_with fail
          go_ret
          exact ⟨ret_i (by rw [HR.out, HX.out]), rfl⟩
      · have hd1 : decide ((k : Int) < (ys.length : Int)) = false := by simp; omega
        have hd3 : ¬ ((k : Int) < (ys.length : Int)) := by omega
        have HX := hide (HE.out k (by omega))
        go_wp2_with fail
        go_ret
        exact ⟨ret_i (by rw [HR.out, HX.out]), rfl⟩
  · have hM : max xs.length ys.length = xs.length := by omega
    have g1 : ¬ (xs.length : Int) < (ys.length : Int) := by omega
    have g2 : (ys.length : Int) ≤ (xs.length : Int) := by omega
    rw [hM] at HS HE
    clear ha hb sx sy hM
    go_enter Tryz.func70, Tryz.ntmps70
    go_wp2_with fail
    go_loop [16] (fun i => ∃ k : Nat, k ≤ xs.length ∧ i = .int .i64 k ∧ Hid (padO cmpD d.data.toList xs ys 0 = padO cmpD d.data.toList xs ys k)) (fun i => xs.length - (intOf i).toNat)
    case atStart => exact ⟨0, by omega, rfl, rfl⟩
    case round =>
      obtain ⟨k, hk, rfl, HR⟩ := hrel
      by_cases h1 : k < xs.length
      · have hd1 : decide ((k : Int) < (xs.length : Int)) = true := by simp; omega
        have pa := hide (PA.out k)
        have pb := hide (PB.out k)
        have cc := hide (CC.out k)
        have hX := HS.out k h1
        generalize cmpD (xs.getD k d.data.toList) (ys.getD k d.data.toList) = O at *
        generalize ofL (xs.getD k d.data.toList) = x at *
        generalize ofL (ys.getD k d.data.toList) = y at *
        by_cases h0 : O = 0
        · subst h0
          rw [if_pos rfl] at hX
          have HX := hide hX
          clear hX
          go_wp2_with fail
          refine pa.out.mono ?_
          rintro e w' ⟨rfl, hw'⟩
          rw [hw']
          clear hw' w'
          go_wp2_with fail
          refine pb.out.mono ?_
          rintro e w' ⟨rfl, hw'⟩
          rw [hw']
          clear hw' w'
          go_wp2_with fail
          refine cc.out.mono ?_
          rintro e w' ⟨rfl, hw'⟩
          rw [hw']
          clear hw' w'
          go_wp2_with fail
          go_round
          case rel => exact ⟨k + 1, by omega, by go_num, by show _ = _; rw [HR.out, HX.out]⟩
          case measure => simp [intOf]; omega
        · rw [if_neg h0] at hX
          have hb0 : (O != 0) = true := by simpa using h0
          have HX := hide hX
          clear hX h0
          go_wp2_with fail
          refine pa.out.mono ?_
          rintro e w' ⟨rfl, hw'⟩
          rw [hw']
          clear hw' w'
          go_wp2_with fail
          refine pb.out.mono ?_
          rintro e w' ⟨rfl, hw'⟩
          rw [hw']
          clear hw' w'
          go_wp2_with fail
          refine cc.out.mono ?_
          rintro e w' ⟨rfl, hw'⟩
          rw [hw']
          clear hw' w'
          go_wp2_with fail
          go_ret
          exact ⟨ret_i (by rw [HR.out, HX.out]), rfl⟩
      · have hd1 : decide ((k : Int) < (xs.length : Int)) = false := by simp; omega
        have hd3 : ¬ ((k : Int) < (xs.length : Int)) := by omega
        have HX := hide (HE.out k (by omega))
        go_wp2_with fail
        go_ret
        exact ⟨ret_i (by rw [HR.out, HX.out]), rfl⟩

set_option maxHeartbeats 1000000 in
theorem orderParts_loc (va vb : Value) (xs ys : List (List UInt8)) (d : ByteArray) (w : World) (ha : Txt w va xs) (hb : Txt w vb ys) (sx : Short xs) (sy : Short ys) (hd : d.size ≤ 9223372036854775806) :
    Calls Tryz.prog 70 #[va, vb, .string d, .func (.func 74) #[] #[]] w fun e w' => e = .returned (.int .i64 (padO locO d.data.toList xs ys 0)) ∧ w' = w := by
  obtain ⟨a1, c1, rfl, _⟩ := id ha
  obtain ⟨a2, c2, rfl, _⟩ := id hb
  have PA := hide (fun i : Nat => partAt_any _ xs i d w ha sx.1)
  have PB := hide (fun i : Nat => partAt_any _ ys i d w hb sy.1)
  have CC : Hid (∀ i : Nat, Calls Tryz.prog 74 #[.string (ofL (xs.getD i d.data.toList)), .string (ofL (ys.getD i d.data.toList))] w fun e w' => e = .returned (.int .i64 (locO (xs.getD i d.data.toList) (ys.getD i d.data.toList))) ∧ w' = w) := by
    intro i
    have := orderLocal_any (ofL (xs.getD i d.data.toList)) (ofL (ys.getD i d.data.toList)) w (by rw [ofL_size]; exact short_getD sx i _ (by rw [len_data]; exact hd)) (by rw [ofL_size]; exact short_getD sy i _ (by rw [len_data]; exact hd))
    rwa [ofL_data, ofL_data] at this
  have lx := sx.1
  have ly := sy.1
  have HS := hide (fun k h => padO_step locO d.data.toList xs ys k h)
  have HE := hide (fun k h => padO_end locO d.data.toList xs ys k h)
  by_cases hle : xs.length < ys.length
  · have hM : max xs.length ys.length = ys.length := by omega
    have g1 : (xs.length : Int) < (ys.length : Int) := by omega
    have g2 : ¬ (ys.length : Int) ≤ (xs.length : Int) := by omega
    have g3 : ¬ (ys.length : Int) < (xs.length : Int) := by omega
    rw [hM] at HS HE
    clear ha hb sx sy hM
    go_enter Tryz.func70, Tryz.ntmps70
    go_wp2_with fail
    go_loop [16] (fun i => ∃ k : Nat, k ≤ ys.length ∧ i = .int .i64 k ∧ Hid (padO locO d.data.toList xs ys 0 = padO locO d.data.toList xs ys k)) (fun i => ys.length - (intOf i).toNat)
    case atStart => exact ⟨0, by omega, rfl, rfl⟩
    case round =>
      obtain ⟨k, hk, rfl, HR⟩ := hrel
      by_cases h1 : k < ys.length
      · have hd1 : decide ((k : Int) < (ys.length : Int)) = true := by simp; omega
        have pa := hide (PA.out k)
        have pb := hide (PB.out k)
        have cc := hide (CC.out k)
        have hX := HS.out k h1
        generalize locO (xs.getD k d.data.toList) (ys.getD k d.data.toList) = O at *
        generalize ofL (xs.getD k d.data.toList) = x at *
        generalize ofL (ys.getD k d.data.toList) = y at *
        by_cases h0 : O = 0
        · subst h0
          rw [if_pos rfl] at hX
          have HX := hide hX
          clear hX
          go_wp2_with fail
          refine pa.out.mono ?_
          rintro e w' ⟨rfl, hw'⟩
          rw [hw']
          clear hw' w'
          go_wp2_with fail
          refine pb.out.mono ?_
          rintro e w' ⟨rfl, hw'⟩
          rw [hw']
          clear hw' w'
          go_wp2_with fail
          refine cc.out.mono ?_
          rintro e w' ⟨rfl, hw'⟩
          rw [hw']
          clear hw' w'
          go_wp2_with fail
          go_round
          case rel => exact ⟨k + 1, by omega, by go_num, by show _ = _; rw [HR.out, HX.out]⟩
          case measure => simp [intOf]; omega
        · rw [if_neg h0] at hX
          have hb0 : (O != 0) = true := by simpa using h0
          have HX := hide hX
          clear hX h0
          go_wp2_with fail
          refine pa.out.mono ?_
          rintro e w' ⟨rfl, hw'⟩
          rw [hw']
          clear hw' w'
          go_wp2_with fail
          refine pb.out.mono ?_
          rintro e w' ⟨rfl, hw'⟩
          rw [hw']
          clear hw' w'
          go_wp2_with fail
          refine cc.out.mono ?_
          rintro e w' ⟨rfl, hw'⟩
          rw [hw']
          clear hw' w'
          go_wp2_with fail
          go_ret
          exact ⟨ret_i (by rw [HR.out, HX.out]), rfl⟩
      · have hd1 : decide ((k : Int) < (ys.length : Int)) = false := by simp; omega
        have hd3 : ¬ ((k : Int) < (ys.length : Int)) := by omega
        have HX := hide (HE.out k (by omega))
        go_wp2_with fail
        go_ret
        exact ⟨ret_i (by rw [HR.out, HX.out]), rfl⟩
  · have hM : max xs.length ys.length = xs.length := by omega
    have g1 : ¬ (xs.length : Int) < (ys.length : Int) := by omega
    have g2 : (ys.length : Int) ≤ (xs.length : Int) := by omega
    rw [hM] at HS HE
    clear ha hb sx sy hM
    go_enter Tryz.func70, Tryz.ntmps70
    go_wp2_with fail
    go_loop [16] (fun i => ∃ k : Nat, k ≤ xs.length ∧ i = .int .i64 k ∧ Hid (padO locO d.data.toList xs ys 0 = padO locO d.data.toList xs ys k)) (fun i => xs.length - (intOf i).toNat)
    case atStart => exact ⟨0, by omega, rfl, rfl⟩
    case round =>
      obtain ⟨k, hk, rfl, HR⟩ := hrel
      by_cases h1 : k < xs.length
      · have hd1 : decide ((k : Int) < (xs.length : Int)) = true := by simp; omega
        have pa := hide (PA.out k)
        have pb := hide (PB.out k)
        have cc := hide (CC.out k)
        have hX := HS.out k h1
        generalize locO (xs.getD k d.data.toList) (ys.getD k d.data.toList) = O at *
        generalize ofL (xs.getD k d.data.toList) = x at *
        generalize ofL (ys.getD k d.data.toList) = y at *
        by_cases h0 : O = 0
        · subst h0
          rw [if_pos rfl] at hX
          have HX := hide hX
          clear hX
          go_wp2_with fail
          refine pa.out.mono ?_
          rintro e w' ⟨rfl, hw'⟩
          rw [hw']
          clear hw' w'
          go_wp2_with fail
          refine pb.out.mono ?_
          rintro e w' ⟨rfl, hw'⟩
          rw [hw']
          clear hw' w'
          go_wp2_with fail
          refine cc.out.mono ?_
          rintro e w' ⟨rfl, hw'⟩
          rw [hw']
          clear hw' w'
          go_wp2_with fail
          go_round
          case rel => exact ⟨k + 1, by omega, by go_num, by show _ = _; rw [HR.out, HX.out]⟩
          case measure => simp [intOf]; omega
        · rw [if_neg h0] at hX
          have hb0 : (O != 0) = true := by simpa using h0
          have HX := hide hX
          clear hX h0
          go_wp2_with fail
          refine pa.out.mono ?_
          rintro e w' ⟨rfl, hw'⟩
          rw [hw']
          clear hw' w'
          go_wp2_with fail
          refine pb.out.mono ?_
          rintro e w' ⟨rfl, hw'⟩
          rw [hw']
          clear hw' w'
          go_wp2_with fail
          refine cc.out.mono ?_
          rintro e w' ⟨rfl, hw'⟩
          rw [hw']
          clear hw' w'
          go_wp2_with fail
          go_ret
          exact ⟨ret_i (by rw [HR.out, HX.out]), rfl⟩
      · have hd1 : decide ((k : Int) < (xs.length : Int)) = false := by simp; omega
        have hd3 : ¬ ((k : Int) < (xs.length : Int)) := by omega
        have HX := hide (HE.out k (by omega))
        go_wp2_with fail
        go_ret
        exact ⟨ret_i (by rw [HR.out, HX.out]), rfl⟩

end Go.Proofs.YtagnikhkmaplpaaGreat
