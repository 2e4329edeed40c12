/-
  Walks: digits, numbers with a nought ahead, identifiers, what is wrong at a place, in the program and in the document's answer.
-/
import Derived.Test.YtaflflelcdcanaaGreatZWd
import Derived.Test.YtaflflelcdcanaaGreatZPlainS
namespace Go.Proofs.YtaflflelcdcanaaGreat
open Go.RowKit
set_option linter.unusedVariables false

theorem eqE (s : ByteArray) (h : 0 < s.size) : (s.toList == []) = false := by
  rw [toL]
  rw [← len_data] at h
  cases hl : s.data.toList with
  | nil => rw [hl] at h; simp at h
  | cons c r => rfl
theorem emp (s : ByteArray) (h : 0 < s.size) : s.data.toList.isEmpty = false := by
  rw [← len_data] at h
  cases hl : s.data.toList with
  | nil => rw [hl] at h; simp at h
  | cons c r => rfl
theorem size0 (s : ByteArray) (h : ¬ 0 < s.size) : s = ⟨#[]⟩ := by
  cases s with | mk d =>
    have : d.size = 0 := by simpa [ByteArray.size] using h
    rw [Array.eq_empty_of_size_eq_zero this]

set_option maxHeartbeats 400000 in
theorem digits_any (s : ByteArray) (w : World) (hs : s.size ≤ maxLen) :
    Calls Tryz.prog 102 #[.string s] w fun e w' => e = .returned (.bool (digB s.data.toList)) ∧ w' = w := by
  by_cases hp : 0 < s.size
  · have hb := eqE s hp
    have hI : runI s.data.toList 0 1 = (runL 1 s.data.toList : Int) := by have := runI_in s 0 1 (by omega); simpa using this
    have HI := hide hI
    have HE := hide (emp s hp)
    clear hI
    go_enter Tryz.func102, Tryz.ntmps102
    go_wp2_with fail
    refine (Run_any _ _ _ _ hs).mono ?_
    rintro e w' ⟨rfl, rfl⟩
    go_wp2_with fail
    go_ret
    refine ⟨ret_b ?_, rfl⟩
    rw [digB, HE.out, HI.out, len_data]
    simp
    rw [Bool.eq_iff_iff]
    simp
    omega
  · have := size0 s hp
    subst this
    go_enter Tryz.func102, Tryz.ntmps102
    go_wp2_with fail
    go_ret
    exact ⟨rfl, rfl⟩

theorem head_at (s : ByteArray) (h : 0 < s.size) : s.data.toList.head? = some s[0] := by
  have := drop_at s 0 h
  rw [List.drop_zero] at this
  rw [this]; rfl

set_option maxHeartbeats 400000 in
theorem zeroAhead_any (s : ByteArray) (w : World) (hs : s.size ≤ maxLen) :
    Calls Tryz.prog 103 #[.string s] w fun e w' => e = .returned (.bool (zeroB s.data.toList)) ∧ w' = w := by
  have HZ : Hid (zeroB s.data.toList = (decide (1 < s.data.toList.length) && (s.data.toList.head? == some 48) && digB s.data.toList)) := rfl
  generalize zeroB s.data.toList = Z at *
  by_cases h1 : 1 < s.size
  · have HH := hide (head_at s (by omega))
    by_cases h2 : s[0] = 48
    · have hb : ((s[0].toNat : Int) == 48) = true := by rw [h2]; rfl
      have H2 := hide h2
      clear h2
      have h0 : 0 < s.size := by omega
      go_enter Tryz.func103, Tryz.ntmps103
      go_wp2_with fail
      refine (digits_any _ _ hs).mono ?_
      rintro e w' ⟨rfl, rfl⟩
      go_wp2_with fail
      go_ret
      exact ⟨ret_b (by rw [HZ.out, HH.out, len_data, H2.out]; simp [h1]), rfl⟩
    · have hb : ((s[0].toNat : Int) == 48) = false := by
        have : s[0].toNat ≠ 48 := fun e => h2 (UInt8.toNat_inj.1 e)
        simp; omega
      have H2 := hide h2
      clear h2
      have h0 : 0 < s.size := by omega
      go_enter Tryz.func103, Tryz.ntmps103
      go_wp2_with fail
      go_ret
      exact ⟨ret_b (by rw [HZ.out, HH.out]; simp [H2.out]), rfl⟩
  · go_enter Tryz.func103, Tryz.ntmps103
    go_wp2_with fail
    go_ret
    exact ⟨ret_b (by rw [HZ.out, len_data]; simp [h1]), rfl⟩

set_option maxHeartbeats 400000 in
theorem isNumber_any (s : ByteArray) (w : World) (hs : s.size ≤ maxLen) :
    Calls Tryz.prog 67 #[.string s] w fun e w' => e = .returned (.bool (numB s.data.toList)) ∧ w' = w := by
  have HZ : Hid (numB s.data.toList = (digB s.data.toList && !zeroB s.data.toList)) := rfl
  have D := hide (fun w => digits_any s w hs)
  have Z := hide (fun w => zeroAhead_any s w hs)
  generalize numB s.data.toList = X at *
  generalize digB s.data.toList = d at *
  generalize zeroB s.data.toList = z at *
  cases d
  · go_enter Tryz.func67, Tryz.ntmps67
    go_wp2_with fail
    refine (D.out _).mono ?_
    rintro e w' ⟨rfl, rfl⟩
    go_wp2_with fail
    go_ret
    exact ⟨ret_b (by rw [HZ.out]; rfl), rfl⟩
  · go_enter Tryz.func67, Tryz.ntmps67
    go_wp2_with fail
    refine (D.out _).mono ?_
    rintro e w' ⟨rfl, rfl⟩
    go_wp2_with fail
    refine (Z.out _).mono ?_
    rintro e w' ⟨rfl, rfl⟩
    go_wp2_with fail
    go_ret
    exact ⟨ret_b (by rw [HZ.out]; rfl), rfl⟩

theorem isId_dash (c : UInt8) (h : c = 45) : isId c = true := by subst h; rfl
theorem isId_not (c : UInt8) (h : c ≠ 45) : isId c = isC (c.toNat : Int) 5 := by
  unfold isId
  have : (c == 45) = false := by simpa using h
  rw [this, Bool.false_or]

set_option maxHeartbeats 400000 in
theorem identifierEnd_any (s : ByteArray) (a : Nat) (w : World) (hs : s.size ≤ 9223372036854775806) (ha : a ≤ s.size) :
    Calls Tryz.prog 104 #[.string s, .int .i64 (a : Int)] w fun e w' => e = .returned (.int .i64 ((a + idL (s.data.toList.drop a) : Nat) : Int)) ∧ w' = w := by
  go_enter Tryz.func104, Tryz.ntmps104
  go_wp2_with fail
  go_loop [1] (fun i => ∃ j : Nat, a ≤ j ∧ j ≤ s.size ∧ i = .int .i64 j ∧ Hid (a + idL (s.data.toList.drop a) = j + idL (s.data.toList.drop j))) (fun i => s.size - (intOf i).toNat)
  case atStart => exact ⟨a, Nat.le_refl _, ha, rfl, rfl⟩
  case round =>
    obtain ⟨j, haj, hj, rfl, HR⟩ := hrel
    by_cases hlt : j < s.size
    · by_cases h45 : s[j] = 45
      · have hb : ((s[j].toNat : Int) == 45) = true := by rw [h45]; rfl
        have HX := hide (idL_hit s j hlt (isId_dash _ h45))
        clear h45
        go_wp2_with fail
        go_round
        case rel => exact ⟨j + 1, by omega, by omega, by go_num, by have x := HX.out; have y := HR.out; show _ = _; omega⟩
        case measure => simp [intOf]; omega
      · have hb : ((s[j].toNat : Int) == 45) = false := by
          have : s[j].toNat ≠ 45 := fun e => h45 (UInt8.toNat_inj.1 e)
          simp; omega
        have hI := isId_not _ h45
        clear h45
        by_cases hc : isC (s[j].toNat : Int) 5 = true
        · have HX := hide (idL_hit s j hlt (by rw [hI]; exact hc))
          clear hI
          go_wp2_with (go_at_call 55; refine (Is_any _ _ _).mono ?_; rintro e w' ⟨rfl, rfl⟩)
          go_round
          case rel => exact ⟨j + 1, by omega, by omega, by go_num, by have x := HX.out; have y := HR.out; show _ = _; omega⟩
          case measure => simp [intOf]; omega
        · have hc' : isC (s[j].toNat : Int) 5 = false := by simpa using hc
          have HX := hide (idL_miss s j hlt (by rw [hI]; exact hc'))
          clear hI
          go_wp2_with (go_at_call 55; refine (Is_any _ _ _).mono ?_; rintro e w' ⟨rfl, rfl⟩)
          go_ret
          exact ⟨ret_i (by have x := HX.out; have y := HR.out; omega), rfl⟩
    · have HX := hide (idL_end s j (by omega))
      go_wp2_with fail
      go_ret
      exact ⟨ret_i (by have x := HX.out; have y := HR.out; omega), rfl⟩

set_option maxHeartbeats 400000 in
theorem misfit_any (s : ByteArray) (a : Nat) (w : World) :
    Calls Tryz.prog 57 #[.string s, .int .i64 (a : Int)] w fun e w' => e = .returned (.int .i64 (misL s.size a)) ∧ w' = w := by
  by_cases h : a = s.size
  · have hb : ((a : Int) == (s.size : Int)) = true := by simp; omega
    have HM : Hid (misL s.size a = 11) := if_pos h
    clear h
    go_enter Tryz.func57, Tryz.ntmps57
    go_wp2_with fail
    go_ret
    exact ⟨ret_i HM.out.symm, rfl⟩
  · have hb : ((a : Int) == (s.size : Int)) = false := by simp; omega
    have HM : Hid (misL s.size a = 10) := if_neg h
    clear h
    go_enter Tryz.func57, Tryz.ntmps57
    go_wp2_with fail
    go_ret
    exact ⟨ret_i HM.out.symm, rfl⟩

theorem at_some (s : ByteArray) (e : Nat) (h : e < s.size) : s.data.toList[e]? = some s[e] := by
  rw [List.getElem?_eq_getElem (by rw [len_data]; exact h)]; rfl
theorem at_none (s : ByteArray) (e : Nat) (h : ¬ e < s.size) : s.data.toList[e]? = none := by
  rw [List.getElem?_eq_none (by rw [len_data]; omega)]

theorem ne_byte {c : UInt8} {k : Nat} (hk : k < 256) (h : c ≠ UInt8.ofNat k) : ((c.toNat : Int) == (k : Int)) = false := by
  have : c.toNat ≠ k := fun e => h (UInt8.toNat_inj.1 (by rw [e, UInt8.toNat_ofNat']; omega))
  simp; omega

set_option maxHeartbeats 1000000 in
theorem wrong_any (s x : ByteArray) (a : Nat) (p : Bool) (w : World) (hs : s.size ≤ maxLen) (hx : x.size ≤ maxLen) :
    Calls Tryz.prog 74 #[.string s, .string x, .int .i64 (a : Int), .bool p] w fun e w' => e = .returned (.int .i64 (wrongL p s.data.toList x.data.toList a)) ∧ w' = w := by
  have hW : wrongL p s.data.toList x.data.toList a = if x.data.toList = [] then misL s.size a else if !p || !zeroB x.data.toList then 0 else if s.data.toList[a]? = some 46 ∨ s.data.toList[a]? = some 43 then 14 else misL s.size a := by rw [wrongL, len_data]
  generalize wrongL p s.data.toList x.data.toList a = R at *
  by_cases hp : 0 < x.size
  · have hb := eqE x hp
    have hne : ¬ x.data.toList = [] := by
      have := emp x hp
      intro e; rw [e] at this; simp at this
    rw [if_neg hne] at hW
    clear hne
    have Z := hide (fun w => zeroAhead_any x w hx)
    generalize zeroB x.data.toList = z at *
    cases p
    · have HW := hide hW
      clear hW
      go_enter Tryz.func74, Tryz.ntmps74
      go_wp2_with fail
      go_ret
      exact ⟨ret_i (by rw [HW.out]; rfl), rfl⟩
    · cases z
      · have HW := hide hW
        clear hW
        go_enter Tryz.func74, Tryz.ntmps74
        go_wp2_with fail
        refine (Z.out _).mono ?_
        rintro e w' ⟨rfl, rfl⟩
        go_wp2_with fail
        go_ret
        exact ⟨ret_i (by rw [HW.out]; rfl), rfl⟩
      · rw [if_neg (by decide)] at hW
        by_cases hlt : a < s.size
        · rw [at_some s a hlt] at hW
          by_cases h46 : s[a] = 46
          · rw [if_pos (.inl (by rw [h46]))] at hW
            have c1 : ((s[a].toNat : Int) == 46) = true := by rw [h46]; rfl
            have HW := hide hW
            clear hW h46
            go_enter Tryz.func74, Tryz.ntmps74
            go_wp2_with fail
            refine (Z.out _).mono ?_
            rintro e w' ⟨rfl, rfl⟩
            go_wp2_with fail
            go_ret
            exact ⟨ret_i HW.out.symm, rfl⟩
          · have c1 : ((s[a].toNat : Int) == 46) = false := ne_byte (k := 46) (by omega) h46
            by_cases h43 : s[a] = 43
            · rw [if_pos (.inr (by rw [h43]))] at hW
              have c2 : ((s[a].toNat : Int) == 43) = true := by rw [h43]; rfl
              have HW := hide hW
              clear hW h43 h46
              go_enter Tryz.func74, Tryz.ntmps74
              go_wp2_with fail
              refine (Z.out _).mono ?_
              rintro e w' ⟨rfl, rfl⟩
              go_wp2_with fail
              go_ret
              exact ⟨ret_i HW.out.symm, rfl⟩
            · have c2 : ((s[a].toNat : Int) == 43) = false := ne_byte (k := 43) (by omega) h43
              rw [if_neg (by simp [h46, h43])] at hW
              have HW := hide hW
              clear hW h43 h46
              go_enter Tryz.func74, Tryz.ntmps74
              go_wp2_with fail
              refine (Z.out _).mono ?_
              rintro e w' ⟨rfl, rfl⟩
              go_wp2_with fail
              refine (misfit_any _ _ _).mono ?_
              rintro e w' ⟨rfl, rfl⟩
              go_wp2_with fail
              go_ret
              exact ⟨ret_i HW.out.symm, rfl⟩
        · rw [at_none s a hlt, if_neg (by simp)] at hW
          have HW := hide hW
          clear hW
          go_enter Tryz.func74, Tryz.ntmps74
          go_wp2_with fail
          refine (Z.out _).mono ?_
          rintro e w' ⟨rfl, rfl⟩
          go_wp2_with fail
          refine (misfit_any _ _ _).mono ?_
          rintro e w' ⟨rfl, rfl⟩
          go_wp2_with fail
          go_ret
          exact ⟨ret_i HW.out.symm, rfl⟩
  · have := size0 x hp
    subst this
    rw [if_pos rfl] at hW
    have HW := hide hW
    clear hW
    go_enter Tryz.func74, Tryz.ntmps74
    go_wp2_with fail
    refine (misfit_any _ _ _).mono ?_
    rintro e w' ⟨rfl, rfl⟩
    go_wp2_with fail
    go_ret
    exact ⟨ret_i HW.out.symm, rfl⟩

set_option maxHeartbeats 400000 in
theorem isIdentifier_any (s : ByteArray) (w : World) (hs : s.size ≤ 9223372036854775806) :
    Calls Tryz.prog 70 #[.string s] w fun e w' => e = .returned (.bool (idB s.data.toList)) ∧ w' = w := by
  have hI : idB s.data.toList = (!s.data.toList.isEmpty && (idL s.data.toList == s.data.toList.length)) := rfl
  generalize idB s.data.toList = X at *
  by_cases hp : 0 < s.size
  · have hb := eqE s hp
    rw [emp s hp, len_data] at hI
    have I := identifierEnd_any s 0 w hs (by omega)
    simp only [List.drop_zero, Nat.zero_add] at I
    have HI := hide hI
    clear hI
    have HC := hide I
    clear I
    go_enter Tryz.func70, Tryz.ntmps70
    go_wp2_with fail
    refine HC.out.mono ?_
    rintro e w' ⟨rfl, rfl⟩
    go_wp2_with fail
    go_ret
    refine ⟨ret_b ?_, rfl⟩
    rw [HI.out, Bool.eq_iff_iff]
    simp
    omega
  · have := size0 s hp
    subst this
    have HI := hide hI
    clear hI
    go_enter Tryz.func70, Tryz.ntmps70
    go_wp2_with fail
    go_ret
    exact ⟨ret_b HI.out.symm, rfl⟩

set_option maxHeartbeats 400000 in
theorem fitsPre_any (s : ByteArray) (w : World) (hs : s.size ≤ 9223372036854775806) :
    Calls Tryz.prog 69 #[.string s] w fun e w' => e = .returned (.bool (preB s.data.toList)) ∧ w' = w := by
  have HZ : Hid (preB s.data.toList = (idB s.data.toList && !zeroB s.data.toList)) := rfl
  have D := hide (fun w => isIdentifier_any s w hs)
  have Z := hide (fun w => zeroAhead_any s w (by unfold maxLen; omega))
  generalize preB s.data.toList = X at *
  generalize idB s.data.toList = d at *
  generalize zeroB s.data.toList = z at *
  cases d
  · go_enter Tryz.func69, Tryz.ntmps69
    go_wp2_with fail
    refine (D.out _).mono ?_
    rintro e w' ⟨rfl, rfl⟩
    go_wp2_with fail
    go_ret
    exact ⟨ret_b (by rw [HZ.out]; rfl), rfl⟩
  · go_enter Tryz.func69, Tryz.ntmps69
    go_wp2_with fail
    refine (D.out _).mono ?_
    rintro e w' ⟨rfl, rfl⟩
    go_wp2_with fail
    refine (Z.out _).mono ?_
    rintro e w' ⟨rfl, rfl⟩
    go_wp2_with fail
    go_ret
    exact ⟨ret_b (by rw [HZ.out]; rfl), rfl⟩

end Go.Proofs.YtaflflelcdcanaaGreat
