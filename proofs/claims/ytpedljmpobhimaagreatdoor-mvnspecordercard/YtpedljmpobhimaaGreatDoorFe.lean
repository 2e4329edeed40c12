/-
  Walks: the document's order of versions and of texts.
-/
import Derived.Test.YtpedljmpobhimaaGreatDoorLe
import Derived.Test.YtpedljmpobhimaaGreatDoorFc
import Derived.Test.YtpedljmpobhimaaGreatDoorEe
namespace Go.Proofs.YtpedljmpobhimaaGreatDoor
open Go.RowKit Go.Shelf
set_option linter.unusedVariables false

theorem stepW {w wr W2 w2 : World} (hB : Below w.heap.size w wr) (bW : Below wr.heap.size wr W2) (b2 : Below W2.heap.size W2 w2) : Below w.heap.size w w2 := hB.trans ((bW.trans (b2.mono bW.size)).mono hB.size)
theorem head_get (xs : List Tok) : xs.getD 0 nilT = xs.headD nilT := by cases xs <;> rfl

set_option maxRecDepth 100000 in
set_option maxHeartbeats 8000000 in
theorem ROrder_any (a1 a2 : Option Addr) (n1 n2 c1 c2 : Nat) (xs ys : List Tok) (w : World) (hX : Toks w (.slice a1 n1 c1) xs) (hY : Toks w (.slice a2 n2 c2) ys) (h1 : n1 ≤ 1048576) (h2 : n2 ≤ 1048576) (f1 : ∀ t ∈ xs, t.text.length ≤ 1048576) (f2 : ∀ t ∈ ys, t.text.length ≤ 1048576) :
    Calls Tryz.prog 42 #[.slice a1 n1 c1, .slice a2 n2 c2] w fun e w' => e = .returned (.int .i64 (ordF xs ys)) ∧ Below w.heap.size w w' := by
  have FX := fun w hT => RFit_any a1 n1 c1 xs w hT h1 f1
  have FY := fun w hT => RFit_any a2 n2 c2 ys w hT h2 f2
  rw [← fit_doc] at FX FY
  have FX := hide FX
  have FY := hide FY
  have HL1 := hide (toks_n hX)
  have HL2 := hide (toks_n hY)
  have HX := hide hX
  have HY := hide hY
  have G1 : Hid (∀ i, (xs.getD i nilT).text.length ≤ 1048576) := fun i => by
    by_cases hk : i < xs.length
    · rw [List.getD_eq_getElem?_getD, List.getElem?_eq_getElem hk]; exact f1 _ (List.getElem_mem hk)
    · rw [List.getD_eq_getElem?_getD, List.getElem?_eq_none (by omega)]; simp [nilT]
  have G2 : Hid (∀ i, (ys.getD i nilT).text.length ≤ 1048576) := fun i => by
    by_cases hk : i < ys.length
    · rw [List.getD_eq_getElem?_getD, List.getElem?_eq_getElem hk]; exact f2 _ (List.getElem_mem hk)
    · rw [List.getD_eq_getElem?_getD, List.getElem?_eq_none (by omega)]; simp [nilT]
  have HV : Hid (ordF xs ys = if fitB xs && fitB ys then ordL xs ys else 0) := rfl
  have HD : Hid (fitB xs = true → fitB ys = true → ∀ i : Nat, ((i : Int) == 0) = true → (xs.getD i nilT).dash = false ∧ (ys.getD i nilT).dash = false) := fun h3 h4 i hi => by
    have : i = 0 := by have := beq_iff_eq.1 hi; omega
    subst this
    rw [head_get, head_get]
    exact ⟨fit_dash h3, fit_dash h4⟩
  clear hX hY f1 f2
  generalize ordF xs ys = R at *
  generalize fitB xs = p at *
  generalize fitB ys = q at *
  cases p
  · go_enter Tryz.func42, Tryz.ntmps42
    go_wp2_with fail
    refine (FX.out _ HX.out).mono ?_
    rintro e w1 ⟨rfl, b1⟩
    go_wp2_with fail
    go_ret
    exact ⟨ret_i HV.out.symm, b1⟩
  · cases q
    · go_enter Tryz.func42, Tryz.ntmps42
      go_wp2_with fail
      refine (FX.out _ HX.out).mono ?_
      rintro e w1 ⟨rfl, b1⟩
      go_wp2_with fail
      refine (FY.out _ (HY.out.below b1)).mono ?_
      rintro e w2 ⟨rfl, b2⟩
      go_wp2_with fail
      go_ret
      exact ⟨ret_i HV.out.symm, b1.trans (b2.mono b1.size)⟩
    · have HD2 := hide (HD.out (by simp) (by simp))
      clear HD
      obtain ⟨M, hM1, hM2, hM3⟩ : ∃ M, n1 ≤ M ∧ n2 ≤ M ∧ (M = n1 ∨ M = n2) := ⟨max n1 n2, Nat.le_max_left _ _, Nat.le_max_right _ _, by omega⟩
      have HV2 : Hid (R = ordN (M - 0) (xs.drop 0) (ys.drop 0)) := by
        show _ = _
        rw [HV.out]
        show ordL xs ys = _
        unfold ordL
        rw [HL1.out, HL2.out, show max n1 n2 = M by omega]
        rfl
      go_enter Tryz.func42, Tryz.ntmps42
      go_wp2_with fail
      refine (FX.out _ HX.out).mono ?_
      rintro e w1 ⟨rfl, b1⟩
      go_wp2_with fail
      refine (FY.out _ (HY.out.below b1)).mono ?_
      rintro e w2 ⟨rfl, b2⟩
      have b12 := b1.trans (b2.mono b1.size)
      clear FX FY b1 b2
      go_wp2_with fail
      go_loopw [5] (fun y wr => ∃ i : Nat, i ≤ M ∧ y = .int .i64 i ∧ Below w.heap.size w wr ∧ Hid (R = ordN (M - i) (xs.drop i) (ys.drop i))) (fun y _ => M - (intOf y).toNat)
      case atStart => exact ⟨0, by omega, rfl, b12, HV2⟩
      case round =>
        clear HV HV2 b12
        obtain ⟨i, hi, rfl, hB, HR⟩ := hrel
        by_cases hiM : i < M
        · have HS := hide (ordN_drop xs ys i (M - i - 1))
          have hmk : M - i = M - i - 1 + 1 := by omega
          rw [hmk] at HR
          have hm2 : M - i - 1 = M - (i + 1) := by omega
          rw [hm2] at HR HS
          have ON := fun w => Rone_any (xs.getD i nilT) (ys.getD i nilT) ((i : Int) == 0) w (HD2.out i) (G1.out i) (G2.out i)
          have HX1 : Hid (i < n1 → xs.getD i nilT = xs[i]?.getD nilT) := fun h => List.getD_eq_getElem?_getD ..
          have hwr := hB.size
          clear hm2 hmk
          by_cases hi1 : i < n1
          · have hi1' : (i : Int) < (n1 : Int) := by omega
            have j1 : i < xs.length := by rw [HL1.out]; exact hi1
            obtain ⟨g1, o1, rfl, q1, d1⟩ := toks_at (HX.out.below hB) (by omega)
            obtain ⟨e0, e1, e2⟩ := d1 i j1
            have hg : xs.getD i nilT = xs[i] := by rw [List.getD_eq_getElem?_getD, List.getElem?_eq_getElem j1]; rfl
            rw [hg] at ON HS
            have hg1 : g1 ≠ wr.heap.size := by omega
            have hg2 : g1 ≠ wr.heap.size + 1 := by omega
            have hg3 : g1 < wr.heap.size + 1 := by omega
            clear d1 hg
            by_cases hi2 : i < n2
            · have hi2' : (i : Int) < (n2 : Int) := by omega
              have j2 : i < ys.length := by rw [HL2.out]; exact hi2
              obtain ⟨k1, r1, rfl, q2, d2⟩ := toks_at (HY.out.below hB) (by omega)
              obtain ⟨u0, u1, u2⟩ := d2 i j2
              have hg : ys.getD i nilT = ys[i] := by rw [List.getD_eq_getElem?_getD, List.getElem?_eq_getElem j2]; rfl
              rw [hg] at ON HS
              have hk1 : k1 ≠ wr.heap.size := by omega
              have hk2 : k1 ≠ wr.heap.size + 1 := by omega
              have hk3 : k1 < wr.heap.size + 1 := by omega
              clear d2 hg
              generalize xs[i] = x at *
              generalize ys[i] = y at *
              unfold tokV at ON
              clear j1 j2
              have ON := hide ON
              generalize ordT x y = O at *
              by_cases h0 : O = 0
              · subst h0
                have HZ : Hid (R = ordN (M - (i + 1)) (xs.drop (i + 1)) (ys.drop (i + 1))) := by show _ = _; rw [HR.out, HS.out, if_pos rfl]
                clear HR HS
                go_wp2_with fail
                refine (ON.out _).mono ?_
                rintro e w3 ⟨rfl, b3⟩
                have hB3 := stepW hB (by
                  repeat (first | exact Below.refl _ _ | refine Below.setCell (p := ⟨_, _, none⟩) ?_ (by simp) _ | refine Below.alloc ?_ (by simp) _ | refine Below.alloc ?_ (by simp; omega) _)) b3
                go_wp2_with fail
                go_roundw
                case rel => exact ⟨i + 1, by omega, by go_num, hB3, HZ⟩
                case measure => simp [intOf]; omega
              · have HZ : Hid (R = O) := by show _ = _; rw [HR.out, HS.out, if_neg h0]
                have hb0 : (O != 0) = true := by simpa using h0
                clear HR HS h0
                go_wp2_with fail
                refine (ON.out _).mono ?_
                rintro e w3 ⟨rfl, b3⟩
                have hB3 := stepW hB (by
                  repeat (first | exact Below.refl _ _ | refine Below.setCell (p := ⟨_, _, none⟩) ?_ (by simp) _ | refine Below.alloc ?_ (by simp) _ | refine Below.alloc ?_ (by simp; omega) _)) b3
                go_wp2_with fail
                go_ret
                exact ⟨ret_i HZ.out.symm, hB3⟩
            · have hi2' : ¬ (i : Int) < (n2 : Int) := by omega
              have hg : ys.getD i nilT = nilT := by rw [List.getD_eq_getElem?_getD, List.getElem?_eq_none (by rw [HL2.out]; omega)]; rfl
              rw [hg] at ON HS
              clear hg
              generalize xs[i] = x at *
              have ON : ∀ w, Calls Tryz.prog 67 #[tokV x, .agg #[.bool false, .bool false, .string ⟨#[]⟩], .bool ((i : Int) == 0)] w fun e w' => e = .returned (.int .i64 (ordT x nilT)) ∧ Below w.heap.size w w' := ON
              generalize nilT = y at *
              unfold tokV at ON
              clear j1
              have ON := hide ON
              generalize ordT x y = O at *
              by_cases h0 : O = 0
              · subst h0
                have HZ : Hid (R = ordN (M - (i + 1)) (xs.drop (i + 1)) (ys.drop (i + 1))) := by show _ = _; rw [HR.out, HS.out, if_pos rfl]
                clear HR HS
                go_wp2_with fail
                refine (ON.out _).mono ?_
                rintro e w3 ⟨rfl, b3⟩
                have hB3 := stepW hB (by
                  repeat (first | exact Below.refl _ _ | refine Below.setCell (p := ⟨_, _, none⟩) ?_ (by simp) _ | refine Below.alloc ?_ (by simp) _ | refine Below.alloc ?_ (by simp; omega) _)) b3
                go_wp2_with fail
                go_roundw
                case rel => exact ⟨i + 1, by omega, by go_num, hB3, HZ⟩
                case measure => simp [intOf]; omega
              · have HZ : Hid (R = O) := by show _ = _; rw [HR.out, HS.out, if_neg h0]
                have hb0 : (O != 0) = true := by simpa using h0
                clear HR HS h0
                go_wp2_with fail
                refine (ON.out _).mono ?_
                rintro e w3 ⟨rfl, b3⟩
                have hB3 := stepW hB (by
                  repeat (first | exact Below.refl _ _ | refine Below.setCell (p := ⟨_, _, none⟩) ?_ (by simp) _ | refine Below.alloc ?_ (by simp) _ | refine Below.alloc ?_ (by simp; omega) _)) b3
                go_wp2_with fail
                go_ret
                exact ⟨ret_i HZ.out.symm, hB3⟩
          · have hi1' : ¬ (i : Int) < (n1 : Int) := by omega
            have hi2 : i < n2 := by omega
            have hi2' : (i : Int) < (n2 : Int) := by omega
            have hg : xs.getD i nilT = nilT := by rw [List.getD_eq_getElem?_getD, List.getElem?_eq_none (by rw [HL1.out]; omega)]; rfl
            rw [hg] at ON HS
            clear hg
            have j2 : i < ys.length := by rw [HL2.out]; exact hi2
            obtain ⟨k1, r1, rfl, q2, d2⟩ := toks_at (HY.out.below hB) (by omega)
            obtain ⟨u0, u1, u2⟩ := d2 i j2
            have hg : ys.getD i nilT = ys[i] := by rw [List.getD_eq_getElem?_getD, List.getElem?_eq_getElem j2]; rfl
            rw [hg] at ON HS
            have hk1 : k1 ≠ wr.heap.size := by omega
            have hk2 : k1 ≠ wr.heap.size + 1 := by omega
            have hk3 : k1 < wr.heap.size + 1 := by omega
            clear d2 hg
            generalize ys[i] = y at *
            have ON : ∀ w, Calls Tryz.prog 67 #[.agg #[.bool false, .bool false, .string ⟨#[]⟩], tokV y, .bool ((i : Int) == 0)] w fun e w' => e = .returned (.int .i64 (ordT nilT y)) ∧ Below w.heap.size w w' := ON
            generalize nilT = x at *
            unfold tokV at ON
            clear j2
            have ON := hide ON
            generalize ordT x y = O at *
            by_cases h0 : O = 0
            · subst h0
              have HZ : Hid (R = ordN (M - (i + 1)) (xs.drop (i + 1)) (ys.drop (i + 1))) := by show _ = _; rw [HR.out, HS.out, if_pos rfl]
              clear HR HS
              go_wp2_with fail
              refine (ON.out _).mono ?_
              rintro e w3 ⟨rfl, b3⟩
              have hB3 := stepW hB (by
                repeat (first | exact Below.refl _ _ | refine Below.setCell (p := ⟨_, _, none⟩) ?_ (by simp) _ | refine Below.alloc ?_ (by simp) _ | refine Below.alloc ?_ (by simp; omega) _)) b3
              go_wp2_with fail
              go_roundw
              case rel => exact ⟨i + 1, by omega, by go_num, hB3, HZ⟩
              case measure => simp [intOf]; omega
            · have HZ : Hid (R = O) := by show _ = _; rw [HR.out, HS.out, if_neg h0]
              have hb0 : (O != 0) = true := by simpa using h0
              clear HR HS h0
              go_wp2_with fail
              refine (ON.out _).mono ?_
              rintro e w3 ⟨rfl, b3⟩
              have hB3 := stepW hB (by
                repeat (first | exact Below.refl _ _ | refine Below.setCell (p := ⟨_, _, none⟩) ?_ (by simp) _ | refine Below.alloc ?_ (by simp) _ | refine Below.alloc ?_ (by simp; omega) _)) b3
              go_wp2_with fail
              go_ret
              exact ⟨ret_i HZ.out.symm, hB3⟩
        · have hi1' : ¬ (i : Int) < (n1 : Int) := by omega
          have hi2' : ¬ (i : Int) < (n2 : Int) := by omega
          have HZ : Hid (R = 0) := by show _ = _; rw [HR.out, show M - i = 0 by omega]; rfl
          go_wp2_with fail
          go_ret
          exact ⟨ret_i HZ.out.symm, hB⟩

end Go.Proofs.YtpedljmpobhimaaGreatDoor
