/-
  Walks: a version, or none, with blanks around; a comma between two ranges.
-/
import Derived.Test.YtpedljmpobhimaaDoorHd
import Derived.OwnWalk
namespace Go.Proofs.YtpedljmpobhimaaDoor
open Go.RowKit Go.Shelf
set_option linter.unusedVariables false

theorem ver_text (s : ByteArray) (a b : Nat) (hb : b = a + blN (s.data.toList.drop a)) : s.extract b (b + veN (s.data.toList.drop b)) = ofL (verAt (s.data.toList.drop a)) := by
  subst hb
  rw [extract_ofL]
  congr 1
  unfold verAt
  rw [List.drop_drop, List.drop_take, Nat.add_sub_cancel_left]
theorem verAt_len (r : List UInt8) : (verAt r).length = veN (r.drop (blN r)) := by
  unfold verAt
  rw [List.length_take, Nat.min_eq_left (ve_le _)]
theorem ofL_nil : ofL [] = ⟨#[]⟩ := rfl

set_option maxRecDepth 100000 in
set_option maxHeartbeats 2000000 in
theorem readVersion_any (s : ByteArray) (a : Nat) (w : World) (hs : s.size ≤ 256) (ha : a ≤ s.size) (hk : Kn w) :
    Calls Tryd.prog 23 #[.string s, .int .i64 (a : Int)] w fun e w' => e = .returned (.tuple #[.string (ofL (rvR (s.data.toList.drop a)).v), .int .i64 ((a + (rvR (s.data.toList.drop a)).k : Nat) : Int), .int .i64 (rvR (s.data.toList.drop a)).err]) ∧ Below w.heap.size w w' := by
  have R1 := hide (Run6 s a hs ha)
  have hb := bl_le s a ha
  have VE := hide (fun W => versionEnd_any s (a + blN (s.data.toList.drop a)) W hs hb)
  have hX : rvR (s.data.toList.drop a) = if verAt (s.data.toList.drop a) ≠ [] ∧ isVer (verAt (s.data.toList.drop a)) = false then ⟨19, [], blN (s.data.toList.drop a)⟩
    else ⟨0, verAt (s.data.toList.drop a), blN (s.data.toList.drop a) + (verAt (s.data.toList.drop a)).length + blN (s.data.toList.drop (a + (blN (s.data.toList.drop a) + (verAt (s.data.toList.drop a)).length)))⟩ := by
    unfold rvR; rw [List.drop_drop]
  have hT := ver_text s a _ rfl
  have hL := verAt_len (s.data.toList.drop a)
  rw [List.drop_drop] at hL
  have hle := ve_le (s.data.toList.drop (a + blN (s.data.toList.drop a)))
  rw [← hL] at hT hle VE
  rw [List.length_drop, len_data] at hle
  have IV := hide (fun W (hW : Kn W) => (by have := isVersion_any (ofL (verAt (s.data.toList.drop a))) W hW; rw [ofL_data] at this; exact this : Calls Tryd.prog 36 #[.string (ofL (verAt (s.data.toList.drop a)))] W fun e w' => e = .returned (.bool (isVer (verAt (s.data.toList.drop a)))) ∧ Below W.heap.size W w'))
  generalize rvR (s.data.toList.drop a) = X at *
  generalize verAt (s.data.toList.drop a) = V at *
  obtain ⟨b, hbe⟩ : ∃ b, b = a + blN (s.data.toList.drop a) := ⟨_, rfl⟩
  have hke : blN (s.data.toList.drop a) = b - a := by omega
  rw [hke] at hX
  rw [← hbe] at R1 VE hT hle hb
  have hab : a + (b - a + V.length) = b + V.length := by omega
  rw [hab] at hX
  have R2 := hide (Run6 s (b + V.length) hs (by omega))
  have HX := hide hX
  have HAB : Hid (a ≤ b) := by show _ ≤ _; omega
  clear hX hbe hke hL hab
  obtain ⟨e, hee⟩ : ∃ e, e = b + V.length := ⟨_, rfl⟩
  have hbe : b ≤ e := by omega
  have hes : e ≤ s.size := by omega
  have HEE := hide hee
  rw [← hee] at R2 VE hT HX
  have hvs := ofL_size V
  have HT := hide hT
  clear hT hee hle ha hb
  rw [← HT.out] at IV
  obtain ⟨q, hq⟩ : ∃ q, q = e + blN (s.data.toList.drop e) := ⟨_, rfl⟩
  have HQ := hide hq
  rw [← hq] at R2
  clear hq
  by_cases h0 : V = []
  · subst h0
    have hz : ((s.extract b e).toList == []) = true := by rw [HT.out, toL, ofL_data]; rfl
    rw [if_neg (by simp)] at HX
    have hx : X = ⟨0, [], q - a⟩ := by rw [HX.out, show b - a + ([] : List UInt8).length + blN (s.data.toList.drop e) = q - a by have := HEE.out; have := HAB.out; have := HQ.out; simp at *; omega]
    subst hx
    clear HX IV
    have haq : a + (q - a) = q := by have := HEE.out; have := HAB.out; have := HQ.out; omega
    dsimp only
    rw [haq]
    clear haq
    have hsz : (s.extract b e).size = 0 := by rw [HT.out, ofL_size]; rfl
    go_enter Tryd.func23, Tryd.ntmps23
    go_wp2_with fail
    refine (R1.out _ rfl _).mono ?_
    rintro e1 w1 ⟨rfl, hw1⟩
    rw [hw1]
    clear hw1 w1
    go_wp2_with fail
    refine (VE.out _).mono ?_
    rintro e1 w1 ⟨rfl, hw1⟩
    rw [hw1]
    clear hw1 w1
    go_wp2_with fail
    refine (R2.out _ (by have := HEE.out; simp at this; omega) _).mono ?_
    rintro e1 w1 ⟨rfl, hw1⟩
    rw [hw1]
    clear hw1 w1
    go_wp2_with fail
    go_ret3
    exact ⟨by rw [HT.out]; rfl, Below.refl _ _⟩
  · have hz : ((s.extract b e).toList == []) = false := by rw [HT.out, toL, ofL_data]; simpa using h0
    have hsz : (s.extract b e).size = V.length := by rw [HT.out, ofL_size]
    cases hv : isVer V with
    | true =>
      rw [hv, if_neg (by simp)] at HX
      rw [hv] at IV
      have hx : X = ⟨0, V, q - a⟩ := by rw [HX.out, show b - a + V.length + blN (s.data.toList.drop e) = q - a by have := HEE.out; have := HAB.out; have := HQ.out; omega]
      subst hx
      clear HX hv h0
      have haq : a + (q - a) = q := by have := HEE.out; have := HAB.out; have := HQ.out; omega
      dsimp only
      rw [haq]
      clear haq
      generalize V.length = L at *
      go_enter Tryd.func23, Tryd.ntmps23
      go_wp2_with fail
      refine (R1.out _ rfl _).mono ?_
      rintro e1 w1 ⟨rfl, hw1⟩
      rw [hw1]
      clear hw1 w1
      go_wp2_with fail
      refine (VE.out _).mono ?_
      rintro e1 w1 ⟨rfl, hw1⟩
      rw [hw1]
      clear hw1 w1
      go_wp2_with fail
      refine (IV.out _ hk).mono ?_
      rintro e1 w1 ⟨rfl, b1⟩
      go_wp2_with fail
      refine (R2.out _ (by have := HEE.out; unfold wrap64; omega) _).mono ?_
      rintro e1 w2 ⟨rfl, hw2⟩
      rw [hw2]
      clear hw2 w2
      go_wp2_with fail
      go_ret3
      exact ⟨by rw [HT.out]; rfl, b1⟩
    | false =>
      rw [hv, if_pos ⟨h0, rfl⟩] at HX
      rw [hv] at IV
      have hx : X = ⟨19, [], b - a⟩ := HX.out
      subst hx
      clear HX hv h0
      have haq : a + (b - a) = b := by have := HAB.out; omega
      dsimp only
      rw [haq]
      clear haq
      generalize V.length = L at *
      go_enter Tryd.func23, Tryd.ntmps23
      go_wp2_with fail
      refine (R1.out _ rfl _).mono ?_
      rintro e1 w1 ⟨rfl, hw1⟩
      rw [hw1]
      clear hw1 w1
      go_wp2_with fail
      refine (VE.out _).mono ?_
      rintro e1 w1 ⟨rfl, hw1⟩
      rw [hw1]
      clear hw1 w1
      go_wp2_with fail
      refine (IV.out _ hk).mono ?_
      rintro e1 w1 ⟨rfl, b1⟩
      go_wp2_with fail
      go_ret3
      exact ⟨rfl, b1⟩

/-- What stands between two ranges. -/
theorem readComma_any (s : ByteArray) (a : Nat) (w : World) (hs : s.size ≤ 256) (ha : a ≤ s.size) :
    Calls Tryd.prog 33 #[.string s, .int .i64 (a : Int)] w fun e w' => e = .returned (.tuple #[.int .i64 ((a + (coR (s.data.toList.drop a)).2 : Nat) : Int), .int .i64 (coR (s.data.toList.drop a)).1]) ∧ w' = w := by
  have I1 := fun W => isAt_any s ⟨#[44]⟩ a W
  change ∀ W, Calls Tryd.prog 12 #[.string s, .int .i64 (a : Int), .string ⟨#[44]⟩] W fun e w' => e = .returned (.bool (hdIn [44] (s.data.toList.drop a))) ∧ w' = W at I1
  have I1 := hide I1
  have hX : coR (s.data.toList.drop a) = if hdIn [44] (s.data.toList.drop a) = false then (10, 0)
    else if hdIn [91, 40] (s.data.toList.drop (a + (1 + blN (s.data.toList.drop (a + 1))))) = false then (misR (s.data.toList.drop (a + (1 + blN (s.data.toList.drop (a + 1))))), 1 + blN (s.data.toList.drop (a + 1)))
    else (0, 1 + blN (s.data.toList.drop (a + 1))) := by unfold coR; rw [List.drop_drop, List.drop_drop]
  have hlt : hdIn [44] (s.data.toList.drop a) = true → a < s.size := fun h => by have := hdIn_lt h; rwa [len_data] at this
  generalize coR (s.data.toList.drop a) = X at *
  generalize hdIn [44] (s.data.toList.drop a) = H1 at *
  cases H1 with
  | false =>
    rw [if_pos rfl] at hX
    subst hX
    clear hlt
    dsimp only
    rw [Nat.add_zero]
    go_enter Tryd.func33, Tryd.ntmps33
    go_wp2_with fail
    refine (I1.out _).mono ?_
    rintro e w1 ⟨rfl, hw1⟩
    rw [hw1]
    clear hw1 w1
    go_wp2_with fail
    go_ret2
    exact ⟨rfl, rfl⟩
  | true =>
    rw [if_neg (by simp)] at hX
    have hla := hlt rfl
    clear hlt
    have R1 := hide (Run6 s (a + 1) hs hla)
    have hle := bl_le s (a + 1) hla
    obtain ⟨b, hb⟩ : ∃ b, b = a + 1 + blN (s.data.toList.drop (a + 1)) := ⟨_, rfl⟩
    have e1 : a + (1 + blN (s.data.toList.drop (a + 1))) = b := by omega
    have e2 : 1 + blN (s.data.toList.drop (a + 1)) = b - a := by omega
    have HE2 : Hid (a + (b - a) = b) := by show _ = _; omega
    rw [e1, e2] at hX
    rw [← hb] at R1 hle
    clear e1 e2 hb
    have I2 := fun W => isAt_any s ⟨#[91, 40]⟩ b W
    change ∀ W, Calls Tryd.prog 12 #[.string s, .int .i64 (b : Int), .string ⟨#[91, 40]⟩] W fun e w' => e = .returned (.bool (hdIn [91, 40] (s.data.toList.drop b))) ∧ w' = W at I2
    have I2 := hide I2
    have M := hide (fun W => Misfit_any s b W hle)
    generalize misR (s.data.toList.drop b) = mi at *
    generalize hdIn [91, 40] (s.data.toList.drop b) = H2 at *
    cases H2 with
    | false =>
      rw [if_pos rfl] at hX
      subst hX
      dsimp only
      rw [HE2.out]
      go_enter Tryd.func33, Tryd.ntmps33
      go_wp2_with fail
      refine (I1.out _).mono ?_
      rintro e w1 ⟨rfl, hw1⟩
      rw [hw1]
      clear hw1 w1
      go_wp2_with fail
      refine (R1.out _ (by omega) _).mono ?_
      rintro e w1 ⟨rfl, hw1⟩
      rw [hw1]
      clear hw1 w1
      go_wp2_with fail
      refine (I2.out _).mono ?_
      rintro e w1 ⟨rfl, hw1⟩
      rw [hw1]
      clear hw1 w1
      go_wp2_with fail
      refine (M.out _).mono ?_
      rintro e w1 ⟨rfl, hw1⟩
      rw [hw1]
      clear hw1 w1
      go_wp2_with fail
      go_ret2
      exact ⟨rfl, rfl⟩
    | true =>
      rw [if_neg (by simp)] at hX
      subst hX
      dsimp only
      rw [HE2.out]
      go_enter Tryd.func33, Tryd.ntmps33
      go_wp2_with fail
      refine (I1.out _).mono ?_
      rintro e w1 ⟨rfl, hw1⟩
      rw [hw1]
      clear hw1 w1
      go_wp2_with fail
      refine (R1.out _ (by omega) _).mono ?_
      rintro e w1 ⟨rfl, hw1⟩
      rw [hw1]
      clear hw1 w1
      go_wp2_with fail
      refine (I2.out _).mono ?_
      rintro e w1 ⟨rfl, hw1⟩
      rw [hw1]
      clear hw1 w1
      go_wp2_with fail
      go_ret2
      exact ⟨rfl, rfl⟩

end Go.Proofs.YtpedljmpobhimaaDoor
