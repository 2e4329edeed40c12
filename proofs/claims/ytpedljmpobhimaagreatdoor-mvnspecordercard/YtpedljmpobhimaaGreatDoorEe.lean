/-
  Walks: the document's reading.
-/
import Derived.Test.YtpedljmpobhimaaGreatDoorEb
import Derived.Test.YtpedljmpobhimaaGreatDoorEd
namespace Go.Proofs.YtpedljmpobhimaaGreatDoor
open Go.RowKit Go.Shelf
set_option linter.unusedVariables false

theorem okM_parts (c : UInt8) : okM c = (isC (c.toNat : Int) 1 || isC (c.toNat : Int) 4 || markB c || ((c.toNat : Int) == 95) || ((c.toNat : Int) == 43)) := by
  rw [show (95 : Int) = ((95 : UInt8).toNat : Int) from rfl, show (43 : Int) = ((43 : UInt8).toNat : Int) from rfl, u8_beq, u8_beq]
  unfold okM wordB
  cases isC (c.toNat : Int) 1 <;> cases isC (c.toNat : Int) 4 <;> cases markB c <;> cases c == 95 <;> cases c == 43 <;> rfl

/-- What the document's reading leaves. -/
def RPost (l : List UInt8) (w : World) (r : Ending) (w' : World) : Prop := (∃ x, toksL l = .error x ∧ r = .returned (.tuple #[.slice none 0 0, .int .i64 x.1, .int .i64 (x.2 : Int)]) ∧ Below w.heap.size w w') ∨
  (∃ ts ao cv, toksL l = .ok ts ∧ r = .returned (.tuple #[.slice ao ts.length cv, .int .i64 0, .int .i64 0]) ∧ Toks w' (.slice ao ts.length cv) ts ∧ Below w.heap.size w w')

set_option maxRecDepth 100000 in
set_option maxHeartbeats 4000000 in
theorem Rtokens_any (s : ByteArray) (w : World) : Calls Tryz.prog 40 #[.string s] w (RPost s.data.toList w) := by
  by_cases h1 : 64 < s.size
  · have h1' : (64 : Int) < (s.size : Int) := by omega
    have HX : Hid (toksL s.data.toList = .error (12, 64)) := by show _ = _; unfold toksL; rw [len_data, if_pos h1]
    go_enter Tryz.func40, Tryz.ntmps40
    go_wp2_with fail
    go_ret3
    exact .inl ⟨_, HX.out, rfl, Below.refl _ _⟩
  · have h1' : ¬ (64 : Int) < (s.size : Int) := by omega
    by_cases h2 : 0 < s.size
    · have hne : s.data.toList ≠ [] := by intro e; have := len_data s; rw [e] at this; simp at this; omega
      have hem := eqE s h2
      have hem' : s.toList.isEmpty = false := by rw [toL]; exact emp s h2
      have HERR : Hid (∀ k, k < s.size → okN s.data.toList = k → toksL s.data.toList = .error (10, k)) := by
        intro k hk he
        unfold toksL
        rw [len_data, if_neg h1, if_neg hne, if_pos (by omega), he]
      have HOKK : Hid (okN s.data.toList = s.size → toksL s.data.toList = .ok (trimT (splitL s.data.toList)) ∧ ∀ c ∈ s.data.toList, okM c = true) := by
        intro he
        have ha := okN_all s.data.toList (by rw [len_data]; omega)
        exact ⟨toks_mk hne ha (by rw [len_data]; omega), ha⟩
      have hs64 : s.size ≤ 64 := by omega
      clear hne
      go_enter Tryz.func40, Tryz.ntmps40
      go_wp2_with fail
      go_loop [5] (fun i => ∃ j : Nat, j ≤ s.size ∧ i = .int .i64 j ∧ Hid (okN s.data.toList = j + okN (s.data.toList.drop j))) (fun i => s.size - (intOf i).toNat)
      case atStart => exact ⟨0, by omega, rfl, by show _ = _; rw [List.drop_zero]; omega⟩
      case round =>
        obtain ⟨j, hjs, rfl, HR⟩ := hrel
        by_cases hlt : j < s.size
        · have hlt' : (j : Int) < (s.size : Int) := by omega
          have HH := hide (okN_hit s j hlt)
          have HM := hide (okN_miss s j hlt)
          have HO := hide (okM_parts s[j])
          have SP := fun w => Rsep_any s[j] w
          have DG := fun w => Rdigit_any (s[j].toNat : Int) w
          have LT := fun w => Rletter_any (s[j].toNat : Int) w
          cases c1 : isC (s[j].toNat : Int) 1
          · rw [c1] at DG
            cases c2 : isC (s[j].toNat : Int) 4
            · rw [c2] at LT
              cases c3 : markB s[j]
              · rw [c3] at SP
                cases c4 : ((s[j].toNat : Int) == 95)
                · have c4n : ((s[j].toNat : Int) != 95) = true := by simp only [bne, c4]; rfl
                  cases c5 : ((s[j].toNat : Int) == 43)
                  · have c5n : ((s[j].toNat : Int) != 43) = true := by simp only [bne, c5]; rfl
                    have HXX := hide (HM.out (by rw [HO.out, c1, c2, c3, c4, c5]; rfl))
                    have DG := hide DG
                    have LT := hide LT
                    have SP := hide SP
                    clear HH HM HO
                    go_wp2_with fail
                    refine (DG.out _).mono ?_
                    rintro e w' ⟨rfl, rfl⟩
                    go_wp2_with fail
                    refine (LT.out _).mono ?_
                    rintro e w' ⟨rfl, rfl⟩
                    go_wp2_with fail
                    refine (SP.out _).mono ?_
                    rintro e w' ⟨rfl, rfl⟩
                    go_wp2_with fail
                    go_ret3
                    exact .inl ⟨_, HERR.out j hlt (by rw [HR.out, HXX.out]; rfl), rfl, Below.refl _ _⟩
                  · have c5n : ((s[j].toNat : Int) != 43) = false := by simp only [bne, c5]; rfl
                    have HXX := hide (HH.out (by rw [HO.out, c1, c2, c3, c4, c5]; first | rfl | simp))
                    have DG := hide DG
                    have LT := hide LT
                    have SP := hide SP
                    clear HH HM HO
                    go_wp2_with fail
                    refine (DG.out _).mono ?_
                    rintro e w' ⟨rfl, rfl⟩
                    go_wp2_with fail
                    refine (LT.out _).mono ?_
                    rintro e w' ⟨rfl, rfl⟩
                    go_wp2_with fail
                    refine (SP.out _).mono ?_
                    rintro e w' ⟨rfl, rfl⟩
                    go_wp2_with fail
                    go_round
                    case rel => exact ⟨j + 1, by omega, by go_num, by have a := HR.out; have b := HXX.out; show _ = _; omega⟩
                    case measure => simp [intOf]; omega
                · have c4n : ((s[j].toNat : Int) != 95) = false := by simp only [bne, c4]; rfl
                  have HXX := hide (HH.out (by rw [HO.out, c1, c2, c3, c4]; first | rfl | simp))
                  have DG := hide DG
                  have LT := hide LT
                  have SP := hide SP
                  clear HH HM HO
                  go_wp2_with fail
                  refine (DG.out _).mono ?_
                  rintro e w' ⟨rfl, rfl⟩
                  go_wp2_with fail
                  refine (LT.out _).mono ?_
                  rintro e w' ⟨rfl, rfl⟩
                  go_wp2_with fail
                  refine (SP.out _).mono ?_
                  rintro e w' ⟨rfl, rfl⟩
                  go_wp2_with fail
                  go_round
                  case rel => exact ⟨j + 1, by omega, by go_num, by have a := HR.out; have b := HXX.out; show _ = _; omega⟩
                  case measure => simp [intOf]; omega
              · rw [c3] at SP
                have HXX := hide (HH.out (by rw [HO.out, c1, c2, c3]; first | rfl | simp))
                have DG := hide DG
                have LT := hide LT
                have SP := hide SP
                clear HH HM HO
                go_wp2_with fail
                refine (DG.out _).mono ?_
                rintro e w' ⟨rfl, rfl⟩
                go_wp2_with fail
                refine (LT.out _).mono ?_
                rintro e w' ⟨rfl, rfl⟩
                go_wp2_with fail
                refine (SP.out _).mono ?_
                rintro e w' ⟨rfl, rfl⟩
                go_wp2_with fail
                go_round
                case rel => exact ⟨j + 1, by omega, by go_num, by have a := HR.out; have b := HXX.out; show _ = _; omega⟩
                case measure => simp [intOf]; omega
            · rw [c2] at LT
              have HXX := hide (HH.out (by rw [HO.out, c1, c2]; first | rfl | simp))
              have DG := hide DG
              have LT := hide LT
              clear HH HM HO
              go_wp2_with fail
              refine (DG.out _).mono ?_
              rintro e w' ⟨rfl, rfl⟩
              go_wp2_with fail
              refine (LT.out _).mono ?_
              rintro e w' ⟨rfl, rfl⟩
              go_wp2_with fail
              go_round
              case rel => exact ⟨j + 1, by omega, by go_num, by have a := HR.out; have b := HXX.out; show _ = _; omega⟩
              case measure => simp [intOf]; omega
          · rw [c1] at DG
            have HXX := hide (HH.out (by rw [HO.out, c1]; first | rfl | simp))
            have DG := hide DG
            clear HH HM HO
            go_wp2_with fail
            refine (DG.out _).mono ?_
            rintro e w' ⟨rfl, rfl⟩
            go_wp2_with fail
            go_round
            case rel => exact ⟨j + 1, by omega, by go_num, by have a := HR.out; have b := HXX.out; show _ = _; omega⟩
            case measure => simp [intOf]; omega
        · have hlt' : ¬ (j : Int) < (s.size : Int) := by omega
          obtain rfl : j = s.size := by omega
          have HX := hide (okN_end s s.size (Nat.le_refl _))
          obtain ⟨htk, hall⟩ := HOKK.out (by rw [HR.out, HX.out]; rfl)
          have CS := hide (Rsplit_any s w hs64 hall)
          have hsl : (splitL s.data.toList).length ≤ 65 := by
            have := splitN_len (s.data.toList.length + 1) false s.data.toList
            rw [len_data] at this
            unfold splitL
            rw [len_data]
            omega
          have HTK := hide htk
          clear htk hall
          go_wp2_with fail
          refine CS.out.mono ?_
          rintro e w1 ⟨v1, rfl, own1, b1⟩
          have CT := hide (Rtrim_any v1 _ w.heap.size w1 own1 b1.size (by omega))
          obtain ⟨a1, c1, rfl⟩ := own_shapeT own1
          go_wp2_with fail
          refine CT.out.mono ?_
          rintro e w2 ⟨v2, rfl, own2, b2⟩
          have HT2 := hide (own_toks own2)
          obtain ⟨a2, c2, rfl⟩ := own_shapeT own2
          have B2 := hide (b1.trans b2)
          go_wp2_with fail
          go_ret3
          exact .inr ⟨_, a2, c2, HTK.out, rfl, HT2.out, B2.out⟩
    · obtain rfl := size0 s h2
      have HX : Hid (toksL (⟨#[]⟩ : ByteArray).data.toList = .error (11, 0)) := rfl
      clear h1 h1' h2
      go_enter Tryz.func40, Tryz.ntmps40
      go_wp2_with fail
      go_ret3
      exact .inl ⟨_, HX.out, rfl, Below.refl _ _⟩

end Go.Proofs.YtpedljmpobhimaaGreatDoor
