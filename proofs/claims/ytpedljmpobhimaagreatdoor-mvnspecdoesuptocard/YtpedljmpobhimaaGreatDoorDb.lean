/-
  Walks: qualifiers, tokens, nulls, kinds.
-/
import Derived.Test.YtpedljmpobhimaaGreatDoorDa
namespace Go.Proofs.YtpedljmpobhimaaGreatDoor
open Go.RowKit Go.Shelf
set_option linter.unusedVariables false

/-- A token as a value. -/
def tokV (t : Tok) : Value := .agg #[.bool t.dash, .bool t.num, .string (ofL t.text)]

set_option maxHeartbeats 1000000 in
theorem qualifier_any (s : ByteArray) (near : Bool) (w : World) :
    Calls Tryz.prog 110 #[.string s, .bool near] w fun e w' => e = .returned (.string (ofL (qualL s.data.toList near))) ∧ w' = w := by
  have HQ : Hid (qualL s.data.toList near = if (s.toList == [99, 114]) = true then [114, 99]
    else if (s.toList == [102, 105, 110, 97, 108]) = true then [] else if (s.toList == [103, 97]) = true then [] else if (s.toList == [114, 101, 108, 101, 97, 115, 101]) = true then []
    else if near = false then s.data.toList
    else if (s.toList == [97]) = true then [97, 108, 112, 104, 97]
    else if (s.toList == [98]) = true then [98, 101, 116, 97]
    else if (s.toList == [109]) = true then [109, 105, 108, 101, 115, 116, 111, 110, 101]
    else s.data.toList) := by
    show _ = _
    unfold qualL
    simp only [beq_iff_eq, toL]
    by_cases h1 : s.data.toList = [102, 105, 110, 97, 108]
    · simp [h1]
    · by_cases h2 : s.data.toList = [103, 97]
      · simp [h2]
      · by_cases h3 : s.data.toList = [114, 101, 108, 101, 97, 115, 101]
        · simp [h3]
        · rw [if_neg (c := _ ∨ _) (by simp [h1, h2, h3]), if_neg h1, if_neg h2, if_neg h3]
  have HS := hide (ofL_self s)
  generalize qualL s.data.toList near = R at *
  cases b1 : (s.toList == [99, 114])
  · cases b2 : (s.toList == [102, 105, 110, 97, 108])
    · cases b3 : (s.toList == [103, 97])
      · cases b4 : (s.toList == [114, 101, 108, 101, 97, 115, 101])
        · cases near
          · have HX : Hid (R = s.data.toList) := by show _ = _; rw [HQ.out, b1, b2, b3, b4]; rfl
            clear HQ
            go_enter Tryz.func110, Tryz.ntmps110
            go_wp2_with fail
            go_ret
            exact ⟨ret_s (by rw [HX.out, HS.out]), rfl⟩
          · cases b5 : (s.toList == [97])
            · cases b6 : (s.toList == [98])
              · cases b7 : (s.toList == [109])
                · have HX : Hid (R = s.data.toList) := by show _ = _; rw [HQ.out, b1, b2, b3, b4, b5, b6, b7]; rfl
                  clear HQ
                  go_enter Tryz.func110, Tryz.ntmps110
                  go_wp2_with fail
                  go_ret
                  exact ⟨ret_s (by rw [HX.out, HS.out]), rfl⟩
                · have HX : Hid (R = [109, 105, 108, 101, 115, 116, 111, 110, 101]) := by show _ = _; rw [HQ.out, b1, b2, b3, b4, b5, b6, b7]; rfl
                  clear HQ
                  go_enter Tryz.func110, Tryz.ntmps110
                  go_wp2_with fail
                  go_ret
                  exact ⟨ret_s (by rw [HX.out]; rfl), rfl⟩
              · have HX : Hid (R = [98, 101, 116, 97]) := by show _ = _; rw [HQ.out, b1, b2, b3, b4, b5, b6]; rfl
                clear HQ
                go_enter Tryz.func110, Tryz.ntmps110
                go_wp2_with fail
                go_ret
                exact ⟨ret_s (by rw [HX.out]; rfl), rfl⟩
            · have HX : Hid (R = [97, 108, 112, 104, 97]) := by show _ = _; rw [HQ.out, b1, b2, b3, b4, b5]; rfl
              clear HQ
              go_enter Tryz.func110, Tryz.ntmps110
              go_wp2_with fail
              go_ret
              exact ⟨ret_s (by rw [HX.out]; rfl), rfl⟩
        · have HX : Hid (R = []) := by show _ = _; rw [HQ.out, b1, b2, b3, b4]; rfl
          clear HQ
          go_enter Tryz.func110, Tryz.ntmps110
          go_wp2_with fail
          go_ret
          exact ⟨ret_s (by rw [HX.out]; rfl), rfl⟩
      · have HX : Hid (R = []) := by show _ = _; rw [HQ.out, b1, b2, b3]; rfl
        clear HQ
        go_enter Tryz.func110, Tryz.ntmps110
        go_wp2_with fail
        go_ret
        exact ⟨ret_s (by rw [HX.out]; rfl), rfl⟩
    · have HX : Hid (R = []) := by show _ = _; rw [HQ.out, b1, b2]; rfl
      clear HQ
      go_enter Tryz.func110, Tryz.ntmps110
      go_wp2_with fail
      go_ret
      exact ⟨ret_s (by rw [HX.out]; rfl), rfl⟩
  · have HX : Hid (R = [114, 99]) := by show _ = _; rw [HQ.out, b1]; rfl
    clear HQ
    go_enter Tryz.func110, Tryz.ntmps110
    go_wp2_with fail
    go_ret
    exact ⟨ret_s (by rw [HX.out]; rfl), rfl⟩

set_option maxHeartbeats 400000 in
theorem isNull_any (t : Tok) (w : World) :
    Calls Tryz.prog 100 #[tokV t] w fun e w' => e = .returned (.bool (nullB t)) ∧ Below w.heap.size w w' := by
  obtain ⟨d, n, x⟩ := t
  unfold tokV
  dsimp only
  have HD := hide (ofL_data x)
  cases n
  · have HN : Hid (nullB ⟨d, false, x⟩ = (ofL x).toList.isEmpty) := by show _ = _; rw [toL, ofL_data]; cases x <;> rfl
    generalize nullB ⟨d, false, x⟩ = R at *
    go_enter Tryz.func100, Tryz.ntmps100
    go_wp2_with fail
    go_ret
    exact ⟨by rw [HN.out]; rfl, (Below.refl _ w).alloc (Nat.le_refl _) _⟩
  · have HN : Hid (nullB ⟨d, true, x⟩ = ((ofL x).toList == [48])) := by show _ = _; rw [toL, ofL_data]; rfl
    generalize nullB ⟨d, true, x⟩ = R at *
    go_enter Tryz.func100, Tryz.ntmps100
    go_wp2_with fail
    go_ret
    exact ⟨by rw [HN.out]; rfl, (Below.refl _ w).alloc (Nat.le_refl _) _⟩

set_option maxHeartbeats 400000 in
theorem kindOf_any (t : Tok) (w : World) :
    Calls Tryz.prog 121 #[tokV t] w fun e w' => e = .returned (.int .i64 (kindT t)) ∧ Below w.heap.size w w' := by
  obtain ⟨d, n, x⟩ := t
  unfold tokV
  dsimp only
  cases n
  · go_enter Tryz.func121, Tryz.ntmps121
    go_wp2_with fail
    go_ret
    exact ⟨rfl, (Below.refl _ w).alloc (Nat.le_refl _) _⟩
  · cases d
    · go_enter Tryz.func121, Tryz.ntmps121
      go_wp2_with fail
      go_ret
      exact ⟨rfl, (Below.refl _ w).alloc (Nat.le_refl _) _⟩
    · go_enter Tryz.func121, Tryz.ntmps121
      go_wp2_with fail
      go_ret
      exact ⟨rfl, (Below.refl _ w).alloc (Nat.le_refl _) _⟩

end Go.Proofs.YtpedljmpobhimaaGreatDoor
