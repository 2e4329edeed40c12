/-
  Walks: words with which a text goes on; texts without blanks at their ends.
-/
import Derived.Test.YtglceodiajbhiaaWd
namespace Go.Proofs.Ytglceodiajbhiaa
open Go.RowKit
set_option linter.unusedVariables false

/-- Does a text begin so? -/
def hasP (s x : List UInt8) : Bool := s.take x.length == x

theorem hasP_short (s x : List UInt8) (h : s.length < x.length) : hasP s x = false := by
  unfold hasP
  rw [beq_eq_false_iff_ne]
  intro e
  have := congrArg List.length e
  simp at this
  omega

set_option maxHeartbeats 400000 in
theorem HasPrefixL_any (s x : ByteArray) (w : World) :
    Calls Try.prog 40 #[.string s, .string x] w fun e w' => e = .returned (.bool (hasP s.data.toList x.data.toList)) ∧ w' = w := by
  by_cases h : x.size ≤ s.size
  · have hge : decide ((x.size : Int) ≤ (s.size : Int)) = true := by simp; omega
    have HE : Hid (((s.extract 0 x.size).toList == x.toList) = hasP s.data.toList x.data.toList) := by
      show _ = _
      rw [toL, toL, extract_ofL, ofL_data, hasP, len_data]; simp
    go_enter Try.func40, Try.ntmps40
    go_wp2
    go_ret
    exact ⟨ret_b HE.out, rfl⟩
  · have HE : Hid (hasP s.data.toList x.data.toList = false) := hasP_short _ _ (by rw [len_data, len_data]; omega)
    go_enter Try.func40, Try.ntmps40
    go_wp2
    go_ret
    exact ⟨ret_b HE.out.symm, rfl⟩

set_option maxHeartbeats 400000 in
theorem HasPrefix_any (s x : ByteArray) (w : World) :
    Calls Try.prog 34 #[.string s, .string x] w fun e w' => e = .returned (.bool (hasP s.data.toList x.data.toList)) ∧ w' = w := by
  go_enter Try.func34, Try.ntmps34
  go_wp2_with (go_at_call 40; refine (HasPrefixL_any _ _ _).mono ?_; rintro e w' ⟨rfl, rfl⟩)
  go_ret
  exact ⟨rfl, rfl⟩

/-- Does a text go on so, from a place on? -/
def startsL (s : List UInt8) (n : Int) (x : List UInt8) : Bool := (decide (0 ≤ n) && decide (n ≤ (s.length : Int))) && hasP (s.drop n.toNat) x

set_option maxHeartbeats 400000 in
theorem Starts_any (s : ByteArray) (n : Int) (x : ByteArray) (w : World) (hs : s.size ≤ maxLen) :
    Calls Try.prog 31 #[.string s, .int .i64 n, .string x] w fun e w' => e = .returned (.bool (startsL s.data.toList n x.data.toList)) ∧ w' = w := by
  unfold maxLen at hs
  by_cases h0 : 0 ≤ n
  · obtain ⟨m, rfl⟩ := Int.eq_ofNat_of_zero_le h0
    by_cases h1 : m ≤ s.size
    · by_cases h2 : m + x.size ≤ s.size
      · have HE : Hid (((s.extract m (m + x.size)).toList == x.toList) = startsL s.data.toList m x.data.toList) := by
          show _ = _
          rw [toL, toL, extract_ofL, ofL_data, startsL, hasP, len_data, len_data, List.drop_take]
          simp [h1]
        go_enter Try.func31, Try.ntmps31
        go_wp2
        go_ret
        exact ⟨ret_b HE.out, rfl⟩
      · have HE : Hid (startsL s.data.toList m x.data.toList = false) := by
          show _ = _
          rw [startsL, hasP_short _ _ (by rw [List.length_drop, len_data, len_data]; simp; omega)]; simp
        go_enter Try.func31, Try.ntmps31
        go_wp2
        go_ret
        exact ⟨ret_b HE.out.symm, rfl⟩
    · have HE : Hid (startsL s.data.toList m x.data.toList = false) := by
        show _ = _
        rw [startsL, len_data]; simp; omega
      go_enter Try.func31, Try.ntmps31
      go_wp2
      go_ret
      exact ⟨ret_b HE.out.symm, rfl⟩
  · have HE : Hid (startsL s.data.toList n x.data.toList = false) := by
      show _ = _
      rw [startsL]; simp; omega
    go_enter Try.func31, Try.ntmps31
    go_wp2
    go_ret
    exact ⟨ret_b HE.out.symm, rfl⟩

/-- A slice of strings that came in, or was made: what it holds. -/
def Words (W : World) (a : Option Addr) (ws : List ByteArray) : Prop :=
  ws = [] ∨ ∃ b off, a = some ⟨b, off, none⟩ ∧ ∀ i, i < ws.length → W.cell? ⟨b, off + i, none⟩ = some (.string (ws.getD i ByteArray.empty))

/-- One word more is looked at. -/
def wstep (s : List UInt8) (acc : ByteArray × Bool) (x : ByteArray) : ByteArray × Bool :=
  if hasP s x.data.toList = true ∧ (acc.2 = false ∨ acc.1.size < x.size) then (x, true) else acc

/-- The longest of some words with which a text goes on. -/
def wordL (s : List UInt8) (ws : List ByteArray) : ByteArray × Bool := ws.foldl (wstep s) (ByteArray.empty, false)

theorem wordL_succ (s : List UInt8) (ws : List ByteArray) (k : Nat) (h : k < ws.length) : wordL s (ws.take (k + 1)) = wstep s (wordL s (ws.take k)) (ws.getD k ByteArray.empty) := by
  unfold wordL
  rw [List.take_succ_eq_append_getElem h, List.foldl_append]
  simp [List.getD, h]

theorem ret_w {a c : ByteArray} {b d : Bool} (h1 : a = c) (h2 : b = d) : Ending.returned (.tuple #[.string a, .bool b]) = .returned (.tuple #[.string c, .bool d]) := by rw [h1, h2]

set_option maxHeartbeats 1000000 in
theorem Word_in (s : ByteArray) (m : Nat) (hm : m ≤ s.size) (a0 : Option Addr) (ws : List ByteArray) (cap : Nat) (w : World) (hs : s.size ≤ maxLen) (hw : ws.length ≤ maxLen) (hv : Words w a0 ws) :
    Calls Try.prog 10 #[.string s, .int .i64 (m : Int), .slice a0 ws.length cap] w fun e w' => e = .returned (.tuple #[.string (wordL (s.data.toList.drop m) ws).1, .bool (wordL (s.data.toList.drop m) ws).2]) ∧ w' = w := by
  unfold maxLen at hs hw
  have hb : (decide (0 ≤ (m : Int)) && decide ((m : Int) ≤ (s.size : Int))) = true := by simp; omega
  have hD : (s.extract m s.size).data.toList = s.data.toList.drop m := by rw [extract_end, ofL_data]
  have HP : Hid (∀ x w, Calls Try.prog 34 #[.string (s.extract m s.size), .string x] w fun e w' => e = .returned (.bool (hasP (s.data.toList.drop m) x.data.toList)) ∧ w' = w) := fun x w => by
    have h := HasPrefix_any (s.extract m s.size) x w
    rw [hD] at h
    exact h
  clear hD
  generalize s.data.toList.drop m = t at *
  rcases hv with rfl | ⟨b, off, rfl, hc⟩
  · go_enter Try.func10, Try.ntmps10
    go_wp2_with (go_at_call 33; refine (inside_any _ _ _).mono ?_; rintro e w' ⟨rfl, rfl⟩)
    refine wp_loop_rounds 1 ?_
    rw [rounds_succ]
    go_wp2
    go_ret2
    exact ⟨rfl, rfl⟩
  · have HC := hide hc
    clear hc
    go_enter Try.func10, Try.ntmps10
    go_wp2_with (go_at_call 33; refine (inside_any _ _ _).mono ?_; rintro e w' ⟨rfl, rfl⟩)
    go_loop [8, 9, 18] (fun x y i => ∃ k : Nat, k ≤ ws.length ∧ i = .int .i64 k ∧ ∃ p q, x = .string p ∧ y = .bool q ∧ Hid (wordL t (ws.take k) = (p, q))) (fun _ _ i => ws.length - (intOf i).toNat)
    case atStart => exact ⟨0, by omega, rfl, _, _, rfl, rfl, rfl⟩
    case round =>
      obtain ⟨k, hk, rfl, p, q, rfl, rfl, HR⟩ := hrel
      by_cases hlt : k < ws.length
      · have hcell := HC.out k hlt
        have HX : Hid _ := wordL_succ t ws k hlt
        generalize ws.getD k ByteArray.empty = x at *
        by_cases hp : hasP t x.data.toList = true
        · cases q with
          | false =>
            go_wp2_with (go_at_call 34; refine (HP.out _ _).mono ?_; rintro e w' ⟨rfl, rfl⟩)
            go_round
            case rel => exact ⟨k + 1, by omega, by go_num, x, true, rfl, rfl, by rw [HX.out, HR.out]; simp [Hid, wstep, hp]⟩
            case measure => simp [intOf]; omega
          | true =>
            by_cases hsz : p.size < x.size
            · go_wp2_with (go_at_call 34; refine (HP.out _ _).mono ?_; rintro e w' ⟨rfl, rfl⟩)
              go_round
              case rel => exact ⟨k + 1, by omega, by go_num, x, true, rfl, rfl, by rw [HX.out, HR.out]; simp [Hid, wstep, hp, hsz]⟩
              case measure => simp [intOf]; omega
            · go_wp2_with (go_at_call 34; refine (HP.out _ _).mono ?_; rintro e w' ⟨rfl, rfl⟩)
              go_round
              case rel => exact ⟨k + 1, by omega, by go_num, p, true, rfl, rfl, by rw [HX.out, HR.out]; simp [Hid, wstep, hp]; omega⟩
              case measure => simp [intOf]; omega
        · have hp' : hasP t x.data.toList = false := by simpa using hp
          go_wp2_with (go_at_call 34; refine (HP.out _ _).mono ?_; rintro e w' ⟨rfl, rfl⟩)
          go_round
          case rel => exact ⟨k + 1, by omega, by go_num, p, q, rfl, rfl, by rw [HX.out, HR.out]; simp [Hid, wstep, hp']⟩
          case measure => simp [intOf]; omega
      · have HA : Hid (ws.take k = ws) := List.take_of_length_le (by omega)
        go_wp2_with fail
        go_ret2
        exact ⟨ret_w (by rw [← HA.out, HR.out]) (by rw [← HA.out, HR.out]), rfl⟩

end Go.Proofs.Ytglceodiajbhiaa
