/-
  Walks: words with which a text goes on; texts without blanks at their ends. · Walks: words (the document's answer), texts without blanks at their ends.
-/
import Derived.Test.YtaflflelcdcanaaGreatZWd
namespace Go.Proofs.YtaflflelcdcanaaGreat
open Go.RowKit
set_option linter.unusedVariables false

/-- Does a text begin so? -/
def hasP (s x : List UInt8) : Bool := s.take x.length == x

theorem hasP_short (s x : List UInt8) (h : s.length < x.length) : hasP s x = false := by
  unfold hasP
  rw [beq_eq_false_iff_ne]
  intro e
  have := congrArg List.length e
  simp at this
  omega

set_option maxHeartbeats 400000 in
theorem HasPrefixL_any (s x : ByteArray) (w : World) :
    Calls Tryz.prog 151 #[.string s, .string x] w fun e w' => e = .returned (.bool (hasP s.data.toList x.data.toList)) ∧ w' = w := by
  by_cases h : x.size ≤ s.size
  · have hge : decide ((x.size : Int) ≤ (s.size : Int)) = true := by simp; omega
    have HE : Hid (((s.extract 0 x.size).toList == x.toList) = hasP s.data.toList x.data.toList) := by
      show _ = _
      rw [toL, toL, extract_ofL, ofL_data, hasP, len_data]; simp
    go_enter Tryz.func151, Tryz.ntmps151
    go_wp2
    go_ret
    exact ⟨ret_b HE.out, rfl⟩
  · have HE : Hid (hasP s.data.toList x.data.toList = false) := hasP_short _ _ (by rw [len_data, len_data]; omega)
    go_enter Tryz.func151, Tryz.ntmps151
    go_wp2
    go_ret
    exact ⟨ret_b HE.out.symm, rfl⟩

set_option maxHeartbeats 400000 in
theorem HasPrefix_any (s x : ByteArray) (w : World) :
    Calls Tryz.prog 124 #[.string s, .string x] w fun e w' => e = .returned (.bool (hasP s.data.toList x.data.toList)) ∧ w' = w := by
  go_enter Tryz.func124, Tryz.ntmps124
  go_wp2_with (go_at_call 151; refine (HasPrefixL_any _ _ _).mono ?_; rintro e w' ⟨rfl, rfl⟩)
  go_ret
  exact ⟨rfl, rfl⟩

/-- Does a text go on so, from a place on? -/
def startsL (s : List UInt8) (n : Int) (x : List UInt8) : Bool := (decide (0 ≤ n) && decide (n ≤ (s.length : Int))) && hasP (s.drop n.toNat) x

/-- A slice of strings that came in, or was made: what it holds. -/
def Words (W : World) (a : Option Addr) (ws : List ByteArray) : Prop :=
  ws = [] ∨ ∃ b off, a = some ⟨b, off, none⟩ ∧ ∀ i, i < ws.length → W.cell? ⟨b, off + i, none⟩ = some (.string (ws.getD i ByteArray.empty))

/-- One word more is looked at. -/
def wstep (s : List UInt8) (acc : ByteArray × Bool) (x : ByteArray) : ByteArray × Bool :=
  if hasP s x.data.toList = true ∧ (acc.2 = false ∨ acc.1.size < x.size) then (x, true) else acc

/-- The longest of some words with which a text goes on. -/
def wordL (s : List UInt8) (ws : List ByteArray) : ByteArray × Bool := ws.foldl (wstep s) (ByteArray.empty, false)

theorem wordL_succ (s : List UInt8) (ws : List ByteArray) (k : Nat) (h : k < ws.length) : wordL s (ws.take (k + 1)) = wstep s (wordL s (ws.take k)) (ws.getD k ByteArray.empty) := by
  unfold wordL
  rw [List.take_succ_eq_append_getElem h, List.foldl_append]
  simp [List.getD, h]

theorem ret_w {a c : ByteArray} {b d : Bool} (h1 : a = c) (h2 : b = d) : Ending.returned (.tuple #[.string a, .bool b]) = .returned (.tuple #[.string c, .bool d]) := by rw [h1, h2]

set_option maxHeartbeats 1000000 in
theorem Word_in (s : ByteArray) (m : Nat) (hm : m ≤ s.size) (a0 : Option Addr) (ws : List ByteArray) (cap : Nat) (w : World) (hs : s.size ≤ maxLen) (hw : ws.length ≤ maxLen) (hv : Words w a0 ws) :
    Calls Tryz.prog 92 #[.string s, .int .i64 (m : Int), .slice a0 ws.length cap] w fun e w' => e = .returned (.tuple #[.string (wordL (s.data.toList.drop m) ws).1, .bool (wordL (s.data.toList.drop m) ws).2]) ∧ w' = w := by
  unfold maxLen at hs hw
  have hb : (decide (0 ≤ (m : Int)) && decide ((m : Int) ≤ (s.size : Int))) = true := by simp; omega
  have hD : (s.extract m s.size).data.toList = s.data.toList.drop m := by rw [extract_end, ofL_data]
  have HP : Hid (∀ x w, Calls Tryz.prog 124 #[.string (s.extract m s.size), .string x] w fun e w' => e = .returned (.bool (hasP (s.data.toList.drop m) x.data.toList)) ∧ w' = w) := fun x w => by
    have h := HasPrefix_any (s.extract m s.size) x w
    rw [hD] at h
    exact h
  clear hD
  generalize s.data.toList.drop m = t at *
  rcases hv with rfl | ⟨b, off, rfl, hc⟩
  · go_enter Tryz.func92, Tryz.ntmps92
    go_wp2_with (go_at_call 54; refine (inside_any _ _ _).mono ?_; rintro e w' ⟨rfl, rfl⟩)
    refine wp_loop_rounds 1 ?_
    rw [rounds_succ]
    go_wp2
    go_ret2
    exact ⟨rfl, rfl⟩
  · have HC := hide hc
    clear hc
    go_enter Tryz.func92, Tryz.ntmps92
    go_wp2_with (go_at_call 54; refine (inside_any _ _ _).mono ?_; rintro e w' ⟨rfl, rfl⟩)
    go_loop [8, 9, 18] (fun x y i => ∃ k : Nat, k ≤ ws.length ∧ i = .int .i64 k ∧ ∃ p q, x = .string p ∧ y = .bool q ∧ Hid (wordL t (ws.take k) = (p, q))) (fun _ _ i => ws.length - (intOf i).toNat)
    case atStart => exact ⟨0, by omega, rfl, _, _, rfl, rfl, rfl⟩
    case round =>
      obtain ⟨k, hk, rfl, p, q, rfl, rfl, HR⟩ := hrel
      by_cases hlt : k < ws.length
      · have hcell := HC.out k hlt
        have HX : Hid _ := wordL_succ t ws k hlt
        generalize ws.getD k ByteArray.empty = x at *
        by_cases hp : hasP t x.data.toList = true
        · cases q with
          | false =>
            go_wp2_with (go_at_call 124; refine (HP.out _ _).mono ?_; rintro e w' ⟨rfl, rfl⟩)
            go_round
            case rel => exact ⟨k + 1, by omega, by go_num, x, true, rfl, rfl, by rw [HX.out, HR.out]; simp [Hid, wstep, hp]⟩
            case measure => simp [intOf]; omega
          | true =>
            by_cases hsz : p.size < x.size
            · go_wp2_with (go_at_call 124; refine (HP.out _ _).mono ?_; rintro e w' ⟨rfl, rfl⟩)
              go_round
              case rel => exact ⟨k + 1, by omega, by go_num, x, true, rfl, rfl, by rw [HX.out, HR.out]; simp [Hid, wstep, hp, hsz]⟩
              case measure => simp [intOf]; omega
            · go_wp2_with (go_at_call 124; refine (HP.out _ _).mono ?_; rintro e w' ⟨rfl, rfl⟩)
              go_round
              case rel => exact ⟨k + 1, by omega, by go_num, p, true, rfl, rfl, by rw [HX.out, HR.out]; simp [Hid, wstep, hp]; omega⟩
              case measure => simp [intOf]; omega
        · have hp' : hasP t x.data.toList = false := by simpa using hp
          go_wp2_with (go_at_call 124; refine (HP.out _ _).mono ?_; rintro e w' ⟨rfl, rfl⟩)
          go_round
          case rel => exact ⟨k + 1, by omega, by go_num, p, q, rfl, rfl, by rw [HX.out, HR.out]; simp [Hid, wstep, hp']⟩
          case measure => simp [intOf]; omega
      · have HA : Hid (ws.take k = ws) := List.take_of_length_le (by omega)
        go_wp2_with fail
        go_ret2
        exact ⟨ret_w (by rw [← HA.out, HR.out]) (by rw [← HA.out, HR.out]), rfl⟩

end Go.Proofs.YtaflflelcdcanaaGreat

namespace Go.Proofs.YtaflflelcdcanaaGreat
open Go.RowKit
set_option linter.unusedVariables false

/-- The longest of some words with which a text goes on from a place on. -/
def wordI (l : List UInt8) (n : Int) (ws : List ByteArray) : ByteArray × Bool :=
  if 0 ≤ n ∧ n ≤ (l.length : Int) then wordL (l.drop n.toNat) ws else (ByteArray.empty, false)

set_option maxHeartbeats 400000 in
theorem Word_any (s : ByteArray) (n : Int) (a0 : Option Addr) (ws : List ByteArray) (cap : Nat) (w : World) (hs : s.size ≤ maxLen) (hw : ws.length ≤ maxLen) (hv : Words w a0 ws) :
    Calls Tryz.prog 92 #[.string s, .int .i64 n, .slice a0 ws.length cap] w fun e w' => e = .returned (.tuple #[.string (wordI s.data.toList n ws).1, .bool (wordI s.data.toList n ws).2]) ∧ w' = w := by
  by_cases hin : 0 ≤ n ∧ n ≤ (s.size : Int)
  · obtain ⟨m, rfl⟩ := Int.eq_ofNat_of_zero_le hin.1
    have e : wordI s.data.toList m ws = wordL (s.data.toList.drop m) ws := by
      unfold wordI; rw [if_pos (by rw [len_data]; exact hin)]; simp
    rw [e]
    exact Word_in s m (by omega) a0 ws cap w hs hw hv
  · have e : wordI s.data.toList n ws = (ByteArray.empty, false) := by
      unfold wordI; rw [if_neg (by rw [len_data]; exact hin)]
    rw [e]
    clear e hv
    have hb : (decide (0 ≤ n) && decide (n ≤ (s.size : Int))) = false := by simp; omega
    clear hin
    go_enter Tryz.func92, Tryz.ntmps92
    go_wp2_with (go_at_call 54; refine (inside_any _ _ _).mono ?_; rintro e w' ⟨rfl, rfl⟩)
    go_ret2
    exact ⟨rfl, rfl⟩

/-- One word more is looked at, by whatever test. -/
def wstepF (f : ByteArray → Bool) (acc : ByteArray × Bool) (x : ByteArray) : ByteArray × Bool :=
  if f x = true ∧ (acc.2 = false ∨ acc.1.size < x.size) then (x, true) else acc
def wordF (f : ByteArray → Bool) (ws : List ByteArray) : ByteArray × Bool := ws.foldl (wstepF f) (ByteArray.empty, false)
theorem wordF_succ (f : ByteArray → Bool) (ws : List ByteArray) (k : Nat) (h : k < ws.length) : wordF f (ws.take (k + 1)) = wstepF f (wordF f (ws.take k)) (ws.getD k ByteArray.empty) := by
  unfold wordF
  rw [List.take_succ_eq_append_getElem h, List.foldl_append]
  simp [List.getD, h]
theorem wordF_none (f : ByteArray → Bool) (hf : ∀ x, f x = false) : ∀ (ws : List ByteArray) (acc : ByteArray × Bool), ws.foldl (wstepF f) acc = acc
  | [], _ => rfl
  | x :: ws, acc => by
    rw [List.foldl_cons, wstepF, if_neg (by simp [hf])]
    exact wordF_none f hf ws acc
theorem wordF_eq (l : List UInt8) (n : Int) (ws : List ByteArray) : wordF (fun x => startsL l n x.data.toList) ws = wordI l n ws := by
  unfold wordI
  split
  · rename_i h
    have e : (fun x : ByteArray => startsL l n x.data.toList) = fun x => hasP (l.drop n.toNat) x.data.toList := by
      funext x
      simp [startsL, h.1, h.2]
    rw [e]
    rfl
  · rename_i h
    have e : ∀ x : ByteArray, startsL l n x.data.toList = false := fun x => by
      unfold startsL
      rw [show (decide (0 ≤ n) && decide (n ≤ (l.length : Int))) = false from by simp; omega]
      rfl
    exact wordF_none _ e ws _

/-- The end of a text without blanks behind: not ahead of a. -/
def stEnd (l : List UInt8) (a : Nat) : Nat → Nat
  | 0 => 0
  | z + 1 => if a < z + 1 ∧ isC ((l.getD z 0).toNat : Int) 6 = true then stEnd l a z else z + 1
theorem getD_at (s : ByteArray) (i : Nat) (h : i < s.size) : s.data.toList.getD i 0 = s[i] := by
  have hl : i < s.data.toList.length := by rw [len_data]; exact h
  simp [List.getD]
  exact (Array.getElem?_eq_getElem h).symm ▸ rfl
theorem stEnd_hit (s : ByteArray) (a y : Nat) (h : y < s.size) (hl : a < y + 1) (hc : isC (s[y].toNat : Int) 6 = true) : stEnd s.data.toList a (y + 1) = stEnd s.data.toList a y := by
  rw [stEnd, if_pos ⟨hl, by rw [getD_at s y h]; exact hc⟩]
theorem stEnd_miss (s : ByteArray) (a y : Nat) (h : y < s.size) (hc : isC (s[y].toNat : Int) 6 = false) : stEnd s.data.toList a (y + 1) = y + 1 := by
  rw [stEnd, if_neg (fun g => by rw [getD_at s y h, hc] at g; simp at g)]
theorem stEnd_low (l : List UInt8) (a z : Nat) (h : z ≤ a) : stEnd l a z = z := by
  cases z with
  | zero => rfl
  | succ y => rw [stEnd, if_neg (by omega)]
/-- A text without blanks at its ends. -/
def stripS (s : ByteArray) : ByteArray := s.extract (runL 6 s.data.toList) (stEnd s.data.toList (runL 6 s.data.toList) s.size)
theorem ret_si {a c : ByteArray} {b d : Int} (h1 : a = c) (h2 : b = d) : Ending.returned (.tuple #[.string a, .int .i64 b]) = .returned (.tuple #[.string c, .int .i64 d]) := by rw [h1, h2]

end Go.Proofs.YtaflflelcdcanaaGreat
