/-
  Walks: words (the document's answer), texts without blanks at their ends.
-/
import Derived.Test.YtglceodiajbhiaaWe
namespace Go.Proofs.Ytglceodiajbhiaa
open Go.RowKit
set_option linter.unusedVariables false

/-- The longest of some words with which a text goes on from a place on. -/
def wordI (l : List UInt8) (n : Int) (ws : List ByteArray) : ByteArray × Bool :=
  if 0 ≤ n ∧ n ≤ (l.length : Int) then wordL (l.drop n.toNat) ws else (ByteArray.empty, false)

set_option maxHeartbeats 400000 in
theorem Word_any (s : ByteArray) (n : Int) (a0 : Option Addr) (ws : List ByteArray) (cap : Nat) (w : World) (hs : s.size ≤ maxLen) (hw : ws.length ≤ maxLen) (hv : Words w a0 ws) :
    Calls Try.prog 10 #[.string s, .int .i64 n, .slice a0 ws.length cap] w fun e w' => e = .returned (.tuple #[.string (wordI s.data.toList n ws).1, .bool (wordI s.data.toList n ws).2]) ∧ w' = w := by
  by_cases hin : 0 ≤ n ∧ n ≤ (s.size : Int)
  · obtain ⟨m, rfl⟩ := Int.eq_ofNat_of_zero_le hin.1
    have e : wordI s.data.toList m ws = wordL (s.data.toList.drop m) ws := by
      unfold wordI; rw [if_pos (by rw [len_data]; exact hin)]; simp
    rw [e]
    exact Word_in s m (by omega) a0 ws cap w hs hw hv
  · have e : wordI s.data.toList n ws = (ByteArray.empty, false) := by
      unfold wordI; rw [if_neg (by rw [len_data]; exact hin)]
    rw [e]
    clear e hv
    have hb : (decide (0 ≤ n) && decide (n ≤ (s.size : Int))) = false := by simp; omega
    clear hin
    go_enter Try.func10, Try.ntmps10
    go_wp2_with (go_at_call 33; refine (inside_any _ _ _).mono ?_; rintro e w' ⟨rfl, rfl⟩)
    go_ret2
    exact ⟨rfl, rfl⟩

/-- One word more is looked at, by whatever test. -/
def wstepF (f : ByteArray → Bool) (acc : ByteArray × Bool) (x : ByteArray) : ByteArray × Bool :=
  if f x = true ∧ (acc.2 = false ∨ acc.1.size < x.size) then (x, true) else acc
def wordF (f : ByteArray → Bool) (ws : List ByteArray) : ByteArray × Bool := ws.foldl (wstepF f) (ByteArray.empty, false)
theorem wordF_succ (f : ByteArray → Bool) (ws : List ByteArray) (k : Nat) (h : k < ws.length) : wordF f (ws.take (k + 1)) = wstepF f (wordF f (ws.take k)) (ws.getD k ByteArray.empty) := by
  unfold wordF
  rw [List.take_succ_eq_append_getElem h, List.foldl_append]
  simp [List.getD, h]
theorem wordF_none (f : ByteArray → Bool) (hf : ∀ x, f x = false) : ∀ (ws : List ByteArray) (acc : ByteArray × Bool), ws.foldl (wstepF f) acc = acc
  | [], _ => rfl
  | x :: ws, acc => by
    rw [List.foldl_cons, wstepF, if_neg (by simp [hf])]
    exact wordF_none f hf ws acc
theorem wordF_eq (l : List UInt8) (n : Int) (ws : List ByteArray) : wordF (fun x => startsL l n x.data.toList) ws = wordI l n ws := by
  unfold wordI
  split
  · rename_i h
    have e : (fun x : ByteArray => startsL l n x.data.toList) = fun x => hasP (l.drop n.toNat) x.data.toList := by
      funext x
      simp [startsL, h.1, h.2]
    rw [e]
    rfl
  · rename_i h
    have e : ∀ x : ByteArray, startsL l n x.data.toList = false := fun x => by
      unfold startsL
      rw [show (decide (0 ≤ n) && decide (n ≤ (l.length : Int))) = false from by simp; omega]
      rfl
    exact wordF_none _ e ws _

set_option maxHeartbeats 1000000 in
theorem RWord_any (s : ByteArray) (n : Int) (a0 : Option Addr) (ws : List ByteArray) (cap : Nat) (w : World) (hs : s.size ≤ maxLen) (hw : ws.length ≤ maxLen) (hv : Words w a0 ws) :
    Calls Try.prog 11 #[.string s, .int .i64 n, .slice a0 ws.length cap] w fun e w' => e = .returned (.tuple #[.string (wordI s.data.toList n ws).1, .bool (wordI s.data.toList n ws).2]) ∧ w' = w := by
  rw [← wordF_eq]
  have HP : Hid (∀ x w, Calls Try.prog 31 #[.string s, .int .i64 n, .string x] w fun e w' => e = .returned (.bool (startsL s.data.toList n x.data.toList)) ∧ w' = w) := fun x w => Starts_any s n x w hs
  unfold maxLen at hs hw
  obtain ⟨f, hf⟩ : ∃ f : ByteArray → Bool, (fun x => startsL s.data.toList n x.data.toList) = f := ⟨_, rfl⟩
  have HP' : Hid (∀ x w, Calls Try.prog 31 #[.string s, .int .i64 n, .string x] w fun e w' => e = .returned (.bool (f x)) ∧ w' = w) := fun x w => by
    have := HP.out x w
    rw [← hf]; exact this
  rw [hf]
  clear HP hf
  rcases hv with rfl | ⟨b, off, rfl, hc⟩
  · go_enter Try.func11, Try.ntmps11
    go_wp2_with fail
    refine wp_loop_rounds 1 ?_
    rw [rounds_succ]
    go_wp2
    go_ret2
    exact ⟨rfl, rfl⟩
  · have HC := hide hc
    clear hc
    go_enter Try.func11, Try.ntmps11
    go_wp2_with fail
    go_loop [8, 9, 10] (fun x y i => ∃ k : Nat, k ≤ ws.length ∧ i = .int .i64 k ∧ ∃ p q, x = .string p ∧ y = .bool q ∧ Hid (wordF f (ws.take k) = (p, q))) (fun _ _ i => ws.length - (intOf i).toNat)
    case atStart => exact ⟨0, by omega, rfl, _, _, rfl, rfl, rfl⟩
    case round =>
      obtain ⟨k, hk, rfl, p, q, rfl, rfl, HR⟩ := hrel
      by_cases hlt : k < ws.length
      · have hcell := HC.out k hlt
        have HX : Hid _ := wordF_succ f ws k hlt
        generalize ws.getD k ByteArray.empty = x at *
        by_cases hp : f x = true
        · cases q with
          | false =>
            go_wp2_with (go_at_call 31; refine (HP'.out _ _).mono ?_; rintro e w' ⟨rfl, rfl⟩)
            go_round
            case rel => exact ⟨k + 1, by omega, by go_num, x, true, rfl, rfl, by rw [HX.out, HR.out]; simp [Hid, wstepF, hp]⟩
            case measure => simp [intOf]; omega
          | true =>
            by_cases hsz : p.size < x.size
            · go_wp2_with (go_at_call 31; refine (HP'.out _ _).mono ?_; rintro e w' ⟨rfl, rfl⟩)
              go_round
              case rel => exact ⟨k + 1, by omega, by go_num, x, true, rfl, rfl, by rw [HX.out, HR.out]; simp [Hid, wstepF, hp, hsz]⟩
              case measure => simp [intOf]; omega
            · go_wp2_with (go_at_call 31; refine (HP'.out _ _).mono ?_; rintro e w' ⟨rfl, rfl⟩)
              go_round
              case rel => exact ⟨k + 1, by omega, by go_num, p, true, rfl, rfl, by rw [HX.out, HR.out]; simp [Hid, wstepF, hp]; omega⟩
              case measure => simp [intOf]; omega
        · have hp' : f x = false := by simpa using hp
          go_wp2_with (go_at_call 31; refine (HP'.out _ _).mono ?_; rintro e w' ⟨rfl, rfl⟩)
          go_round
          case rel => exact ⟨k + 1, by omega, by go_num, p, q, rfl, rfl, by rw [HX.out, HR.out]; simp [Hid, wstepF, hp']⟩
          case measure => simp [intOf]; omega
      · have HA : Hid (ws.take k = ws) := List.take_of_length_le (by omega)
        go_wp2_with fail
        go_ret2
        exact ⟨ret_w (by rw [← HA.out, HR.out]) (by rw [← HA.out, HR.out]), rfl⟩

/-- The end of a text without blanks behind: not ahead of a. -/
def stEnd (l : List UInt8) (a : Nat) : Nat → Nat
  | 0 => 0
  | z + 1 => if a < z + 1 ∧ isC ((l.getD z 0).toNat : Int) 6 = true then stEnd l a z else z + 1
theorem getD_at (s : ByteArray) (i : Nat) (h : i < s.size) : s.data.toList.getD i 0 = s[i] := by
  have hl : i < s.data.toList.length := by rw [len_data]; exact h
  simp [List.getD]
  exact (Array.getElem?_eq_getElem h).symm ▸ rfl
theorem stEnd_hit (s : ByteArray) (a y : Nat) (h : y < s.size) (hl : a < y + 1) (hc : isC (s[y].toNat : Int) 6 = true) : stEnd s.data.toList a (y + 1) = stEnd s.data.toList a y := by
  rw [stEnd, if_pos ⟨hl, by rw [getD_at s y h]; exact hc⟩]
theorem stEnd_miss (s : ByteArray) (a y : Nat) (h : y < s.size) (hc : isC (s[y].toNat : Int) 6 = false) : stEnd s.data.toList a (y + 1) = y + 1 := by
  rw [stEnd, if_neg (fun g => by rw [getD_at s y h, hc] at g; simp at g)]
theorem stEnd_low (l : List UInt8) (a z : Nat) (h : z ≤ a) : stEnd l a z = z := by
  cases z with
  | zero => rfl
  | succ y => rw [stEnd, if_neg (by omega)]
/-- A text without blanks at its ends. -/
def stripS (s : ByteArray) : ByteArray := s.extract (runL 6 s.data.toList) (stEnd s.data.toList (runL 6 s.data.toList) s.size)
theorem ret_si {a c : ByteArray} {b d : Int} (h1 : a = c) (h2 : b = d) : Ending.returned (.tuple #[.string a, .int .i64 b]) = .returned (.tuple #[.string c, .int .i64 d]) := by rw [h1, h2]

set_option maxHeartbeats 400000 in
theorem Strip_any (s : ByteArray) (w : World) (hs : s.size ≤ maxLen) :
    Calls Try.prog 23 #[.string s] w fun e w' => e = .returned (.tuple #[.string (stripS s), .int .i64 (runL 6 s.data.toList : Int)]) ∧ w' = w := by
  have hrun : runI s.data.toList 0 6 = (runL 6 s.data.toList : Int) := by have := runI_in s 0 6 (Nat.zero_le _); simpa using this
  have ha := runL_le 6 s.data.toList
  rw [len_data] at ha
  have HS : Hid (stripS s = s.extract (runL 6 s.data.toList) (stEnd s.data.toList (runL 6 s.data.toList) s.size)) := rfl
  generalize stripS s = S at *
  have HRun : Hid (∀ w, Calls Try.prog 12 #[.string s, .int .i64 0, .int .i64 6] w fun e w' => e = .returned (.int .i64 (runL 6 s.data.toList)) ∧ w' = w) := fun w => by
    have h := Run_any s 0 6 w hs
    rw [hrun] at h
    exact h
  clear hrun
  unfold maxLen at hs
  generalize runL 6 s.data.toList = a at *
  go_enter Try.func23, Try.ntmps23
  go_wp2_with fail
  refine (HRun.out _).mono ?_
  rintro e w' ⟨rfl, rfl⟩
  go_wp2_with fail
  go_loop [5] (fun i => ∃ z : Nat, a ≤ z ∧ z ≤ s.size ∧ i = .int .i64 z ∧ Hid (stEnd s.data.toList a s.size = stEnd s.data.toList a z)) (fun i => (intOf i).toNat)
  case atStart => exact ⟨s.size, ha, Nat.le_refl _, rfl, rfl⟩
  case round =>
    obtain ⟨z, hz, hzn, rfl, HR⟩ := hrel
    by_cases hlt : a < z
    · obtain ⟨y, rfl⟩ : ∃ y, z = y + 1 := ⟨z - 1, by omega⟩
      have hy : y < s.size := by omega
      by_cases hc : isC (s[y].toNat : Int) 6 = true
      · have HX : Hid _ := stEnd_hit s a y hy hlt hc
        go_wp2_with (go_at_call 8; refine (Is_any _ _ _).mono ?_; rintro e w' ⟨rfl, rfl⟩)
        go_round
        case rel => exact ⟨y, by omega, by omega, by go_num, HR.out.trans HX.out⟩
        case measure => simp [intOf]
      · have hc' : isC (s[y].toNat : Int) 6 = false := by simpa using hc
        have HX : Hid _ := stEnd_miss s a y hy hc'
        go_wp2_with (go_at_call 8; refine (Is_any _ _ _).mono ?_; rintro e w' ⟨rfl, rfl⟩)
        go_ret2
        exact ⟨ret_si (by rw [HS.out, HR.out, HX.out]) rfl, rfl⟩
    · have HX : Hid _ := stEnd_low s.data.toList a z (by omega)
      go_wp2_with fail
      go_ret2
      exact ⟨ret_si (by rw [HS.out, HR.out, HX.out]) rfl, rfl⟩

set_option maxHeartbeats 400000 in
theorem RStrip_any (s : ByteArray) (w : World) (hs : s.size ≤ maxLen) :
    Calls Try.prog 24 #[.string s] w fun e w' => e = .returned (.tuple #[.string (stripS s), .int .i64 (runL 6 s.data.toList : Int)]) ∧ w' = w := by
  have hrun : runI s.data.toList 0 6 = (runL 6 s.data.toList : Int) := by have := runI_in s 0 6 (Nat.zero_le _); simpa using this
  have ha := runL_le 6 s.data.toList
  rw [len_data] at ha
  have HS : Hid (stripS s = s.extract (runL 6 s.data.toList) (stEnd s.data.toList (runL 6 s.data.toList) s.size)) := rfl
  generalize stripS s = S at *
  have HRun : Hid (∀ w, Calls Try.prog 13 #[.string s, .int .i64 0, .int .i64 6] w fun e w' => e = .returned (.int .i64 (runL 6 s.data.toList)) ∧ w' = w) := fun w => by
    have h := RRun_any s 0 6 w hs
    rw [hrun] at h
    exact h
  clear hrun
  unfold maxLen at hs
  generalize runL 6 s.data.toList = a at *
  go_enter Try.func24, Try.ntmps24
  go_wp2_with fail
  refine (HRun.out _).mono ?_
  rintro e w' ⟨rfl, rfl⟩
  go_wp2_with fail
  go_loop [5] (fun i => ∃ z : Nat, a ≤ z ∧ z ≤ s.size ∧ i = .int .i64 z ∧ Hid (stEnd s.data.toList a s.size = stEnd s.data.toList a z)) (fun i => (intOf i).toNat)
  case atStart => exact ⟨s.size, ha, Nat.le_refl _, rfl, rfl⟩
  case round =>
    obtain ⟨z, hz, hzn, rfl, HR⟩ := hrel
    by_cases hlt : a < z
    · obtain ⟨y, rfl⟩ : ∃ y, z = y + 1 := ⟨z - 1, by omega⟩
      have hy : y < s.size := by omega
      by_cases hc : isC (s[y].toNat : Int) 6 = true
      · have HX : Hid _ := stEnd_hit s a y hy hlt hc
        go_wp2_with (go_at_call 9; refine (RIs_any _ _ _).mono ?_; rintro e w' ⟨rfl, rfl⟩)
        go_round
        case rel => exact ⟨y, by omega, by omega, by go_num, HR.out.trans HX.out⟩
        case measure => simp [intOf]
      · have hc' : isC (s[y].toNat : Int) 6 = false := by simpa using hc
        have HX : Hid _ := stEnd_miss s a y hy hc'
        go_wp2_with (go_at_call 9; refine (RIs_any _ _ _).mono ?_; rintro e w' ⟨rfl, rfl⟩)
        go_ret2
        exact ⟨ret_si (by rw [HS.out, HR.out, HX.out]) rfl, rfl⟩
    · have HX : Hid _ := stEnd_low s.data.toList a z (by omega)
      go_wp2_with fail
      go_ret2
      exact ⟨ret_si (by rw [HS.out, HR.out, HX.out]) rfl, rfl⟩

end Go.Proofs.Ytglceodiajbhiaa
