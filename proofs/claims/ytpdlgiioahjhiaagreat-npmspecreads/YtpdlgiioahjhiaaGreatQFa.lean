/-
  Walks: digits, numbers with a nought ahead, identifiers, what is wrong at a place, in the program and in the document's answer. · Plain functions of versions' order; no program is named here. · Walks: the order of identifiers, of lists of them, of versions. · Walks: the iterator over identifiers, for every loop body that keeps the two boxes that it reads. · Blocks that lie in memory, told as a list; what keeps them. · Walks: how long a version's text would be; which versions are fit.
-/
import Derived.Test.YtpdlgiioahjhiaaGreatQPlainS
import Derived.StillTailTactics
import Derived.Deep.QuietTactic
import Derived.BigQuiet
import Derived.RangeFuncNested
import Derived.RangeFuncBound
import Derived.RangeFuncCalls
import Derived.RangeFuncLeaves
import Derived.Shelf.Abstract
import Derived.Shelf.RegionOpen
import Derived.OwnWalkIn
import Derived.TacticsInMore
import Derived.LoopNIn
import Derived.LoopIn
import Derived.Sort.QuietIn
namespace Go.Proofs.YtpdlgiioahjhiaaGreat
open Go.RowKit
set_option linter.unusedVariables false

theorem eqE (s : ByteArray) (h : 0 < s.size) : (s.toList == []) = false := by
  rw [toL]
  rw [← len_data] at h
  cases hl : s.data.toList with
  | nil => rw [hl] at h; simp at h
  | cons c r => rfl
theorem emp (s : ByteArray) (h : 0 < s.size) : s.data.toList.isEmpty = false := by
  rw [← len_data] at h
  cases hl : s.data.toList with
  | nil => rw [hl] at h; simp at h
  | cons c r => rfl
theorem size0 (s : ByteArray) (h : ¬ 0 < s.size) : s = ⟨#[]⟩ := by
  cases s with | mk d =>
    have : d.size = 0 := by simpa [ByteArray.size] using h
    rw [Array.eq_empty_of_size_eq_zero this]

set_option maxHeartbeats 400000 in
theorem digits_any (s : ByteArray) (w : World) (hs : s.size ≤ maxLen) :
    Calls Tryz.prog 102 #[.string s] w fun e w' => e = .returned (.bool (digB s.data.toList)) ∧ w' = w := by
  by_cases hp : 0 < s.size
  · have hb := eqE s hp
    have hI : runI s.data.toList 0 1 = (runL 1 s.data.toList : Int) := by have := runI_in s 0 1 (by omega); simpa using this
    have HI := hide hI
    have HE := hide (emp s hp)
    clear hI
    go_enter Tryz.func102, Tryz.ntmps102
    go_wp2_with fail
    refine (Run_any _ _ _ _ hs).mono ?_
    rintro e w' ⟨rfl, rfl⟩
    go_wp2_with fail
    go_ret
    refine ⟨ret_b ?_, rfl⟩
    rw [digB, HE.out, HI.out, len_data]
    simp
    rw [Bool.eq_iff_iff]
    simp
    omega
  · have := size0 s hp
    subst this
    go_enter Tryz.func102, Tryz.ntmps102
    go_wp2_with fail
    go_ret
    exact ⟨rfl, rfl⟩

theorem head_at (s : ByteArray) (h : 0 < s.size) : s.data.toList.head? = some s[0] := by
  have := drop_at s 0 h
  rw [List.drop_zero] at this
  rw [this]; rfl

set_option maxHeartbeats 400000 in
theorem zeroAhead_any (s : ByteArray) (w : World) (hs : s.size ≤ maxLen) :
    Calls Tryz.prog 103 #[.string s] w fun e w' => e = .returned (.bool (zeroB s.data.toList)) ∧ w' = w := by
  have HZ : Hid (zeroB s.data.toList = (decide (1 < s.data.toList.length) && (s.data.toList.head? == some 48) && digB s.data.toList)) := rfl
  generalize zeroB s.data.toList = Z at *
  by_cases h1 : 1 < s.size
  · have HH := hide (head_at s (by omega))
    by_cases h2 : s[0] = 48
    · have hb : ((s[0].toNat : Int) == 48) = true := by rw [h2]; rfl
      have H2 := hide h2
      clear h2
      have h0 : 0 < s.size := by omega
      go_enter Tryz.func103, Tryz.ntmps103
      go_wp2_with fail
      refine (digits_any _ _ hs).mono ?_
      rintro e w' ⟨rfl, rfl⟩
      go_wp2_with fail
      go_ret
      exact ⟨ret_b (by rw [HZ.out, HH.out, len_data, H2.out]; simp [h1]), rfl⟩
    · have hb : ((s[0].toNat : Int) == 48) = false := by
        have : s[0].toNat ≠ 48 := fun e => h2 (UInt8.toNat_inj.1 e)
        simp; omega
      have H2 := hide h2
      clear h2
      have h0 : 0 < s.size := by omega
      go_enter Tryz.func103, Tryz.ntmps103
      go_wp2_with fail
      go_ret
      exact ⟨ret_b (by rw [HZ.out, HH.out]; simp [H2.out]), rfl⟩
  · go_enter Tryz.func103, Tryz.ntmps103
    go_wp2_with fail
    go_ret
    exact ⟨ret_b (by rw [HZ.out, len_data]; simp [h1]), rfl⟩

set_option maxHeartbeats 400000 in
theorem isNumber_any (s : ByteArray) (w : World) (hs : s.size ≤ maxLen) :
    Calls Tryz.prog 67 #[.string s] w fun e w' => e = .returned (.bool (numB s.data.toList)) ∧ w' = w := by
  have HZ : Hid (numB s.data.toList = (digB s.data.toList && !zeroB s.data.toList)) := rfl
  have D := hide (fun w => digits_any s w hs)
  have Z := hide (fun w => zeroAhead_any s w hs)
  generalize numB s.data.toList = X at *
  generalize digB s.data.toList = d at *
  generalize zeroB s.data.toList = z at *
  cases d
  · go_enter Tryz.func67, Tryz.ntmps67
    go_wp2_with fail
    refine (D.out _).mono ?_
    rintro e w' ⟨rfl, rfl⟩
    go_wp2_with fail
    go_ret
    exact ⟨ret_b (by rw [HZ.out]; rfl), rfl⟩
  · go_enter Tryz.func67, Tryz.ntmps67
    go_wp2_with fail
    refine (D.out _).mono ?_
    rintro e w' ⟨rfl, rfl⟩
    go_wp2_with fail
    refine (Z.out _).mono ?_
    rintro e w' ⟨rfl, rfl⟩
    go_wp2_with fail
    go_ret
    exact ⟨ret_b (by rw [HZ.out]; rfl), rfl⟩

theorem isId_dash (c : UInt8) (h : c = 45) : isId c = true := by subst h; rfl
theorem isId_not (c : UInt8) (h : c ≠ 45) : isId c = isC (c.toNat : Int) 5 := by
  unfold isId
  have : (c == 45) = false := by simpa using h
  rw [this, Bool.false_or]

set_option maxHeartbeats 400000 in
theorem identifierEnd_any (s : ByteArray) (a : Nat) (w : World) (hs : s.size ≤ 9223372036854775806) (ha : a ≤ s.size) :
    Calls Tryz.prog 104 #[.string s, .int .i64 (a : Int)] w fun e w' => e = .returned (.int .i64 ((a + idL (s.data.toList.drop a) : Nat) : Int)) ∧ w' = w := by
  go_enter Tryz.func104, Tryz.ntmps104
  go_wp2_with fail
  go_loop [1] (fun i => ∃ j : Nat, a ≤ j ∧ j ≤ s.size ∧ i = .int .i64 j ∧ Hid (a + idL (s.data.toList.drop a) = j + idL (s.data.toList.drop j))) (fun i => s.size - (intOf i).toNat)
  case atStart => exact ⟨a, Nat.le_refl _, ha, rfl, rfl⟩
  case round =>
    obtain ⟨j, haj, hj, rfl, HR⟩ := hrel
    by_cases hlt : j < s.size
    · by_cases h45 : s[j] = 45
      · have hb : ((s[j].toNat : Int) == 45) = true := by rw [h45]; rfl
        have HX := hide (idL_hit s j hlt (isId_dash _ h45))
        clear h45
        go_wp2_with fail
        go_round
        case rel => exact ⟨j + 1, by omega, by omega, by go_num, by have x := HX.out; have y := HR.out; show _ = _; omega⟩
        case measure => simp [intOf]; omega
      · have hb : ((s[j].toNat : Int) == 45) = false := by
          have : s[j].toNat ≠ 45 := fun e => h45 (UInt8.toNat_inj.1 e)
          simp; omega
        have hI := isId_not _ h45
        clear h45
        by_cases hc : isC (s[j].toNat : Int) 5 = true
        · have HX := hide (idL_hit s j hlt (by rw [hI]; exact hc))
          clear hI
          go_wp2_with (go_at_call 55; refine (Is_any _ _ _).mono ?_; rintro e w' ⟨rfl, rfl⟩)
          go_round
          case rel => exact ⟨j + 1, by omega, by omega, by go_num, by have x := HX.out; have y := HR.out; show _ = _; omega⟩
          case measure => simp [intOf]; omega
        · have hc' : isC (s[j].toNat : Int) 5 = false := by simpa using hc
          have HX := hide (idL_miss s j hlt (by rw [hI]; exact hc'))
          clear hI
          go_wp2_with (go_at_call 55; refine (Is_any _ _ _).mono ?_; rintro e w' ⟨rfl, rfl⟩)
          go_ret
          exact ⟨ret_i (by have x := HX.out; have y := HR.out; omega), rfl⟩
    · have HX := hide (idL_end s j (by omega))
      go_wp2_with fail
      go_ret
      exact ⟨ret_i (by have x := HX.out; have y := HR.out; omega), rfl⟩

set_option maxHeartbeats 400000 in
theorem misfit_any (s : ByteArray) (a : Nat) (w : World) :
    Calls Tryz.prog 57 #[.string s, .int .i64 (a : Int)] w fun e w' => e = .returned (.int .i64 (misL s.size a)) ∧ w' = w := by
  by_cases h : a = s.size
  · have hb : ((a : Int) == (s.size : Int)) = true := by simp; omega
    have HM : Hid (misL s.size a = 11) := if_pos h
    clear h
    go_enter Tryz.func57, Tryz.ntmps57
    go_wp2_with fail
    go_ret
    exact ⟨ret_i HM.out.symm, rfl⟩
  · have hb : ((a : Int) == (s.size : Int)) = false := by simp; omega
    have HM : Hid (misL s.size a = 10) := if_neg h
    clear h
    go_enter Tryz.func57, Tryz.ntmps57
    go_wp2_with fail
    go_ret
    exact ⟨ret_i HM.out.symm, rfl⟩

theorem at_some (s : ByteArray) (e : Nat) (h : e < s.size) : s.data.toList[e]? = some s[e] := by
  rw [List.getElem?_eq_getElem (by rw [len_data]; exact h)]; rfl
theorem at_none (s : ByteArray) (e : Nat) (h : ¬ e < s.size) : s.data.toList[e]? = none := by
  rw [List.getElem?_eq_none (by rw [len_data]; omega)]

theorem ne_byte {c : UInt8} {k : Nat} (hk : k < 256) (h : c ≠ UInt8.ofNat k) : ((c.toNat : Int) == (k : Int)) = false := by
  have : c.toNat ≠ k := fun e => h (UInt8.toNat_inj.1 (by rw [e, UInt8.toNat_ofNat']; omega))
  simp; omega

set_option maxHeartbeats 1000000 in
theorem wrong_any (s x : ByteArray) (a : Nat) (p : Bool) (w : World) (hs : s.size ≤ maxLen) (hx : x.size ≤ maxLen) :
    Calls Tryz.prog 74 #[.string s, .string x, .int .i64 (a : Int), .bool p] w fun e w' => e = .returned (.int .i64 (wrongL p s.data.toList x.data.toList a)) ∧ w' = w := by
  have hW : wrongL p s.data.toList x.data.toList a = if x.data.toList = [] then misL s.size a else if !p || !zeroB x.data.toList then 0 else if s.data.toList[a]? = some 46 ∨ s.data.toList[a]? = some 43 then 14 else misL s.size a := by rw [wrongL, len_data]
  generalize wrongL p s.data.toList x.data.toList a = R at *
  by_cases hp : 0 < x.size
  · have hb := eqE x hp
    have hne : ¬ x.data.toList = [] := by
      have := emp x hp
      intro e; rw [e] at this; simp at this
    rw [if_neg hne] at hW
    clear hne
    have Z := hide (fun w => zeroAhead_any x w hx)
    generalize zeroB x.data.toList = z at *
    cases p
    · have HW := hide hW
      clear hW
      go_enter Tryz.func74, Tryz.ntmps74
      go_wp2_with fail
      go_ret
      exact ⟨ret_i (by rw [HW.out]; rfl), rfl⟩
    · cases z
      · have HW := hide hW
        clear hW
        go_enter Tryz.func74, Tryz.ntmps74
        go_wp2_with fail
        refine (Z.out _).mono ?_
        rintro e w' ⟨rfl, rfl⟩
        go_wp2_with fail
        go_ret
        exact ⟨ret_i (by rw [HW.out]; rfl), rfl⟩
      · rw [if_neg (by decide)] at hW
        by_cases hlt : a < s.size
        · rw [at_some s a hlt] at hW
          by_cases h46 : s[a] = 46
          · rw [if_pos (.inl (by rw [h46]))] at hW
            have c1 : ((s[a].toNat : Int) == 46) = true := by rw [h46]; rfl
            have HW := hide hW
            clear hW h46
            go_enter Tryz.func74, Tryz.ntmps74
            go_wp2_with fail
            refine (Z.out _).mono ?_
            rintro e w' ⟨rfl, rfl⟩
            go_wp2_with fail
            go_ret
            exact ⟨ret_i HW.out.symm, rfl⟩
          · have c1 : ((s[a].toNat : Int) == 46) = false := ne_byte (k := 46) (by omega) h46
            by_cases h43 : s[a] = 43
            · rw [if_pos (.inr (by rw [h43]))] at hW
              have c2 : ((s[a].toNat : Int) == 43) = true := by rw [h43]; rfl
              have HW := hide hW
              clear hW h43 h46
              go_enter Tryz.func74, Tryz.ntmps74
              go_wp2_with fail
              refine (Z.out _).mono ?_
              rintro e w' ⟨rfl, rfl⟩
              go_wp2_with fail
              go_ret
              exact ⟨ret_i HW.out.symm, rfl⟩
            · have c2 : ((s[a].toNat : Int) == 43) = false := ne_byte (k := 43) (by omega) h43
              rw [if_neg (by simp [h46, h43])] at hW
              have HW := hide hW
              clear hW h43 h46
              go_enter Tryz.func74, Tryz.ntmps74
              go_wp2_with fail
              refine (Z.out _).mono ?_
              rintro e w' ⟨rfl, rfl⟩
              go_wp2_with fail
              refine (misfit_any _ _ _).mono ?_
              rintro e w' ⟨rfl, rfl⟩
              go_wp2_with fail
              go_ret
              exact ⟨ret_i HW.out.symm, rfl⟩
        · rw [at_none s a hlt, if_neg (by simp)] at hW
          have HW := hide hW
          clear hW
          go_enter Tryz.func74, Tryz.ntmps74
          go_wp2_with fail
          refine (Z.out _).mono ?_
          rintro e w' ⟨rfl, rfl⟩
          go_wp2_with fail
          refine (misfit_any _ _ _).mono ?_
          rintro e w' ⟨rfl, rfl⟩
          go_wp2_with fail
          go_ret
          exact ⟨ret_i HW.out.symm, rfl⟩
  · have := size0 x hp
    subst this
    rw [if_pos rfl] at hW
    have HW := hide hW
    clear hW
    go_enter Tryz.func74, Tryz.ntmps74
    go_wp2_with fail
    refine (misfit_any _ _ _).mono ?_
    rintro e w' ⟨rfl, rfl⟩
    go_wp2_with fail
    go_ret
    exact ⟨ret_i HW.out.symm, rfl⟩

set_option maxHeartbeats 400000 in
theorem isIdentifier_any (s : ByteArray) (w : World) (hs : s.size ≤ 9223372036854775806) :
    Calls Tryz.prog 70 #[.string s] w fun e w' => e = .returned (.bool (idB s.data.toList)) ∧ w' = w := by
  have hI : idB s.data.toList = (!s.data.toList.isEmpty && (idL s.data.toList == s.data.toList.length)) := rfl
  generalize idB s.data.toList = X at *
  by_cases hp : 0 < s.size
  · have hb := eqE s hp
    rw [emp s hp, len_data] at hI
    have I := identifierEnd_any s 0 w hs (by omega)
    simp only [List.drop_zero, Nat.zero_add] at I
    have HI := hide hI
    clear hI
    have HC := hide I
    clear I
    go_enter Tryz.func70, Tryz.ntmps70
    go_wp2_with fail
    refine HC.out.mono ?_
    rintro e w' ⟨rfl, rfl⟩
    go_wp2_with fail
    go_ret
    refine ⟨ret_b ?_, rfl⟩
    rw [HI.out, Bool.eq_iff_iff]
    simp
    omega
  · have := size0 s hp
    subst this
    have HI := hide hI
    clear hI
    go_enter Tryz.func70, Tryz.ntmps70
    go_wp2_with fail
    go_ret
    exact ⟨ret_b HI.out.symm, rfl⟩

set_option maxHeartbeats 400000 in
theorem fitsPre_any (s : ByteArray) (w : World) (hs : s.size ≤ 9223372036854775806) :
    Calls Tryz.prog 69 #[.string s] w fun e w' => e = .returned (.bool (preB s.data.toList)) ∧ w' = w := by
  have HZ : Hid (preB s.data.toList = (idB s.data.toList && !zeroB s.data.toList)) := rfl
  have D := hide (fun w => isIdentifier_any s w hs)
  have Z := hide (fun w => zeroAhead_any s w (by unfold maxLen; omega))
  generalize preB s.data.toList = X at *
  generalize idB s.data.toList = d at *
  generalize zeroB s.data.toList = z at *
  cases d
  · go_enter Tryz.func69, Tryz.ntmps69
    go_wp2_with fail
    refine (D.out _).mono ?_
    rintro e w' ⟨rfl, rfl⟩
    go_wp2_with fail
    go_ret
    exact ⟨ret_b (by rw [HZ.out]; rfl), rfl⟩
  · go_enter Tryz.func69, Tryz.ntmps69
    go_wp2_with fail
    refine (D.out _).mono ?_
    rintro e w' ⟨rfl, rfl⟩
    go_wp2_with fail
    refine (Z.out _).mono ?_
    rintro e w' ⟨rfl, rfl⟩
    go_wp2_with fail
    go_ret
    exact ⟨ret_b (by rw [HZ.out]; rfl), rfl⟩

end Go.Proofs.YtpdlgiioahjhiaaGreat

namespace Go.Proofs.YtpdlgiioahjhiaaGreat

structure SemL where
  maj : List UInt8
  min : List UInt8
  pat : List UInt8
  pre : List (List UInt8)
  bld : List (List UInt8)

def oneO (a b : List UInt8) : Int :=
  if digB a then (if digB b then cmpD a b else -1) else if digB b then 1 else Lib.compareBytes a b
def lexO : List (List UInt8) → List (List UInt8) → Int
  | [], [] => 0
  | [], _ :: _ => -1
  | _ :: _, [] => 1
  | x :: a, y :: b => if oneO x y = 0 then lexO a b else oneO x y
def preO (a b : List (List UInt8)) : Int :=
  if a = [] ∨ b = [] then (if b.length < a.length then -1 else if a.length < b.length then 1 else 0) else lexO a b
def or4 (x y z u : Int) : Int := if x ≠ 0 then x else if y ≠ 0 then y else if z ≠ 0 then z else u
def ordO (a b : SemL) : Int := or4 (cmpD a.maj b.maj) (cmpD a.min b.min) (cmpD a.pat b.pat) (preO a.pre b.pre)
def semOf (l : List UInt8) (c : Cuts) : SemL := ⟨seg l 0 c.a, seg l c.b c.c, seg l c.d c.e, c.pre.map fun x => seg l x.1 x.2, c.bld.map fun x => seg l x.1 x.2⟩
def cmpT (a b : List UInt8) : Int :=
  match parseR a, parseR b with
  | .ok x, .ok y => ordO (semOf a x) (semOf b y)
  | .ok _, .error _ => 1
  | .error _, .ok _ => -1
  | .error _, .error _ => Lib.compareBytes a b

theorem lexO_drop (a b : List (List UInt8)) (i : Nat) (ha : i < a.length) (hb : i < b.length) : lexO (a.drop i) (b.drop i) = if oneO a[i] b[i] = 0 then lexO (a.drop (i + 1)) (b.drop (i + 1)) else oneO a[i] b[i] := by
  rw [List.drop_eq_getElem_cons ha, List.drop_eq_getElem_cons hb, lexO]
theorem lexO_endb (a b : List (List UInt8)) (i : Nat) (ha : i < a.length) (hb : b.length ≤ i) : lexO (a.drop i) (b.drop i) = 1 := by
  rw [List.drop_eq_getElem_cons ha, List.drop_eq_nil_of_le hb, lexO]
theorem lexO_enda (a b : List (List UInt8)) (i : Nat) (ha : a.length ≤ i) (hb : i < b.length) : lexO (a.drop i) (b.drop i) = -1 := by
  rw [List.drop_eq_getElem_cons hb, List.drop_eq_nil_of_le ha, lexO]
theorem lexO_end (a b : List (List UInt8)) (i : Nat) (ha : a.length ≤ i) (hb : b.length ≤ i) : lexO (a.drop i) (b.drop i) = 0 := by
  rw [List.drop_eq_nil_of_le ha, List.drop_eq_nil_of_le hb, lexO]

end Go.Proofs.YtpdlgiioahjhiaaGreat

namespace Go.Proofs.YtpdlgiioahjhiaaGreat
open Go.RowKit
set_option linter.unusedVariables false

set_option maxHeartbeats 400000 in
theorem orderId_any (a b : ByteArray) (w : World) (ha : a.size ≤ 9223372036854775806) (hb : b.size ≤ 9223372036854775806) :
    Calls Tryz.prog 143 #[.string a, .string b] w fun e w' => e = .returned (.int .i64 (oneO a.data.toList b.data.toList)) ∧ w' = w := by
  have hO : oneO a.data.toList b.data.toList = if digB a.data.toList then (if digB b.data.toList then cmpD a.data.toList b.data.toList else -1) else if digB b.data.toList then 1 else Lib.compareBytes a.data.toList b.data.toList := rfl
  have D1 := hide (fun w => digits_any a w (by unfold maxLen; omega))
  have D2 := hide (fun w => digits_any b w (by unfold maxLen; omega))
  generalize oneO a.data.toList b.data.toList = O at *
  generalize digB a.data.toList = x at *
  generalize digB b.data.toList = y at *
  have HO := hide hO
  clear hO
  cases x <;> cases y
  · go_enter Tryz.func143, Tryz.ntmps143
    go_wp2_with fail
    refine (D1.out _).mono ?_
    rintro e w' ⟨rfl, rfl⟩
    go_wp2_with fail
    refine (D2.out _).mono ?_
    rintro e w' ⟨rfl, rfl⟩
    go_wp2_with fail
    refine (StrCompare_any _ _ _).mono ?_
    rintro e w' ⟨rfl, rfl⟩
    go_wp2_with fail
    go_ret
    exact ⟨ret_i (by rw [HO.out]; rfl), rfl⟩
  · go_enter Tryz.func143, Tryz.ntmps143
    go_wp2_with fail
    refine (D1.out _).mono ?_
    rintro e w' ⟨rfl, rfl⟩
    go_wp2_with fail
    refine (D2.out _).mono ?_
    rintro e w' ⟨rfl, rfl⟩
    go_wp2_with fail
    go_ret
    exact ⟨ret_i (by rw [HO.out]; rfl), rfl⟩
  · go_enter Tryz.func143, Tryz.ntmps143
    go_wp2_with fail
    refine (D1.out _).mono ?_
    rintro e w' ⟨rfl, rfl⟩
    go_wp2_with fail
    refine (D2.out _).mono ?_
    rintro e w' ⟨rfl, rfl⟩
    go_wp2_with fail
    go_ret
    exact ⟨ret_i (by rw [HO.out]; rfl), rfl⟩
  · go_enter Tryz.func143, Tryz.ntmps143
    go_wp2_with fail
    refine (D1.out _).mono ?_
    rintro e w' ⟨rfl, rfl⟩
    go_wp2_with fail
    refine (D2.out _).mono ?_
    rintro e w' ⟨rfl, rfl⟩
    go_wp2_with fail
    refine (Cmp_any _ _ _ ha hb).mono ?_
    rintro e w' ⟨rfl, rfl⟩
    go_wp2_with fail
    go_ret
    exact ⟨ret_i (by rw [HO.out]; rfl), rfl⟩

def Txt (W : World) (v : Value) (ts : List (List UInt8)) : Prop :=
  ∃ a cap, v = .slice a ts.length cap ∧ (ts = [] ∨ ∃ b off, a = some ⟨b, off, none⟩ ∧ b < W.heap.size ∧ ∀ i (h : i < ts.length), W.cell? ⟨b, off + i, none⟩ = some (.string (ofL ts[i])))
theorem Txt.below {W W' : World} {v : Value} {ts : List (List UInt8)} (h : Txt W v ts) (hb : Below W.heap.size W W') : Txt W' v ts := by
  obtain ⟨a, cap, hv, h0 | ⟨b, off, ha, hlt, hc⟩⟩ := h
  · exact ⟨a, cap, hv, .inl h0⟩
  · exact ⟨a, cap, hv, .inr ⟨b, off, ha, Nat.lt_of_lt_of_le hlt hb.size, fun i hi => by rw [← hc i hi]; simp only [World.cell?]; rw [hb.block b hlt]⟩⟩
theorem Txt.some {W : World} {a : Option Addr} {n cap : Nat} {ts : List (List UInt8)} (h : Txt W (.slice a n cap) ts) (hne : 0 < ts.length) :
    ∃ b off, a = some ⟨b, off, none⟩ ∧ ∀ i (h : i < ts.length), W.cell? ⟨b, off + i, none⟩ = some (.string (ofL ts[i])) := by
  obtain ⟨a', cap', hv, h0 | ⟨b, off, ha, hlt, hc⟩⟩ := h
  · subst h0; simp at hne
  · cases hv
    exact ⟨b, off, ha, hc⟩

def Short (ts : List (List UInt8)) : Prop := ts.length ≤ 9223372036854775806 ∧ ∀ t ∈ ts, t.length ≤ 9223372036854775806

set_option maxHeartbeats 1000000 in
theorem CompareFunc_any (va vb : Value) (xs ys : List (List UInt8)) (w : World) (ha : Txt w va xs) (hb : Txt w vb ys) (sx : Short xs) (sy : Short ys) :
    Calls Tryz.prog 142 #[va, vb, .func (.func 143) #[] #[]] w fun e w' => e = .returned (.int .i64 (lexO xs ys)) ∧ w' = w := by
  obtain ⟨a1, c1, rfl, _⟩ := id ha
  obtain ⟨a2, c2, rfl, _⟩ := id hb
  have HA := hide ha
  have HB := hide hb
  have SX := hide sx
  have SY := hide sy
  have lx := sx.1
  have ly := sy.1
  clear ha hb sx sy
  go_enter Tryz.func142, Tryz.ntmps142
  go_wp2_with fail
  go_loop [13] (fun i => ∃ k : Nat, k ≤ xs.length ∧ k ≤ ys.length ∧ i = .int .i64 k ∧ Hid (lexO xs ys = lexO (xs.drop k) (ys.drop k))) (fun i => xs.length - (intOf i).toNat)
  case atStart => exact ⟨0, by omega, by omega, rfl, by simp [Hid]⟩
  case round =>
    obtain ⟨k, hk, hky, rfl, HR⟩ := hrel
    by_cases h1 : k < xs.length
    · obtain ⟨b1, o1, rfl, hc1⟩ := HA.out.some (by omega)
      have p1 := hc1 k h1
      clear hc1
      by_cases h2 : k < ys.length
      · obtain ⟨b2, o2, rfl, hc2⟩ := HB.out.some (by omega)
        have p2 := hc2 k h2
        clear hc2
        have C := orderId_any (ofL xs[k]) (ofL ys[k]) w (by rw [ofL_size]; exact SX.out.2 _ (List.getElem_mem _)) (by rw [ofL_size]; exact SY.out.2 _ (List.getElem_mem _))
        rw [ofL_data, ofL_data] at C
        have HC := hide C
        clear C
        have hX := lexO_drop xs ys k h1 h2
        have hge : ¬ ((ys.length : Int) ≤ (k : Int)) := by omega
        generalize xs[k] = x at *
        generalize ys[k] = y at *
        generalize oneO x y = O at *
        by_cases h0 : O = 0
        · subst h0
          rw [if_pos rfl] at hX
          have HX := hide hX
          clear hX
          go_wp2_with fail
          refine HC.out.mono ?_
          rintro e w' ⟨rfl, hw'⟩
          rw [hw']
          clear hw' w'
          go_wp2_with fail
          go_round
          case rel => exact ⟨k + 1, by omega, by omega, by go_num, by rw [HR.out, HX.out]; rfl⟩
          case measure => simp [intOf]; omega
        · rw [if_neg h0] at hX
          have hb0 : (O != 0) = true := by simpa using h0
          have HX := hide hX
          clear hX h0
          go_wp2_with fail
          refine HC.out.mono ?_
          rintro e w' ⟨rfl, hw'⟩
          rw [hw']
          clear hw' w'
          go_wp2_with fail
          go_ret
          exact ⟨ret_i (by rw [HR.out, HX.out]), rfl⟩
      · have HX := hide (lexO_endb xs ys k h1 (by omega))
        have hge : ((ys.length : Int) ≤ (k : Int)) := by omega
        go_wp2_with fail
        go_ret
        exact ⟨ret_i (by rw [HR.out, HX.out]), rfl⟩
    · by_cases h2 : k < ys.length
      · have HX := hide (lexO_enda xs ys k (by omega) h2)
        have hlt : ((xs.length : Int) < (ys.length : Int)) := by omega
        go_wp2_with fail
        go_ret
        exact ⟨ret_i (by rw [HR.out, HX.out]), rfl⟩
      · have HX := hide (lexO_end xs ys k (by omega) (by omega))
        have hlt : ¬ ((xs.length : Int) < (ys.length : Int)) := by omega
        go_wp2_with fail
        go_ret
        exact ⟨ret_i (by rw [HR.out, HX.out]), rfl⟩

theorem int_eq0 {n : Nat} (h : n = 0) : ((n : Int) == 0) = true := by subst h; rfl
theorem int_ne0 {n : Nat} (h : ¬ n = 0) : ((n : Int) == 0) = false := by simp; omega

set_option maxHeartbeats 1000000 in
theorem orderPre_any (va vb : Value) (xs ys : List (List UInt8)) (w : World) (ha : Txt w va xs) (hb : Txt w vb ys) (sx : Short xs) (sy : Short ys) :
    Calls Tryz.prog 107 #[va, vb] w fun e w' => e = .returned (.int .i64 (preO xs ys)) ∧ w' = w := by
  have C := CompareFunc_any va vb xs ys w ha hb sx sy
  obtain ⟨a1, c1, rfl, _⟩ := id ha
  obtain ⟨a2, c2, rfl, _⟩ := id hb
  have lx := sx.1
  have ly := sy.1
  have hP : preO xs ys = if xs = [] ∨ ys = [] then (if ys.length < xs.length then -1 else if xs.length < ys.length then 1 else 0) else lexO xs ys := rfl
  generalize preO xs ys = R at *
  have HC := hide C
  clear C ha hb sx sy
  by_cases h1 : xs.length = 0
  · rw [if_pos (.inl (List.length_eq_zero_iff.1 h1))] at hP
    have CC := Compare_any (ys.length : Int) (xs.length : Int) w
    simp only [Int.ofNat_lt] at CC
    rw [← hP] at CC
    have HD := hide CC
    have hb1 := int_eq0 h1
    clear hP CC h1
    go_enter Tryz.func107, Tryz.ntmps107
    go_wp2_with fail
    refine HD.out.mono ?_
    rintro e w' ⟨rfl, rfl⟩
    go_wp2_with fail
    go_ret
    exact ⟨rfl, rfl⟩
  · have hb1 := int_ne0 h1
    by_cases h2 : ys.length = 0
    · rw [if_pos (.inr (List.length_eq_zero_iff.1 h2))] at hP
      have CC := Compare_any (ys.length : Int) (xs.length : Int) w
      simp only [Int.ofNat_lt] at CC
      rw [← hP] at CC
      have HD := hide CC
      have hb2 := int_eq0 h2
      clear hP CC h1 h2
      go_enter Tryz.func107, Tryz.ntmps107
      go_wp2_with fail
      refine HD.out.mono ?_
      rintro e w' ⟨rfl, rfl⟩
      go_wp2_with fail
      go_ret
      exact ⟨rfl, rfl⟩
    · rw [if_neg (by rintro (h | h) <;> simp [h] at h1 h2)] at hP
      have HP := hide hP
      have hb2 := int_ne0 h2
      clear hP h1 h2
      go_enter Tryz.func107, Tryz.ntmps107
      go_wp2_with fail
      refine HC.out.mono ?_
      rintro e w' ⟨rfl, rfl⟩
      go_wp2_with fail
      go_ret
      exact ⟨ret_i HP.out.symm, rfl⟩

set_option maxHeartbeats 1000000 in
theorem Or_any (B : Nat) (x y z u : Int) (w : World) (h0 : w.cell? ⟨B, 0, none⟩ = some (.int .i64 x)) (h1 : w.cell? ⟨B, 1, none⟩ = some (.int .i64 y)) (h2 : w.cell? ⟨B, 2, none⟩ = some (.int .i64 z)) (h3 : w.cell? ⟨B, 3, none⟩ = some (.int .i64 u)) :
    Calls Tryz.prog 105 #[.slice (some ⟨B, 0, none⟩) 4 4] w fun e w' => e = .returned (.int .i64 (or4 x y z u)) ∧ w' = w := by
  have hO : or4 x y z u = if x ≠ 0 then x else if y ≠ 0 then y else if z ≠ 0 then z else u := rfl
  generalize or4 x y z u = R at *
  by_cases c0 : x = 0
  · rw [if_neg (by simp [c0])] at hO
    have b0 : (x != 0) = false := by simpa using c0
    by_cases c1 : y = 0
    · rw [if_neg (by simp [c1])] at hO
      have b1 : (y != 0) = false := by simpa using c1
      by_cases c2 : z = 0
      · rw [if_neg (by simp [c2])] at hO
        have b2 : (z != 0) = false := by simpa using c2
        by_cases c3 : u = 0
        · have HO : Hid (R = 0) := hO.trans c3
          have b3 : (u != 0) = false := by simpa using c3
          clear hO c0 c1 c2 c3
          go_enter Tryz.func105, Tryz.ntmps105
          go_wp2_with fail
          refine wp_loop_rounds 5 ?_
          rw [rounds_succ]
          go_wp2_with fail
          rw [rounds_succ]
          go_wp2_with fail
          rw [rounds_succ]
          go_wp2_with fail
          rw [rounds_succ]
          go_wp2_with fail
          rw [rounds_succ]
          go_wp2_with fail
          go_ret
          exact ⟨ret_i HO.out.symm, rfl⟩
        · have HO := hide hO
          have b3 : (u != 0) = true := by simpa using c3
          clear hO c0 c1 c2 c3
          go_enter Tryz.func105, Tryz.ntmps105
          go_wp2_with fail
          refine wp_loop_rounds 5 ?_
          rw [rounds_succ]
          go_wp2_with fail
          rw [rounds_succ]
          go_wp2_with fail
          rw [rounds_succ]
          go_wp2_with fail
          rw [rounds_succ]
          go_wp2_with fail
          go_ret
          exact ⟨ret_i HO.out.symm, rfl⟩
      · rw [if_pos c2] at hO
        have HO := hide hO
        have b2 : (z != 0) = true := by simpa using c2
        clear hO c0 c1 c2
        go_enter Tryz.func105, Tryz.ntmps105
        go_wp2_with fail
        refine wp_loop_rounds 5 ?_
        rw [rounds_succ]
        go_wp2_with fail
        rw [rounds_succ]
        go_wp2_with fail
        rw [rounds_succ]
        go_wp2_with fail
        go_ret
        exact ⟨ret_i HO.out.symm, rfl⟩
    · rw [if_pos c1] at hO
      have HO := hide hO
      have b1 : (y != 0) = true := by simpa using c1
      clear hO c0 c1
      go_enter Tryz.func105, Tryz.ntmps105
      go_wp2_with fail
      refine wp_loop_rounds 5 ?_
      rw [rounds_succ]
      go_wp2_with fail
      rw [rounds_succ]
      go_wp2_with fail
      go_ret
      exact ⟨ret_i HO.out.symm, rfl⟩
  · rw [if_pos c0] at hO
    have HO := hide hO
    have b0 : (x != 0) = true := by simpa using c0
    clear hO c0
    go_enter Tryz.func105, Tryz.ntmps105
    go_wp2_with fail
    refine wp_loop_rounds 5 ?_
    rw [rounds_succ]
    go_wp2_with fail
    go_ret
    exact ⟨ret_i HO.out.symm, rfl⟩

def SemAt (W : World) (v : Value) (x : SemL) : Prop :=
  ∃ vp vb, v = .agg #[.string (ofL x.maj), .string (ofL x.min), .string (ofL x.pat), vp, vb] ∧ Txt W vp x.pre ∧ Txt W vb x.bld
theorem SemAt.below {W W' : World} {v : Value} {x : SemL} (h : SemAt W v x) (hb : Below W.heap.size W W') : SemAt W' v x := by
  obtain ⟨vp, vb, hv, h1, h2⟩ := h
  exact ⟨vp, vb, hv, h1.below hb, h2.below hb⟩
def ShortS (x : SemL) : Prop := x.maj.length ≤ 9223372036854775806 ∧ x.min.length ≤ 9223372036854775806 ∧ x.pat.length ≤ 9223372036854775806 ∧ Short x.pre ∧ Short x.bld

theorem cmp_ofL (a b : List UInt8) (w : World) (ha : a.length ≤ 9223372036854775806) (hb : b.length ≤ 9223372036854775806) :
    Calls Tryz.prog 106 #[.string (ofL a), .string (ofL b)] w fun e w' => e = .returned (.int .i64 (cmpD a b)) ∧ w' = w := by
  have := Cmp_any (ofL a) (ofL b) w (by rw [ofL_size]; exact ha) (by rw [ofL_size]; exact hb)
  rw [ofL_data, ofL_data] at this
  exact this

set_option maxRecDepth 100000 in
set_option maxHeartbeats 2000000 in
theorem order_any (va vb : Value) (x y : SemL) (w : World) (ha : SemAt w va x) (hb : SemAt w vb y) (sx : ShortS x) (sy : ShortS y) :
    Calls Tryz.prog 71 #[va, vb] w fun e w' => e = .returned (.int .i64 (ordO x y)) ∧ Below w.heap.size w w' := by
  obtain ⟨p1, q1, rfl, t1, u1⟩ := ha
  obtain ⟨p2, q2, rfl, t2, u2⟩ := hb
  obtain ⟨a1, c1, rfl, _⟩ := id t1
  obtain ⟨a2, c2, rfl, _⟩ := id t2
  obtain ⟨a3, c3, rfl, _⟩ := id u1
  obtain ⟨a4, c4, rfl, _⟩ := id u2
  have C1 := hide (fun w => cmp_ofL x.maj y.maj w sx.1 sy.1)
  have C2 := hide (fun w => cmp_ofL x.min y.min w sx.2.1 sy.2.1)
  have C3 := hide (fun w => cmp_ofL x.pat y.pat w sx.2.2.1 sy.2.2.1)
  have C4 := hide (fun W hW => orderPre_any _ _ x.pre y.pre W (t1.below hW) (t2.below hW) sx.2.2.2.1 sy.2.2.2.1)
  have HO : Hid (ordO x y = or4 (cmpD x.maj y.maj) (cmpD x.min y.min) (cmpD x.pat y.pat) (preO x.pre y.pre)) := rfl
  generalize ordO x y = O at *
  generalize cmpD x.maj y.maj = o1 at *
  generalize cmpD x.min y.min = o2 at *
  generalize cmpD x.pat y.pat = o3 at *
  generalize preO x.pre y.pre = o4 at *
  clear t1 t2 u1 u2 sx sy
  go_enter Tryz.func71, Tryz.ntmps71
  go_wp2_with fail
  refine wp_region_still_tail 20 (by kernel_rfl) (by kernel_rfl) ?_
  change wpStill _ _ (World.drew _) _ _ _
  simp only [List.take_succ_cons, List.take_zero, List.drop_succ_cons, List.drop_zero]
  still_step
  still_step
  still_step
  still_step
  still_call (C1.out _)
  still_step
  still_step
  still_step
  still_step
  still_call (C2.out _)
  still_step
  still_step
  still_step
  still_step
  still_call (C3.out _)
  still_step
  still_step
  still_step
  still_step
  still_call (C4.out _ (((Below.refl _ w).alloc (Nat.le_refl _) _).alloc (by simp) _).drew)
  refine wpStill_nil ?_
  go_wp2_with fail
  refine (Or_any _ o1 o2 o3 o4 _ (by go_simp) (by go_simp) (by go_simp) (by go_simp)).mono ?_
  rintro e w' ⟨rfl, rfl⟩
  go_wp2_with fail
  go_ret
  exact ⟨ret_i HO.out.symm, ((((Below.refl _ w).alloc (Nat.le_refl _) _).alloc (by simp) _).alloc (by simp; omega) _).drew⟩

end Go.Proofs.YtpdlgiioahjhiaaGreat

namespace Go.Proofs.YtpdlgiioahjhiaaGreat
open Go.RowKit Go.Shelf
set_option linter.unusedVariables false

attribute [local go_sem] Oper.semAt_some

def Two (b c : Nat) (W W' : World) : Prop := W'.heap[b]? = W.heap[b]? ∧ W'.heap[c]? = W.heap[c]?
theorem Two.refl (b c : Nat) (W : World) : Two b c W W := ⟨rfl, rfl⟩
theorem Two.trans {b c : Nat} {A B C : World} (h : Two b c A B) (k : Two b c B C) : Two b c A C := ⟨k.1.trans h.1, k.2.trans h.2⟩
theorem Two.boxed {b c : Nat} {W W' : World} (h : Two b c W W') {t u : TypeId} {x y : Value} (hb : Boxed W b t x) (hc : Boxed W c u y) : Boxed W' b t x ∧ Boxed W' c u y := ⟨h.1.trans hb, h.2.trans hc⟩

set_option maxRecDepth 100000 in
set_option maxHeartbeats 2000000 in
theorem ids1_in (n : Nat) (hn : 1 ≤ n) (l Ba Bs : Nat) (s : ByteArray) (a : Nat) (ha : a ≤ s.size) (hs : s.size ≤ 4000000000000) (J Jx : List (Nat × Nat) → World → Prop) (B0 : Nat) (hJ : AbidesFrom B0 J)
    (hY : ∀ pre x W, J pre W → pre.length < (segs s.data.toList a).length → YieldAt Fence.wide (n - 1) Tryz.prog l #[.string (s.extract x.1 x.2), .int .i64 (x.2 : Int)] W fun e W' =>
      (e = .returned (.bool true) ∧ J (pre ++ [x]) W' ∧ Two Ba Bs W W') ∨ (e = .returned (.bool false) ∧ Jx (pre ++ [x]) W'))
    (W : World) (hBa : Boxed W Ba 3 (.int .i64 (a : Int))) (hBs : Boxed W Bs 9 (.string s)) (h0 : J [] W) :
    CallsIn Fence.wide n Tryz.prog 108 #[.func (.yield l) #[] #[], .pointer (some ⟨Ba, 0, none⟩), .pointer (some ⟨Bs, 0, none⟩)] W fun e W' => (∃ v, e = .returned v) ∧
      ((∃ ys, ys = segs s.data.toList a ∧ J ys W') ∨ (∃ pre, pre <+: segs s.data.toList a ∧ Jx pre W')) := by
  have cA0 := hBa.cell
  refine callsIn_of_wp Tryz.func108 rfl trivial ?_ rfl
  simp only [Tryz.ntmps108, List.size_toArray, List.length_cons, List.length_nil, Nat.reduceAdd, Nat.reduceSub, Array.replicate_succ, Array.replicate_zero, List.push_toArray, List.append_toArray, List.nil_append, List.cons_append]
  gi_wp2
  gi_loopw [4] (fun i wr => ∃ (k : Nat) (pre : List (Nat × Nat)), k ≤ s.size ∧ i = .int .i64 k ∧ J pre wr ∧ Boxed wr Ba 3 (.int .i64 (a : Int)) ∧ Boxed wr Bs 9 (.string s) ∧
      Hid (segs s.data.toList a = pre ++ segs s.data.toList k))
    (fun i _ => s.size - (intOf i).toNat)
  case atStart => exact ⟨a, [], ha, rfl, h0, hBa, hBs, rfl⟩
  case round =>
    obtain ⟨k, pre, hk, rfl, hJs, bA, bS, HR⟩ := hrel
    have cS := bS.cell
    have hle := idL_drop_le s k hk
    have C := identifierEnd_any s k wr (by omega) hk
    have hD := segs_dot s.data.toList k _ rfl
    have hL := segs_last s.data.toList k _ rfl
    have hke : k ≤ k + idL (s.data.toList.drop k) := by omega
    generalize k + idL (s.data.toList.drop k) = e at *
    have HC := hide C
    clear C
    by_cases hlt : e < s.size
    · have hne : ((e : Int) == (s.size : Int)) = false := by simp; omega
      rw [at_some s e hlt] at hD hL
      by_cases hc : s[e] = 46
      · have hb : ((s[e].toNat : Int) != 46) = false := by rw [hc]; rfl
        have HX := hide (hD (by rw [hc]))
        clear hc hD hL
        obtain ⟨fn, tmps, assign, body, hy, hR⟩ := hY pre (k, e) wr hJs (by rw [HR.out, HX.out]; simp)
        dsimp only at hy
        gi_wp2_with (refine ⟨trivial, ?_⟩; gi_at_call 104; refine (callsIn_wide.2 HC.out).mono ?_; rintro e w' ⟨rfl, hw'⟩; rw [hw']; clear hw' w')
        refine hR.mono ?_
        rintro e' W3 (⟨rfl, hJ3, hk3⟩ | ⟨rfl, hJx3⟩)
        · obtain ⟨bA3, bS3⟩ := hk3.boxed bA bS
          clear cS
          have cS := bS3.cell
          gi_wp2
          go_roundw
          case rel => exact ⟨e + 1, pre ++ [(k, e)], by omega, by go_num, hJ3, bA3, bS3, by rw [HR.out, HX.out]; simp [Hid]⟩
          case measure => simp [intOf]; omega
        · gi_wp2
          refine bodyPost_ret (results_none rfl _ _ _) rfl ?_
          exact ⟨⟨_, rfl⟩, .inr ⟨pre ++ [(k, e)], by rw [HR.out, HX.out]; exact ⟨_, by simp; rfl⟩, hJx3⟩⟩
      · have hb : ((s[e].toNat : Int) != 46) = true := by have := ne_byte (k := 46) (by omega) hc; simpa [bne] using this
        have HX := hide (hL (by simpa using hc))
        clear hc hD hL
        obtain ⟨fn, tmps, assign, body, hy, hR⟩ := hY pre (k, e) wr hJs (by rw [HR.out, HX.out]; simp)
        dsimp only at hy
        gi_wp2_with (refine ⟨trivial, ?_⟩; gi_at_call 104; refine (callsIn_wide.2 HC.out).mono ?_; rintro e w' ⟨rfl, hw'⟩; rw [hw']; clear hw' w')
        refine hR.mono ?_
        rintro e' W3 (⟨rfl, hJ3, hk3⟩ | ⟨rfl, hJx3⟩)
        · obtain ⟨bA3, bS3⟩ := hk3.boxed bA bS
          clear cS
          have cS := bS3.cell
          gi_wp2
          refine bodyPost_ret (results_none rfl _ _ _) rfl ?_
          exact ⟨⟨_, rfl⟩, .inl ⟨pre ++ [(k, e)], by rw [HR.out, HX.out], hJ3⟩⟩
        · gi_wp2
          refine bodyPost_ret (results_none rfl _ _ _) rfl ?_
          exact ⟨⟨_, rfl⟩, .inr ⟨pre ++ [(k, e)], by rw [HR.out, HX.out]; exact List.prefix_refl _, hJx3⟩⟩
    · have hne : ((e : Int) == (s.size : Int)) = true := by simp; omega
      rw [at_none s e hlt] at hD hL
      have HX := hide (hL (by simp))
      clear hD hL
      obtain ⟨fn, tmps, assign, body, hy, hR⟩ := hY pre (k, e) wr hJs (by rw [HR.out, HX.out]; simp)
      dsimp only at hy
      gi_wp2_with (refine ⟨trivial, ?_⟩; gi_at_call 104; refine (callsIn_wide.2 HC.out).mono ?_; rintro e w' ⟨rfl, hw'⟩; rw [hw']; clear hw' w')
      refine hR.mono ?_
      rintro e' W3 (⟨rfl, hJ3, hk3⟩ | ⟨rfl, hJx3⟩)
      · obtain ⟨bA3, bS3⟩ := hk3.boxed bA bS
        clear cS
        have cS := bS3.cell
        gi_wp2
        refine bodyPost_ret (results_none rfl _ _ _) rfl ?_
        exact ⟨⟨_, rfl⟩, .inl ⟨pre ++ [(k, e)], by rw [HR.out, HX.out], hJ3⟩⟩
      · gi_wp2
        refine bodyPost_ret (results_none rfl _ _ _) rfl ?_
        exact ⟨⟨_, rfl⟩, .inr ⟨pre ++ [(k, e)], by rw [HR.out, HX.out]; exact List.prefix_refl _, hJx3⟩⟩

theorem ids_stops (n : Nat) (hn : 1 ≤ n) (Ba Bs : Nat) (s : ByteArray) (a : Nat) (ha : a ≤ s.size) (hs : s.size ≤ 4000000000000) (w : World) (hBa : Boxed w Ba 3 (.int .i64 (a : Int))) (hBs : Boxed w Bs 9 (.string s)) :
    SeqStopsK Fence.wide n Tryz.prog 108 #[.pointer (some ⟨Ba, 0, none⟩), .pointer (some ⟨Bs, 0, none⟩)] (fun x : Nat × Nat => #[Value.string (s.extract x.1 x.2), .int .i64 (x.2 : Int)]) (Two Ba Bs) (fun ys => ys = segs s.data.toList a) (fun pre => pre <+: segs s.data.toList a) (segs s.data.toList a).length w := fun l J Jx W hW hJ _ hY h0 =>
  ids1_in n hn l Ba Bs s a ha hs J Jx W.heap.size hJ hY W ((hW.block Ba hBa.lt).trans hBa) ((hW.block Bs hBs.lt).trans hBs) h0

set_option maxHeartbeats 400000 in
theorem identifiers_any (s : ByteArray) (a : Int) (w : World) :
    Calls Tryz.prog 73 #[.string s, .int .i64 a] w fun e w' => e = .returned (.func (.func 108) #[] #[.pointer (some ⟨w.heap.size + 1, 0, none⟩), .pointer (some ⟨w.heap.size, 0, none⟩)]) ∧ w' = (w.alloc (.cells #[.string s] 9)).alloc (.cells #[.int .i64 a] 3) := by
  go_enter Tryz.func73, Tryz.ntmps73
  go_wp2
  go_ret
  exact ⟨rfl, rfl⟩

theorem two_b {b c : Nat} {w : World} (hb : b < w.heap.size) (hc : c < w.heap.size) : ∀ (W : World) (l : Nat) (o o' : Obj), w.heap.size ≤ l → W.heap[l]? = some o → o.isCells = false → o.isWalk = false → Two b c W (W.putObj l o') :=
  fun W l o o' hl _ _ _ => ⟨World.putObj_heap_other (by omega), World.putObj_heap_other (by omega)⟩

end Go.Proofs.YtpdlgiioahjhiaaGreat

namespace Go.Proofs.YtpdlgiioahjhiaaGreat
open Go.RowKit Go.Shelf
set_option linter.unusedVariables false

def Lies (W : World) (ps : List (Nat × Obj)) : Prop := ∀ p ∈ ps, W.heap[p.1]? = some p.2
theorem Lies.nil (W : World) : Lies W [] := by intro p hp; cases hp
theorem Lies.cons {W : World} {B : Nat} {o : Obj} {ps : List (Nat × Obj)} (h : W.heap[B]? = some o) (hs : Lies W ps) : Lies W ((B, o) :: ps) := by
  intro p hp
  rcases List.mem_cons.1 hp with rfl | hp
  · exact h
  · exact hs p hp
theorem Lies.head {W : World} {B : Nat} {o : Obj} {ps : List (Nat × Obj)} (h : Lies W ((B, o) :: ps)) : W.heap[B]? = some o := h (B, o) List.mem_cons_self
theorem Lies.tail {W : World} {p : Nat × Obj} {ps : List (Nat × Obj)} (h : Lies W (p :: ps)) : Lies W ps := fun q hq => h q (List.mem_cons_of_mem _ hq)
theorem Lies.lt {W : World} {ps : List (Nat × Obj)} (h : Lies W ps) (p : Nat × Obj) (hp : p ∈ ps) : p.1 < W.heap.size := (Array.getElem?_eq_some_iff.1 (h p hp)).1
theorem Lies.kept {W W' : World} {row : Option Nat} {ps : List (Nat × Obj)} (h : Lies W ps) (hg : W.grownBy W' row) (hne : ∀ p ∈ ps, some p.1 ≠ row) : Lies W' ps :=
  fun p hp => (hg.block p.1 (h.lt p hp) (hne p hp)).trans (h p hp)
theorem Lies.alloc {W : World} {ps : List (Nat × Obj)} (h : Lies W ps) (o : Obj) : Lies (W.alloc o) ps := h.kept (World.grownBy_alloc W o none) (by simp)
theorem grownBy_set (W : World) (b o : Nat) (v : Value) : W.grownBy (W.setCell ⟨b, o, none⟩ v) (some b) :=
  ⟨rfl, rfl, rfl, (KeepsWalks.setCell W _ v).size, fun k _ hk => Below.heap_setCell _ _ _ k (fun e => hk (by rw [e]))⟩
theorem Lies.other {W : World} {ps : List (Nat × Obj)} (h : Lies W ps) (b o : Nat) (v : Value) (hne : ∀ p ∈ ps, p.1 ≠ b) : Lies (W.setCell ⟨b, o, none⟩ v) ps :=
  h.kept (grownBy_set W b o v) (fun p hp e => hne p hp (by simpa using e))
theorem Lies.below {W W' : World} {n : Nat} {ps : List (Nat × Obj)} (h : Lies W ps) (hb : Below n W W') (hn : ∀ p ∈ ps, p.1 < n) : Lies W' ps :=
  fun p hp => (hb.block p.1 (hn p hp)).trans (h p hp)
theorem one_cell {W : World} {B : Nat} {t : TypeId} {v : Value} {m : Nat × Nat} (h : W.heap[B]? = some (.cells #[v] t m)) : W.cell? ⟨B, 0, none⟩ = some v := by simp [World.cell?, h]
theorem one_free {W : World} {B : Nat} {t : TypeId} {cs : Array Value} (o : Nat) (h : W.heap[B]? = some (.cells cs t (0, 0))) : W.frozen? ⟨B, o, none⟩ = false := by simp [World.frozen?, h]
theorem cell_at {W : World} {B : Nat} {t : TypeId} {cs : Array Value} {m : Nat × Nat} (o : Nat) {v : Value} (h : W.heap[B]? = some (.cells cs t m)) (hv : cs[o]? = some v) : W.cell? ⟨B, o, none⟩ = some v := by simp [World.cell?, h, hv]
theorem set_lies {W : World} {B : Nat} {t : TypeId} {cs : Array Value} {m : Nat × Nat} (o : Nat) (v : Value) (h : W.heap[B]? = some (.cells cs t m)) : (W.setCell ⟨B, o, none⟩ v).heap[B]? = some (.cells (cs.setIfInBounds o v) t m) := by
  obtain ⟨hlt, hk⟩ := Array.getElem?_eq_some_iff.1 h
  show (W.heap.modify B _)[B]? = _
  rw [Array.getElem?_eq_getElem (by rw [Array.size_modify]; exact hlt), Array.getElem_modify_self, hk]
  rfl

/-! ### A region that draws its order, in a round of a loop over an iterator: as outside of one, where nothing is deferred -/

section
variable {F : Fence} {n l : Nat} {P : Program} {ops : Array Oper} {Q : Exit → Act → World → Prop} {md : Region.Mode}

theorem oper_round {o : Oper} (hro : F.round = none) (hd : ∀ c, o.op ≠ .defer c) {a : Act} {w : World} {K : Act → World → Prop} (h : Oper.wpIn F n P o a w K Q) : Oper.wpIn (F.inRound l) n P o a w K Q := by
  unfold Oper.wpIn at *
  refine ⟨h.1, ?_⟩
  have h2 := h.2
  rw [Oper.semAt_plain F _ _ hd] at h2
  rw [Oper.semAt_plain (F.inRound l) _ _ hd]
  exact h2

theorem wpOpIn_round (hro : F.round = none) (hd : ∀ (i : Nat) (o : Oper), ops[i]? = some o → ∀ c, o.op ≠ .defer c) {i : Nat} {K : Act → World → Prop} {a : Act} {w : World} (h : wpOpIn F n P ops Q i K a w) : wpOpIn (F.inRound l) n P ops Q i K a w := by
  unfold wpOpIn at *
  cases ho : ops[i]? with
  | none => simpa [ho] using h
  | some o =>
    simp only [ho] at h ⊢
    split
    · rename_i hw; simp only [hw, if_true] at h; exact oper_round hro (hd i o ho) h
    · rename_i hw; simp only [hw] at h; exact h

theorem wpAnyIn_round (hro : F.round = none) (hd : ∀ (i : Nat) (o : Oper), ops[i]? = some o → ∀ c, o.op ≠ .defer c) :
    ∀ (fuel : Nat) (listed : Array Bool) (a : Act) (w : World), wpAnyIn F n P md ops Q fuel listed a w → wpAnyIn (F.inRound l) n P md ops Q fuel listed a w
  | 0, _, _, _, h => h
  | fuel + 1, listed, a, w, h => ⟨h.1, fun i hi => wpOpIn_mono (fun a' w' h' => wpAnyIn_round hro hd fuel _ a' w' h') (wpOpIn_round hro hd (h.2 i hi))⟩

theorem stepIn_append_own {o : Oper} {a : Act} {w : World} {K : Act → World → Prop} {E : Prop}
    (hg : o.guard = none) (s x : Operand) (t : TypeId) (hop : o.op = Op.call { callee := Callee.builtin Builtin.append, args := #[s, x], argTypes := #[t, t] })
    (base : Nat) (e : TypeId) (i : TypeInfo) (z : Value) (size bytes : Nat) (h1 : P.underlying t = some (.slice e)) (h2 : P.info? e = some i) (h3 : i.zero = some z) (h4 : i.size = size) (h5 : i.bytes = bytes) (h6 : z.cells.size = size) (h7 : 0 < size)
    (v : Value) (k : Nat) (xs : List Value) (hs : a.eval s = v) (hown : w.ownsRow base e size v k xs) (ad : Addr) (m c : Nat) (news : List Value) (hx : a.eval x = .slice (some ad) m c) (hn : news.length = m * size)
    (hc : ∀ j u, news[j]? = some u → w.cell? (ad.add j) = some u) (h1c : ∀ u ∈ news, u.oneCell' = true) (b1 : k + m ≤ maxLen) (b2 : (k + m) * bytes ≤ 140737488355328) (b3 : base ≤ w.heap.size)
    (hK : ∀ v' w', w'.ownsRow base e size v' (k + m) (xs ++ news) → w.grownBy w' v.ownBlock → (v' = .slice none 0 0 ↔ v = .slice none 0 0 ∧ m = 0) → K (a.put o.dst v') w') :
    if Region.wanted o (yielded ops a.tmps) = true then Oper.wpIn F n P o a w K Q else E := by
  have hw : Region.wanted o (yielded ops a.tmps) = true := by simp [Region.wanted, hg]
  rw [if_pos hw]
  obtain ⟨v', w', hrun, r1, r2, r3⟩ := run_append_own (P := P) w base t o.type e i z size bytes h1 h2 h3 h4 h5 h6 h7 v k xs hown ad m c news hn hc h1c b1 b2 b3
  unfold Oper.wpIn
  refine ⟨?_, ?_⟩
  · simp [Oper.about, hop, resolve, Target.leads, Sem.run_pure]
  · rw [Oper.semAt_plain F _ _ (by rw [hop]; intro c hc'; cases hc')]
    simp [execOp, hop, resolve, invoke, builtin, hs, hx, hrun, Result.andThen]
    exact hK v' w' r1 r2 r3
end


end Go.Proofs.YtpdlgiioahjhiaaGreat

namespace Go.Proofs.YtpdlgiioahjhiaaGreat
open Go.RowKit
set_option linter.unusedVariables false

def lenI : List (List UInt8) → Nat
  | [] => 0
  | t :: r => 1 + t.length + lenI r
def lenS (x : SemL) : Nat := x.maj.length + x.min.length + x.pat.length + 2 + lenI x.pre + lenI x.bld
def fitW (x : SemL) : Bool := decide (wrap64 (lenS x : Int) ≤ 64) && numB x.maj && numB x.min && numB x.pat && x.pre.all preB && x.bld.all idB

theorem wrap_in (a b : Int) : wrap64 (wrap64 a + b) = wrap64 (a + b) := by
  unfold wrap64
  omega
theorem wrap_id (a : Int) (h : -9223372036854775808 ≤ a ∧ a ≤ 9223372036854775807) : wrap64 a = a := by
  unfold wrap64
  omega
theorem val_i {a b : Int} (h : a = b) : Value.int .i64 a = Value.int .i64 b := by rw [h]
theorem lenI_take (ts : List (List UInt8)) : ∀ k (h : k < ts.length), lenI (ts.take (k + 1)) = lenI (ts.take k) + (1 + ts[k].length) := by
  induction ts with
  | nil => intro k h; simp at h
  | cons t r ih =>
    intro k h
    cases k with
    | zero => simp [lenI]
    | succ k =>
      have := ih k (by simpa using h)
      simp only [List.take_succ_cons, lenI, List.getElem_cons_succ]
      omega

set_option maxHeartbeats 400000 in
theorem all_any (g : Nat) (P : List UInt8 → Bool) (hg : ∀ (t : List UInt8) (w : World), t.length ≤ 9223372036854775806 → Calls Tryz.prog g #[.string (ofL t)] w fun e w' => e = .returned (.bool (P t)) ∧ w' = w)
    (hgg : g = 69 ∨ g = 70) (v : Value) (ts : List (List UInt8)) (w : World) (hv : Txt w v ts) (hs : Short ts) :
    Calls Tryz.prog 68 #[v, .func (.func g) #[] #[]] w fun e w' => e = .returned (.bool (ts.all P)) ∧ w' = w := by
  obtain ⟨a1, c1, rfl, _⟩ := id hv
  have HV := hide hv
  have HS := hide hs
  have ls := hs.1
  have HG := hide hg
  clear hv hs hg
  rcases hgg with rfl | rfl
  all_goals
    go_enter Tryz.func68, Tryz.ntmps68
    go_wp2_with fail
    go_loop [9] (fun i => ∃ k : Nat, k ≤ ts.length ∧ i = .int .i64 k ∧ Hid (ts.all P = (ts.drop k).all P)) (fun i => ts.length - (intOf i).toNat)
    case atStart => exact ⟨0, by omega, rfl, by simp [Hid]⟩
    case round =>
      obtain ⟨k, hk, rfl, HR⟩ := hrel
      by_cases h1 : k < ts.length
      · obtain ⟨b1, o1, rfl, hc1⟩ := HV.out.some (by omega)
        have p1 := hc1 k h1
        clear hc1
        have C := HG.out ts[k] w (HS.out.2 _ (List.getElem_mem _))
        have hX : (ts.drop k).all P = (P ts[k] && (ts.drop (k + 1)).all P) := by rw [List.drop_eq_getElem_cons h1, List.all_cons]
        generalize ts[k] = t at *
        generalize P t = b at *
        have HC := hide C
        have HX := hide hX
        clear C hX
        cases b
        · go_wp2_with fail
          refine HC.out.mono ?_
          rintro e w' ⟨rfl, hw'⟩
          rw [hw']
          clear hw' w'
          go_wp2_with fail
          go_ret
          exact ⟨ret_b (by rw [HR.out, HX.out]; rfl), rfl⟩
        · go_wp2_with fail
          refine HC.out.mono ?_
          rintro e w' ⟨rfl, hw'⟩
          rw [hw']
          clear hw' w'
          go_wp2_with fail
          go_round
          case rel => exact ⟨k + 1, by omega, by go_num, by rw [HR.out, HX.out]; simp [Hid]⟩
          case measure => simp [intOf]; omega
      · go_wp2_with fail
        go_ret
        exact ⟨ret_b (by rw [HR.out, List.drop_eq_nil_of_le (by omega)]; rfl), rfl⟩

theorem txt_some {W : World} {a : Option Addr} {n cap : Nat} {ts : List (List UInt8)} (h : Txt W (.slice a n cap) ts) (hne : 0 < ts.length) :
    ∃ b off, a = some ⟨b, off, none⟩ ∧ b < W.heap.size ∧ ∀ i (h : i < ts.length), W.cell? ⟨b, off + i, none⟩ = some (.string (ofL ts[i])) := by
  obtain ⟨a', cap', hv, h0 | ⟨b, off, ha, hlt, hc⟩⟩ := h
  · subst h0; simp at hne
  · cases hv
    exact ⟨b, off, ha, hlt, hc⟩

set_option maxRecDepth 100000 in
set_option maxHeartbeats 1000000 in
theorem size_any (v : Value) (x : SemL) (w : World) (hv : SemAt w v x) (sx : ShortS x) :
    Calls Tryz.prog 66 #[v] w fun e w' => e = .returned (.int .i64 (wrap64 (lenS x : Int))) ∧ Below w.heap.size w w' := by
  obtain ⟨p1, q1, rfl, t1, u1⟩ := hv
  obtain ⟨a1, c1, rfl, _⟩ := id t1
  obtain ⟨a2, c2, rfl, _⟩ := id u1
  have T1 := hide t1
  have U1 := hide u1
  obtain ⟨s1, s2, s3, s4, s5⟩ := sx
  have l4 := s4.1
  have l5 := s5.1
  have S4 := hide s4.2
  have S5 := hide s5.2
  clear t1 u1 s4 s5
  have HN : Hid (wrap64 (wrap64 (wrap64 (((ofL x.maj).size : Int) + ((ofL x.min).size : Int)) + ((ofL x.pat).size : Int)) + 2) = wrap64 ((x.maj.length + x.min.length + x.pat.length + 2 : Nat) : Int)) := by
    show _ = _
    rw [wrap_in, show wrap64 (((ofL x.maj).size : Int) + ((ofL x.min).size : Int)) + ((ofL x.pat).size : Int) + 2 = wrap64 (((ofL x.maj).size : Int) + ((ofL x.min).size : Int)) + (((ofL x.pat).size : Int) + 2) by omega, wrap_in, ofL_size, ofL_size, ofL_size]
    congr 1
  have HE : Hid (lenS x = x.maj.length + x.min.length + x.pat.length + 2 + lenI x.pre + lenI x.bld) := rfl
  generalize lenS x = L at *
  generalize x.maj.length + x.min.length + x.pat.length + 2 = B at *
  go_enter Tryz.func66, Tryz.ntmps66
  go_wp2_with fail
  rw [HN.out]
  generalize hA : wrap64 (B : Int) = A at *
  refine wp_loop_rounds 3 ?_
  rw [rounds_succ]
  go_wp2_with fail
  go_loop [3, 32] (fun n i => ∃ k : Nat, k ≤ x.pre.length ∧ i = .int .i64 k ∧ n = .int .i64 (wrap64 ((B + lenI (x.pre.take k) : Nat) : Int))) (fun _ i => x.pre.length - (intOf i).toNat)
  case atStart => exact ⟨0, by omega, rfl, by rw [← hA]; simp [lenI]⟩
  case round =>
    obtain ⟨k, hk, rfl, rfl⟩ := hrel
    by_cases h1 : k < x.pre.length
    · obtain ⟨b1, o1, rfl, hlt1, hc1⟩ := txt_some T1.out (by omega)
      have p1 := hc1 k h1
      have hlt2 : b1 < w.heap.size + 1 := by omega
      clear hc1
      have hl := S4.out _ (List.getElem_mem h1)
      have HX := hide (lenI_take x.pre k h1)
      generalize x.pre[k] = t at *
      rw [← ofL_size] at hl
      go_wp2_with fail
      go_round
      case rel => exact ⟨k + 1, by omega, by go_num, val_i (by rw [wrap_in, HX.out, ofL_size]; congr 1; omega)⟩
      case measure => simp [intOf]; omega
    · have hK : lenI (x.pre.take k) = lenI x.pre := by rw [List.take_of_length_le (by omega)]
      rw [hK]
      clear hK
      generalize hB2 : B + lenI x.pre = B2 at *
      generalize hA2 : wrap64 (B2 : Int) = A2 at *
      go_wp2_with fail
      rw [rounds_succ]
      go_wp2_with fail
      go_loop [3, 32] (fun n i => ∃ k : Nat, k ≤ x.bld.length ∧ i = .int .i64 k ∧ n = .int .i64 (wrap64 ((B2 + lenI (x.bld.take k) : Nat) : Int))) (fun _ i => x.bld.length - (intOf i).toNat)
      case atStart => exact ⟨0, by omega, rfl, by rw [← hA2]; simp [lenI]⟩
      case round =>
        obtain ⟨k, hk, rfl, rfl⟩ := hrel
        by_cases h2 : k < x.bld.length
        · obtain ⟨b1, o1, rfl, hlt1, hc1⟩ := txt_some U1.out (by omega)
          have p1 := hc1 k h2
          have hlt2 : b1 < w.heap.size + 1 := by omega
          clear hc1
          have hl := S5.out _ (List.getElem_mem h2)
          have HX := hide (lenI_take x.bld k h2)
          generalize x.bld[k] = t at *
          rw [← ofL_size] at hl
          go_wp2_with fail
          go_round
          case rel => exact ⟨k + 1, by omega, by go_num, val_i (by rw [wrap_in, HX.out, ofL_size]; congr 1; omega)⟩
          case measure => simp [intOf]; omega
        · have HK : Hid (L = B2 + lenI (x.bld.take k)) := by
            show _ = _
            rw [HE.out, List.take_of_length_le (by omega)]
          go_wp2_with fail
          rw [rounds_succ]
          go_wp2_with fail
          go_ret
          exact ⟨ret_i (by rw [HK.out]; rfl), ((Below.refl _ w).alloc (Nat.le_refl _) _).alloc (by simp) _⟩

theorem num_ofL (a : List UInt8) (w : World) (ha : a.length ≤ 9223372036854775806) :
    Calls Tryz.prog 67 #[.string (ofL a)] w fun e w' => e = .returned (.bool (numB a)) ∧ w' = w := by
  have := isNumber_any (ofL a) w (by rw [ofL_size]; unfold maxLen; omega)
  rw [ofL_data] at this
  exact this
theorem pre_ofL (a : List UInt8) (w : World) (ha : a.length ≤ 9223372036854775806) :
    Calls Tryz.prog 69 #[.string (ofL a)] w fun e w' => e = .returned (.bool (preB a)) ∧ w' = w := by
  have := fitsPre_any (ofL a) w (by rw [ofL_size]; exact ha)
  rw [ofL_data] at this
  exact this
theorem id_ofL (a : List UInt8) (w : World) (ha : a.length ≤ 9223372036854775806) :
    Calls Tryz.prog 70 #[.string (ofL a)] w fun e w' => e = .returned (.bool (idB a)) ∧ w' = w := by
  have := isIdentifier_any (ofL a) w (by rw [ofL_size]; exact ha)
  rw [ofL_data] at this
  exact this

end Go.Proofs.YtpdlgiioahjhiaaGreat
