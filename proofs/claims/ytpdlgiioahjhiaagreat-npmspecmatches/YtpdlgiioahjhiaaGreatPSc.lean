/- Walks: the iterator over identifiers, for every loop body th -/
import Derived.WalkKit
import Derived.Lib.Bytealg
import Derived.Test.YtpdlgiioahjhiaaGreatRows
import Derived.WalkSpells
import Derived.WalkLawsBesides
import Derived.Lib.Strings
import Derived.Laws.IdiomStrings
import Derived.Lib.ConvBytes
import Derived.StillTailTactics
import Derived.Deep.QuietTactic
import Derived.BigQuiet
import Derived.RangeFuncNested
import Derived.RangeFuncBound
import Derived.RangeFuncCalls
import Derived.RangeFuncLeaves
import Derived.Shelf.Abstract
import Derived.Shelf.RegionOpen
import Derived.OwnWalkIn
import Derived.TacticsInMore
import Derived.LoopNIn
import Derived.LoopIn
import Derived.Sort.QuietIn
namespace Go.Proofs.YtpdlgiioahjhiaaGreat
abbrev QY := ByteArray
abbrev QB := List UInt8
def isC (c k : Int) : Bool :=
 if k = 1 then decide (48 ≤ c) && decide (c ≤ 57)
 else if k = 2 then decide (97 ≤ c) && decide (c ≤ 122)
 else if k = 3 then decide (65 ≤ c) && decide (c ≤ 90)
 else if k = 4 then (decide (97 ≤ c) && decide (c ≤ 122)) || (decide (65 ≤ c) && decide (c ≤ 90))
 else if k = 5 then (decide (97 ≤ c) && decide (c ≤ 122)) || (decide (65 ≤ c) && decide (c ≤ 90)) || (decide (48 ≤ c) && decide (c ≤ 57))
 else if k = 6 then decide (c = 32) || decide (c = 9)
 else if k = 7 then decide (c = 32) || decide (c = 9) || decide (c = 10) || decide (c = 13)
 else false
def qz (k : Int) : QB → Nat
 | [] => 0
 | c :: r => if isC (c.toNat : Int) k then qz k r + 1 else 0
theorem qtz (k : Int) : ∀ l : QB, qz k l ≤ l.length
 | [] => Nat.le_refl _
 | c :: r => by
  unfold qz;have := qtz k r;split <;> simp <;> omega
def runI (l : QB) (at' k : Int) : Int :=
 if 0 ≤ at' ∧ at' ≤ (l.length : Int) then at' + (qz k (l.drop at'.toNat) : Int) else at'
def qbk : QB → QB
 | [] => [48]
 | c :: r => if c = 48 then qbk r else c :: r
def cmpD (a b : QB) : Int :=
 if (qbk a).length < (qbk b).length then -1 else if (qbk b).length < (qbk a).length then 1 else Lib.compareBytes (qbk a) (qbk b)
def qg (l : QB) : QY := ⟨l.toArray⟩
theorem qj (l : QB) : (qg l).data.toList = l := by simp [qg]
theorem qx (l : QB) : (qg l).size = l.length := by simp [qg, ByteArray.size]
theorem qgx (s : QY) : qg s.data.toList = s := by cases s; simp [qg]
theorem qh (s : QY) : s.data.toList.length = s.size := by rw [Array.length_toList]; rfl
theorem qmd {a b : QY} (h : a.data.toList = b.data.toList) : a = b := by rw [← qgx a, ← qgx b, h]
theorem qqf (s : QY) (i : Nat) (h : i < s.size) : s.data.toList.drop i = s[i] :: s.data.toList.drop (i + 1) := by
 rw [List.drop_eq_getElem_cons (by rw [qh]; exact h)]; rfl
theorem qzt (s : QY) (i : Nat) (h : s.size ≤ i) : s.data.toList.drop i = [] := List.drop_eq_nil_of_le (by rw [qh]; exact h)
theorem qrb (s : QY) (i j : Nat) : s.extract i j = qg ((s.data.toList.take j).drop i) := by
 apply qmd;rw [qj];simp [ByteArray.data_extract, List.drop_take, List.extract_eq_take_drop]
theorem qnc (s : QY) (i : Nat) : s.extract i s.size = qg (s.data.toList.drop i) := by
 rw [qrb, List.take_of_length_le (by rw [qh]; exact Nat.le_refl _)]
theorem qjm (k : Int) (s : QY) (i : Nat) (h : i < s.size) (hc : isC (s[i].toNat : Int) k = true) : qz k (s.data.toList.drop i) = qz k (s.data.toList.drop (i + 1)) + 1 := by
 rw [qqf s i h, qz, if_pos hc]
theorem qhl (k : Int) (s : QY) (i : Nat) (h : i < s.size) (hc : isC (s[i].toNat : Int) k = false) : qz k (s.data.toList.drop i) = 0 := by
 rw [qqf s i h, qz, if_neg (by simp [hc])]
theorem qkj (k : Int) (s : QY) (i : Nat) (h : s.size ≤ i) : qz k (s.data.toList.drop i) = 0 := by
 rw [qzt s i h, qz]
theorem qlf (s : QY) (m : Nat) (k : Int) (h : m ≤ s.size) : runI s.data.toList m k = m + (qz k (s.data.toList.drop m) : Int) := by
 unfold runI;rw [if_pos (by rw [qh]; omega)]; simp
theorem qbfn (s : QY) (n : Int) (k : Int) (h : ¬ (0 ≤ n ∧ n ≤ (s.size : Int))) : runI s.data.toList n k = n := by
 unfold runI;rw [if_neg (by rw [qh]; exact h)]
theorem qbhd (s : QY) (i : Nat) (h : i < s.size) (hc : (s[i].toNat : Int) = 48) : qbk (s.data.toList.drop i) = qbk (s.data.toList.drop (i + 1)) := by
 rw [qqf s i h, qbk, if_pos (UInt8.toNat_inj.1 (by show _ = 48; omega))]
theorem qbbd (s : QY) (i : Nat) (h : i < s.size) (hc : (s[i].toNat : Int) ≠ 48) : qbk (s.data.toList.drop i) = s.data.toList.drop i := by
 rw [qqf s i h, qbk, if_neg (fun e => hc (by rw [e]; rfl))]
theorem qbhq (s : QY) (i : Nat) (h : s.size ≤ i) : qbk (s.data.toList.drop i) = [48] := by
 rw [qzt s i h, qbk]
theorem qmb (l : QB) : (qbk l).length ≤ l.length + 1 := by
 induction l with
 | nil => simp [qbk]
 | cons c r ih => unfold qbk; split <;> simp <;> omega
theorem qccf (l : QB) : 0 < (qbk l).length := by
 induction l with
 | nil => simp [qbk]
 | cons c r ih =>
  unfold qbk;split
  ·exact ih
  ·simp
end Go.Proofs.YtpdlgiioahjhiaaGreat

namespace Go.Proofs.YtpdlgiioahjhiaaGreat
open Go.RowKit
open Bool renaming eq_iff_iff → qcfj
set_option maxHeartbeats 2000000
theorem qmp (c lo hi : Int) (w : World) :
  Calls Tryz.prog 91 #[.int .u8 c, .int .u8 lo, .int .u8 hi] w fun e w' => e = .returned (.bool (decide (lo ≤ c) && decide (c ≤ hi))) ∧ w' = w := by
 by_cases h1 : lo ≤ c
 ·by_cases h2 : c ≤ hi
  ·go_enter Tryz.func91, Tryz.ntmps91
   go_wp2
   go_ret
   exact ⟨by simp [h1, h2], rfl⟩
  ·go_enter Tryz.func91, Tryz.ntmps91
   go_wp2
   go_ret
   exact ⟨by simp [h2], rfl⟩
 ·go_enter Tryz.func91, Tryz.ntmps91
  go_wp2
  go_ret
  exact ⟨by simp; omega, rfl⟩
theorem qmg (s : QY) (n : Int) (w : World) :
  Calls Tryz.prog 54 #[.string s, .int .i64 n] w fun e w' => e = .returned (.bool (decide (0 ≤ n) && decide (n ≤ (s.size : Int)))) ∧ w' = w := by
 by_cases h1 : 0 ≤ n
 ·by_cases h2 : n ≤ (s.size : Int)
  ·go_enter Tryz.func54, Tryz.ntmps54
   go_wp2
   go_ret
   exact ⟨by simp [h1, h2], rfl⟩
  ·go_enter Tryz.func54, Tryz.ntmps54
   go_wp2
   go_ret
   exact ⟨by simp [h2], rfl⟩
 ·go_enter Tryz.func54, Tryz.ntmps54
  go_wp2
  go_ret
  exact ⟨by simp; omega, rfl⟩
theorem qdj {a b : Bool} (h : a = b) : Ending.returned (.bool a) = .returned (.bool b) := by rw [h]
theorem qgz (c k : Int) (w : World) :
  Calls Tryz.prog 55 #[.int .u8 c, .int .i64 k] w fun e w' => e = .returned (.bool (isC c k)) ∧ w' = w := by
 by_cases k1 : k = 1
 ·subst k1;go_enter Tryz.func55, Tryz.ntmps55
  go_wp2_with (go_at_call 91; refine (qmp _ _ _ _).mono ?_; rintro e w' ⟨rfl, rfl⟩)
  go_ret
  exact ⟨rfl, rfl⟩
 by_cases k2 : k = 2
 ·subst k2;go_enter Tryz.func55, Tryz.ntmps55
  go_wp2_with (go_at_call 91; refine (qmp _ _ _ _).mono ?_; rintro e w' ⟨rfl, rfl⟩)
  go_ret
  exact ⟨rfl, rfl⟩
 by_cases k3 : k = 3
 ·subst k3;go_enter Tryz.func55, Tryz.ntmps55
  go_wp2_with (go_at_call 91; refine (qmp _ _ _ _).mono ?_; rintro e w' ⟨rfl, rfl⟩)
  go_ret
  exact ⟨rfl, rfl⟩
 by_cases k4 : k = 4
 ·subst k4;go_enter Tryz.func55, Tryz.ntmps55
  go_wp2_with (go_at_call 91; refine (qmp _ _ _ _).mono ?_; rintro e w' ⟨rfl, rfl⟩)
  all_goals go_ret
  all_goals exact ⟨qdj (by rw [qcfj]; simp_all [isC]), rfl⟩
 by_cases k5 : k = 5
 ·subst k5;go_enter Tryz.func55, Tryz.ntmps55
  go_wp2_with (go_at_call 91; refine (qmp _ _ _ _).mono ?_; rintro e w' ⟨rfl, rfl⟩)
  all_goals go_ret
  all_goals exact ⟨qdj (by rw [qcfj]; simp_all [isC]), rfl⟩
 by_cases k6 : k = 6
 ·subst k6;go_enter Tryz.func55, Tryz.ntmps55
  go_wp2
  all_goals go_ret
  all_goals exact ⟨qdj (by rw [qcfj]; simp_all [isC]), rfl⟩
 by_cases k7 : k = 7
 ·subst k7;go_enter Tryz.func55, Tryz.ntmps55
  go_wp2
  all_goals go_ret
  all_goals exact ⟨qdj (by rw [qcfj]; simp_all [isC]), rfl⟩
 have H : Hid (∀ c, isC c k = false) := by simp [Hid, isC, k1, k2, k3, k4, k5, k6, k7]
 have b1 : (k == 1) = false := by simpa using k1
 have b2 : (k == 2) = false := by simpa using k2
 have b3 : (k == 3) = false := by simpa using k3
 have b4 : (k == 4) = false := by simpa using k4
 have b5 : (k == 5) = false := by simpa using k5
 have b6 : (k == 6) = false := by simpa using k6
 have b7 : (k == 7) = false := by simpa using k7
 clear k1 k2 k3 k4 k5 k6 k7;go_enter Tryz.func55, Tryz.ntmps55
 go_wp2
 go_ret
 exact ⟨qdj (H.out _).symm, rfl⟩
theorem qbzd (c k : Int) (w : World) :
  Calls Tryz.prog 169 #[.int .u8 c, .int .i64 k] w fun e w' => e = .returned (.bool (isC c k)) ∧ w' = w := by
 by_cases k1 : k = 1
 ·subst k1;go_enter Tryz.func169, Tryz.ntmps169
  go_wp2
  all_goals go_ret
  all_goals exact ⟨qdj (by rw [qcfj]; simp [isC] <;> omega), rfl⟩
 by_cases k2 : k = 2
 ·subst k2;go_enter Tryz.func169, Tryz.ntmps169
  go_wp2
  all_goals go_ret
  all_goals exact ⟨qdj (by rw [qcfj]; simp [isC] <;> omega), rfl⟩
 by_cases k3 : k = 3
 ·subst k3;go_enter Tryz.func169, Tryz.ntmps169
  go_wp2
  all_goals go_ret
  all_goals exact ⟨qdj (by rw [qcfj]; simp [isC] <;> omega), rfl⟩
 by_cases k4 : k = 4
 ·subst k4;go_enter Tryz.func169, Tryz.ntmps169
  go_wp2
  all_goals go_ret
  all_goals exact ⟨qdj (by rw [qcfj]; simp [isC] <;> omega), rfl⟩
 by_cases k5 : k = 5
 ·subst k5;go_enter Tryz.func169, Tryz.ntmps169
  go_wp2
  all_goals go_ret
  all_goals exact ⟨qdj (by rw [qcfj]; simp [isC] <;> omega), rfl⟩
 by_cases k6 : k = 6
 ·subst k6;go_enter Tryz.func169, Tryz.ntmps169
  go_wp2
  all_goals go_ret
  all_goals exact ⟨qdj (by rw [qcfj]; simp [isC] <;> omega), rfl⟩
 by_cases k7 : k = 7
 ·subst k7;go_enter Tryz.func169, Tryz.ntmps169
  go_wp2
  all_goals go_ret
  all_goals exact ⟨qdj (by rw [qcfj]; simp [isC] <;> omega), rfl⟩
 have H : Hid (∀ c, isC c k = false) := by simp [Hid, isC, k1, k2, k3, k4, k5, k6, k7]
 have b1 : (k == 1) = false := by simpa using k1
 have b2 : (k == 2) = false := by simpa using k2
 have b3 : (k == 3) = false := by simpa using k3
 have b4 : (k == 4) = false := by simpa using k4
 have b5 : (k == 5) = false := by simpa using k5
 have b6 : (k == 6) = false := by simpa using k6
 have b7 : (k == 7) = false := by simpa using k7
 clear k1 k2 k3 k4 k5 k6 k7;go_enter Tryz.func169, Tryz.ntmps169
 go_wp2
 all_goals go_ret
 all_goals exact ⟨qdj (H.out _).symm, rfl⟩
end Go.Proofs.YtpdlgiioahjhiaaGreat

namespace Go.Proofs.YtpdlgiioahjhiaaGreat
open Go.RowKit
set_option maxHeartbeats 400000
set_option maxRecDepth 100000
theorem qb {p : Prop} (h : p) : Hid p := h
theorem qbn {k : IntKind} {a b : Int} (h : a = b) : Ending.returned (.int k a) = .returned (.int k b) := by rw [h]
theorem qhp {a b : QY} (h : a = b) : Ending.returned (.string a) = .returned (.string b) := by rw [h]
theorem qpn (s : QY) (n k : Int) (w : World) (hs : s.size ≤ maxLen) :
  Calls Tryz.prog 28 #[.string s, .int .i64 n, .int .i64 k] w fun e w' => e = .returned (.int .i64 (runI s.data.toList n k)) ∧ w' = w := by
 unfold maxLen at hs
 by_cases hin : 0 ≤ n ∧ n ≤ (s.size : Int)
 ·obtain ⟨h0, h1⟩ := hin;obtain ⟨m, rfl⟩ := Int.eq_ofNat_of_zero_le h0;have hb : (decide (0 ≤ (m : Int)) && decide ((m : Int) ≤ (s.size : Int))) = true := by simp; omega
  have hm : m ≤ s.size := by omega
  have HI : Hid (runI s.data.toList m k = m + (qz k (s.data.toList.drop m) : Int)) := qlf s m k hm;go_enter Tryz.func28, Tryz.ntmps28
  go_wp2_with (go_at_call 54; refine (qmg _ _ _).mono ?_; rintro e w' ⟨rfl, rfl⟩)
  go_loop [17] (fun i => ∃ j : Nat, m + j ≤ s.size ∧ i = .int .i64 j ∧ Hid (qz k (s.data.toList.drop m) = j + qz k (s.data.toList.drop (m + j)))) (fun i => s.size - (intOf i).toNat)
  case atStart => exact ⟨0, by omega, rfl, by simp [Hid]⟩
  case round =>
   obtain ⟨j, hj, rfl, HR⟩ := hrel
   by_cases hlt : m + j < s.size
   ·by_cases hc : isC (s[m + j].toNat : Int) k = true
    ·have H1 : Hid _ := qjm k s (m + j) hlt hc;go_wp2_with (go_at_call 55; refine (qgz _ _ _).mono ?_; rintro e w' ⟨rfl, rfl⟩)
     go_round
     case rel => exact ⟨j + 1, by omega, by go_num, by have a := HR.out; have b := H1.out; show _ = _; rw [Nat.add_assoc] at b; omega⟩
     case measure => simp [intOf]; omega
    ·have hc' : isC (s[m + j].toNat : Int) k = false := by simpa using hc
     have H1 : Hid _ := qhl k s (m + j) hlt hc';go_wp2_with (go_at_call 55; refine (qgz _ _ _).mono ?_; rintro e w' ⟨rfl, rfl⟩)
     go_ret
     exact ⟨qbn (by have a := HR.out; have b := H1.out; rw [HI.out]; omega), rfl⟩
   ·have H1 : Hid _ := qkj k s (m + j) (by omega)
    (go_wp2_with fail);go_ret
    exact ⟨qbn (by have a := HR.out; have b := H1.out; rw [HI.out]; omega), rfl⟩
 ·have hb : (decide (0 ≤ n) && decide (n ≤ (s.size : Int))) = false := by simp; omega
  have HI : Hid _ := qbfn s n k hin;clear hin;go_enter Tryz.func28, Tryz.ntmps28
  go_wp2_with (go_at_call 54; refine (qmg _ _ _).mono ?_; rintro e w' ⟨rfl, rfl⟩)
  go_ret
  exact ⟨qbn HI.out.symm, rfl⟩
theorem qbsk (s : QY) (n k : Int) (w : World) (hs : s.size ≤ maxLen) :
  Calls Tryz.prog 165 #[.string s, .int .i64 n, .int .i64 k] w fun e w' => e = .returned (.int .i64 (runI s.data.toList n k)) ∧ w' = w := by
 unfold maxLen at hs
 by_cases h0 : 0 ≤ n
 ·by_cases h1 : n ≤ (s.size : Int)
  ·obtain ⟨m, rfl⟩ := Int.eq_ofNat_of_zero_le h0;have hm : m ≤ s.size := by omega
   have HI : Hid (runI s.data.toList m k = m + (qz k (s.data.toList.drop m) : Int)) := qlf s m k hm;have d1 : decide ((m : Int) < 0) = false := by simp
   have d2 : decide (s.size < m) = false := by simp; omega
   go_enter Tryz.func165, Tryz.ntmps165
   (go_wp2_with fail);go_loop [1] (fun i => ∃ j : Nat, m + j ≤ s.size ∧ i = .int .i64 (m + j : Nat) ∧ Hid (qz k (s.data.toList.drop m) = j + qz k (s.data.toList.drop (m + j)))) (fun i => s.size - (intOf i).toNat)
   case atStart => exact ⟨0, by omega, rfl, by simp [Hid]⟩
   case round =>
    obtain ⟨j, hj, rfl, HR⟩ := hrel
    by_cases hlt : m + j < s.size
    ·by_cases hc : isC (s[m + j].toNat : Int) k = true
     ·have H1 : Hid _ := qjm k s (m + j) hlt hc;go_wp2_with (go_at_call 169; refine (qbzd _ _ _).mono ?_; rintro e w' ⟨rfl, rfl⟩)
      go_round
      case rel => exact ⟨j + 1, by omega, by go_num, by have a := HR.out; have b := H1.out; show _ = _; rw [Nat.add_assoc] at b; omega⟩
      case measure => simp [intOf]; omega
     ·have hc' : isC (s[m + j].toNat : Int) k = false := by simpa using hc
      have H1 : Hid _ := qhl k s (m + j) hlt hc';go_wp2_with (go_at_call 169; refine (qbzd _ _ _).mono ?_; rintro e w' ⟨rfl, rfl⟩)
      go_ret
      exact ⟨qbn (by have a := HR.out; have b := H1.out; rw [HI.out]; omega), rfl⟩
    ·have H1 : Hid _ := qkj k s (m + j) (by omega)
     (go_wp2_with fail);go_ret
     exact ⟨qbn (by have a := HR.out; have b := H1.out; rw [HI.out]; omega), rfl⟩
  ·have HI : Hid _ := qbfn s n k (fun h => h1 h.2);go_enter Tryz.func165, Tryz.ntmps165
   (go_wp2_with fail);go_ret
   exact ⟨qbn HI.out.symm, rfl⟩
 ·have HI : Hid _ := qbfn s n k (fun h => h0 h.1);go_enter Tryz.func165, Tryz.ntmps165
  (go_wp2_with fail);go_ret
  exact ⟨qbn HI.out.symm, rfl⟩
theorem qbcg (s : QY) (w : World) (hs : s.size ≤ maxLen) :
  Calls Tryz.prog 140 #[.string s] w fun e w' => e = .returned (.string (qg (qbk s.data.toList))) ∧ w' = w := by
 unfold maxLen at hs;go_enter Tryz.func140, Tryz.ntmps140
 (go_wp2_with fail);go_loop [6] (fun i => ∃ j : Nat, j ≤ s.size ∧ i = .int .i64 j ∧ Hid (qbk s.data.toList = qbk (s.data.toList.drop j))) (fun i => s.size - (intOf i).toNat)
 case atStart => exact ⟨0, by omega, rfl, by simp [Hid]⟩
 case round =>
  obtain ⟨j, hj, rfl, HR⟩ := hrel
  by_cases hlt : j < s.size
  ·by_cases hc : (s[j].toNat : Int) = 48
   ·have H1 : Hid _ := qbhd s j hlt hc;have hb : ((s[j].toNat : Int) != 48) = false := by simpa using hc
    clear hc;(go_wp2_with fail);go_round
    case rel => exact ⟨j + 1, by omega, by go_num, HR.out.trans H1.out⟩
    case measure => simp [intOf]; omega
   ·have H1 : Hid _ := qbbd s j hlt hc;have hb : ((s[j].toNat : Int) != 48) = true := by simpa using hc
    clear hc;(go_wp2_with fail);go_ret
    exact ⟨qhp (by rw [qnc, HR.out, H1.out]), rfl⟩
  ·have H1 : Hid _ := qbhq s j (by omega)
   (go_wp2_with fail);go_ret
   exact ⟨qhp (by rw [HR.out, H1.out]; rfl), rfl⟩
theorem qwd (s : QY) (w : World) (hs : s.size ≤ maxLen) :
  Calls Tryz.prog 81 #[.string s] w fun e w' => e = .returned (.string (qg (qbk s.data.toList))) ∧ w' = w := by
 unfold maxLen at hs;go_enter Tryz.func81, Tryz.ntmps81
 (go_wp2_with fail);go_loop [3] (fun i => ∃ j : Nat, j ≤ s.size ∧ i = .int .i64 j ∧ Hid (qbk s.data.toList = qbk (s.data.toList.drop j))) (fun i => s.size - (intOf i).toNat)
 case atStart => exact ⟨0, by omega, rfl, by simp [Hid]⟩
 case round =>
  obtain ⟨j, hj, rfl, HR⟩ := hrel
  by_cases hlt : j < s.size
  ·by_cases hc : (s[j].toNat : Int) = 48
   ·have H1 : Hid _ := qbhd s j hlt hc;have hb : ((s[j].toNat : Int) == 48) = true := by simpa using hc
    clear hc;(go_wp2_with fail);go_round
    case rel => exact ⟨j + 1, by omega, by go_num, HR.out.trans H1.out⟩
    case measure => simp [intOf]; omega
   ·have H1 : Hid _ := qbbd s j hlt hc;have hb : ((s[j].toNat : Int) == 48) = false := by simpa using hc
    have hne : ((j : Int) == (s.size : Int)) = false := by simp; omega
    clear hc;(go_wp2_with fail);go_ret
    exact ⟨qhp (by rw [qnc, HR.out, H1.out]), rfl⟩
  ·have H1 : Hid _ := qbhq s j (by omega)
   have heq : ((j : Int) == (s.size : Int)) = true := by simp; omega
   (go_wp2_with fail);go_ret
   exact ⟨qhp (by rw [HR.out, H1.out]; rfl), rfl⟩
theorem qnn (x y : Int) (w : World) :
  Calls Tryz.prog 141 #[.int .i64 x, .int .i64 y] w fun e w' => e = .returned (.int .i64 (if x < y then -1 else if y < x then 1 else 0)) ∧ w' = w := by
 by_cases h1 : x < y
 ·go_enter Tryz.func141, Tryz.ntmps141
  go_wp2
  go_ret
  exact ⟨qbn (by first | rfl | ((repeat' split) <;> omega)), rfl⟩
 ·by_cases h2 : y < x
  ·go_enter Tryz.func141, Tryz.ntmps141
   go_wp2
   go_ret
   exact ⟨qbn (by first | rfl | ((repeat' split) <;> omega)), rfl⟩
  ·go_enter Tryz.func141, Tryz.ntmps141
   go_wp2
   go_ret
   exact ⟨qbn (by first | rfl | ((repeat' split) <;> omega)), rfl⟩
theorem qts (a b : QY) (w : World) :
  Calls Tryz.prog 144 #[.string a, .string b] w fun e w' => e = .returned (.int .i64 (Lib.compareBytes a.data.toList b.data.toList)) ∧ w' = w := by
 go_enter Tryz.func144, Tryz.ntmps144
 go_wp2
 rw [run_callFunc_extern Tryz.func157 (by kernel_rfl) (by kernel_rfl) (by kernel_rfl) (e := Extern.BytealgCompare.compare) (by kernel_rfl), Lib.run_compareString]
 simp only [Result.andThen];rw [Oper.upon_value];go_wp2
 go_ret
 exact ⟨rfl, rfl⟩
theorem qmj (a b : QY) (w : World) :
  Calls Tryz.prog 111 #[.string a, .string b] w fun e w' => e = .returned (.int .i64 (Lib.compareBytes a.data.toList b.data.toList)) ∧ w' = w := by
 go_enter Tryz.func111, Tryz.ntmps111
 go_wp2_with (go_at_call 144; refine (qts _ _ _).mono ?_; rintro e w' ⟨rfl, rfl⟩)
 go_ret
 exact ⟨rfl, rfl⟩
theorem qcbm (a b : QY) (w : World) (ha : a.size ≤ 9223372036854775806) (hb : b.size ≤ 9223372036854775806) :
  Calls Tryz.prog 106 #[.string a, .string b] w fun e w' => e = .returned (.int .i64 (cmpD a.data.toList b.data.toList)) ∧ w' = w := by
 have la := qmb a.data.toList;have lb := qmb b.data.toList;rw [qh] at la lb;have ea := qx (qbk a.data.toList);have eb := qx (qbk b.data.toList);have da := qj (qbk a.data.toList);have db := qj (qbk b.data.toList);have hC : cmpD a.data.toList b.data.toList = if (qbk a.data.toList).length < (qbk b.data.toList).length then -1 else if (qbk b.data.toList).length < (qbk a.data.toList).length then 1 else Lib.compareBytes (qbk a.data.toList) (qbk b.data.toList) := rfl;have HC := qb hC;clear hC;generalize cmpD a.data.toList b.data.toList = C at *;go_enter Tryz.func106, Tryz.ntmps106
 (go_wp2_with fail);refine (qbcg _ _ (by unfold maxLen; omega)).mono ?_
 rintro e w' ⟨rfl, rfl⟩;(go_wp2_with fail);refine (qbcg _ _ (by unfold maxLen; omega)).mono ?_
 rintro e w' ⟨rfl, rfl⟩;generalize qbk a.data.toList = A at *;generalize qbk b.data.toList = B at *
 by_cases hl : A.length = B.length
 ·have hn : ((A.length : Int) != (B.length : Int)) = false := by simp; omega
  have hle : A.length ≤ B.length := by omega
  have hge : B.length ≤ A.length := by omega
  clear hl;(go_wp2_with fail);refine (qmj _ _ _).mono ?_;rintro e w' ⟨rfl, rfl⟩;(go_wp2_with fail);go_ret
  exact ⟨qbn (by rw [HC.out, if_neg (by omega), if_neg (by omega)]), rfl⟩
 ·have hn : ((A.length : Int) != (B.length : Int)) = true := by simp; omega
  clear hl;have hl : A.length < B.length ∨ B.length < A.length := by simp at hn; omega
  rcases hl with hl | hl
  ·(go_wp2_with fail);refine (qnn _ _ _).mono ?_;rintro e w' ⟨rfl, rfl⟩;(go_wp2_with fail);go_ret
   exact ⟨qbn (by rw [HC.out, if_pos hl]), rfl⟩
  ·(go_wp2_with fail);refine (qnn _ _ _).mono ?_;rintro e w' ⟨rfl, rfl⟩;(go_wp2_with fail);go_ret
   exact ⟨qbn (by rw [HC.out, if_neg (by omega), if_pos hl]), rfl⟩
theorem cmp3 : ∀ a b : QB, (Lib.compareBytes a b = -1 ∧ Op.bytesLess a b = true) ∨ (Lib.compareBytes a b = 0 ∧ Op.bytesLess a b = false ∧ (a == b) = true) ∨ (Lib.compareBytes a b = 1 ∧ Op.bytesLess a b = false ∧ (a == b) = false)
 | [], [] => .inr (.inl (by simp [Lib.compareBytes, Op.bytesLess]))
 | [], _ :: _ => .inl (by simp [Lib.compareBytes, Op.bytesLess])
 | _ :: _, [] => .inr (.inr (by simp [Lib.compareBytes, Op.bytesLess]))
 | a :: x, b :: y => by
  by_cases h1 : a < b
  ·exact .inl (by simp [Lib.compareBytes, Op.bytesLess, h1])
  ·by_cases h2 : b < a
   ·have hne : ¬ a = b := fun e => by subst e; exact h1 h2
    exact .inr (.inr (by simp [Lib.compareBytes, Op.bytesLess, h1, h2, hne]))
   ·have he : a = b := UInt8.le_antisymm (UInt8.not_lt.1 h2) (UInt8.not_lt.1 h1);subst he;have ih := cmp3 x y;simp only [Lib.compareBytes, Op.bytesLess, h1, if_false, List.cons_beq_cons, BEq.rfl, Bool.true_and, decide_false, Bool.false_or];exact ih
theorem toL (s : QY) : s.toList = s.data.toList := Lib.toList_data s
theorem qccl (a b : QY) (w : World) :
  Calls Tryz.prog 82 #[.string a, .string b] w fun e w' => e = .returned (.int .i64 (Lib.compareBytes a.data.toList b.data.toList)) ∧ w' = w := by
 have h3 := cmp3 a.data.toList b.data.toList;rw [← toL a, ← toL b] at h3 ⊢;rcases h3 with ⟨hc, hl⟩ | ⟨hc, hl, he⟩ | ⟨hc, hl, he⟩
 all_goals rw [hc]
 all_goals clear hc
 all_goals go_enter Tryz.func82, Tryz.ntmps82
 all_goals go_wp2
 all_goals go_ret
 all_goals exact ⟨rfl, rfl⟩
theorem qtv (a b : QY) (w : World) (ha : a.size ≤ 9223372036854775806) (hb : b.size ≤ 9223372036854775806) :
  Calls Tryz.prog 48 #[.string a, .string b] w fun e w' => e = .returned (.int .i64 (cmpD a.data.toList b.data.toList)) ∧ w' = w := by
 have la := qmb a.data.toList;have lb := qmb b.data.toList;rw [qh] at la lb;have ea := qx (qbk a.data.toList);have eb := qx (qbk b.data.toList);have da := qj (qbk a.data.toList);have db := qj (qbk b.data.toList);have hC : cmpD a.data.toList b.data.toList = if (qbk a.data.toList).length < (qbk b.data.toList).length then -1 else if (qbk b.data.toList).length < (qbk a.data.toList).length then 1 else Lib.compareBytes (qbk a.data.toList) (qbk b.data.toList) := rfl;have HC := qb hC;clear hC;generalize cmpD a.data.toList b.data.toList = C at *;go_enter Tryz.func48, Tryz.ntmps48
 (go_wp2_with fail);refine (qwd _ _ (by unfold maxLen; omega)).mono ?_
 rintro e w' ⟨rfl, rfl⟩;(go_wp2_with fail);refine (qwd _ _ (by unfold maxLen; omega)).mono ?_
 rintro e w' ⟨rfl, rfl⟩;generalize qbk a.data.toList = A at *;generalize qbk b.data.toList = B at *
 by_cases h1 : A.length < B.length
 ·(go_wp2_with fail);go_ret
  exact ⟨qbn (by rw [HC.out, if_pos h1]), rfl⟩
 ·by_cases h2 : B.length < A.length
  ·(go_wp2_with fail);go_ret
   exact ⟨qbn (by rw [HC.out, if_neg (by omega), if_pos h2]), rfl⟩
  ·(go_wp2_with fail);refine (qccl _ _ _).mono ?_;rintro e w' ⟨rfl, rfl⟩;(go_wp2_with fail);go_ret
   exact ⟨qbn (by rw [HC.out, if_neg (by omega), if_neg (by omega)]), rfl⟩
end Go.Proofs.YtpdlgiioahjhiaaGreat

namespace Go.Proofs.YtpdlgiioahjhiaaGreat
open Go.RowKit
structure Bys (W : World) (b : Nat) (l : QB) : Prop where
 cell : ∀ i, i < l.length → W.cell? ⟨b, i, none⟩ = some (.int .u8 ((l.getD i 0).toNat : Int))
 free : ∀ i, i < l.length → W.frozen? ⟨b, i, none⟩ = false
theorem qtf (w : World) (e : TypeId) (s : QY) (j : Nat) (hj : j < s.size) : (Lib.bytesWorld w e s).frozen? ⟨w.heap.size, j, none⟩ = false := by
 unfold World.frozen?;rw [Lib.bytesWorld_at_new];have : s.size ≤ (Lib.bytesCells w e s).size := by
  unfold Lib.bytesCells;rw [Array.size_append, Array.size_map];exact Nat.le_add_right _ _
 simp; omega
theorem Bys.conv (w : World) (e : TypeId) (s : QY) : Bys (Lib.bytesWorld w e s) w.heap.size s.data.toList :=
 ⟨fun i hi => Lib.bytesWorld_cell w e s i (by rwa [qh] at hi), fun i hi => qtf w e s i (by rwa [qh] at hi)⟩
theorem qbcr (w : World) (e : TypeId) (s : QY) : Below w.heap.size w (Lib.bytesWorld w e s) := by
 refine ⟨rfl, rfl, rfl, ?_, fun k hk => Lib.bytesWorld_at_old w e s k hk⟩;rw [Lib.bytesWorld_size]; omega
theorem Bys.set {W : World} {b : Nat} {l : QB} (h : Bys W b l) (i : Nat) (hi : i < l.length) (v : Int) (c : UInt8) (hv : v = (c.toNat : Int)) :
  Bys (W.setCell ⟨b, i, none⟩ (.int .u8 v)) b (l.set i c) := by
 subst hv;refine ⟨fun j hj => ?_, fun j hj => ?_⟩
 ·rw [List.length_set] at hj
  by_cases e : j = i
  ·subst e;rw [World.cell?_setCell_same' _ _ _ (by rw [h.cell j hj]; rfl)]
   simp [List.getD, hj]
  ·rw [World.cell?_setCell_other _ _ _ _ (by intro q; cases q; exact e rfl), h.cell j hj]
   simp [List.getD, Ne.symm e]
 ·rw [List.length_set] at hj;rw [World.frozen?_setCell]; exact h.free j hj
theorem Bys.drew {W : World} {b : Nat} {l : QB} (h : Bys W b l) : Bys W.drew b l := ⟨h.cell, h.free⟩
theorem Bys.back {P : Program} {W : World} {b : Nat} {l : QB} (h : Bys W b l) (src dst e : TypeId) (cap : Nat) (hs : P.underlying src = some (.slice e)) (he : P.underlying e = some (.int .u8)) (hd : P.underlying dst = some .string) :
  (convert src dst (.slice (some ⟨b, 0, none⟩) l.length cap)).run P W = .ok (.string (qg l)) W := by
 refine run_convert_bytes_back W src dst e ⟨b, 0, none⟩ cap l hs he hd (fun j hj => ?_);have := h.cell j hj;have ea : (Addr.add ⟨b, 0, none⟩ j) = ⟨b, j, none⟩ := by
  by_cases e0 : j = 0
  ·subst e0; rfl
  ·simp [Addr.add, e0]
 rw [ea, this];simp [List.getD, hj]
end Go.Proofs.YtpdlgiioahjhiaaGreat

namespace Go.Proofs.YtpdlgiioahjhiaaGreat
open List renaming cons_append → qcfm, mem_cons_of_mem → qcgq, take_succ_eq_append_getElem → qchf
def incR : QB → QB
 | [] => [49]
 | c :: r => if c = 57 then 48 :: incR r else (c + 1) :: r
def incL (l : QB) : QB := (incR l.reverse).reverse
def qbp (d : QB) : QB := if qz 1 d = d.length then incL (qbk d) else [49]
def AllD (l : QB) : Prop := ∀ c ∈ l, 48 ≤ c.toNat ∧ c.toNat ≤ 57
theorem qkm : ∀ l : QB, qz 1 l = l.length → AllD l
 | [], _ => by intro c hc; simp at hc
 | c :: r, h => by
  unfold qz at h
  by_cases hc : isC (c.toNat : Int) 1 = true
  ·rw [if_pos hc] at h;have ih := qkm r (by simpa using h)
   have hb : 48 ≤ (c.toNat : Int) ∧ (c.toNat : Int) ≤ 57 := by simpa [isC] using hc
   intro x hx;rcases List.mem_cons.1 hx with rfl | hx
   ·omega
   ·exact ih x hx
  ·rw [if_neg hc] at h;simp at h
theorem qjk : ∀ l : QB, AllD l → qz 1 l = l.length
 | [], _ => rfl
 | c :: r, h => by
  have hb := h c List.mem_cons_self;unfold qz;rw [if_pos (by simp [isC]; omega), qjk r (fun x hx => h x (qcgq _ hx))]
  rfl
theorem qsw : ∀ l : QB, AllD l → AllD (qbk l)
 | [], _ => by intro c hc; simp [qbk] at hc; subst hc; decide
 | c :: r, h => by
  unfold qbk;split
  ·exact qsw r (fun x hx => h x (qcgq _ hx))
  ·exact h
theorem qcbv (l : QB) (k : Nat) (hk : k < l.length) (h9 : l[k] = 57) : incL (l.take (k + 1)) = incL (l.take k) ++ [48] := by
 unfold incL;rw [qchf hk, List.reverse_append, h9];simp [incR]
theorem qccm (l : QB) (k : Nat) (hk : k < l.length) (h9 : l[k] ≠ 57) : incL (l.take (k + 1)) = l.take k ++ [l[k] + 1] := by
 unfold incL;rw [qchf hk, List.reverse_append];simp [incR, h9]
theorem incL_nil : incL [] = [49] := rfl
def qhr (l : QB) (k : Nat) : QB := l.take k ++ List.replicate (l.length - k) 48
theorem qff (l : QB) (k : Nat) (h : k ≤ l.length) : (qhr l k).length = l.length := by simp [qhr]; omega
theorem qbhn (l : QB) : qhr l l.length = l := by simp [qhr]
theorem qbtw (l : QB) (k : Nat) (h : k < l.length) : (qhr l (k + 1)).getD k 0 = l[k] := by
 simp only [qhr, List.getD];rw [List.getElem?_append_left (by simp; omega)]
 simp [h]
theorem qbjr (l : QB) (k : Nat) (h : k < l.length) (c : UInt8) : (qhr l (k + 1)).set k c = l.take k ++ [c] ++ List.replicate (l.length - (k + 1)) 48 := by
 have e : (l.take k).length = k := by simp; omega
 unfold qhr;rw [qchf h, List.append_assoc, List.set_append_right _ _ (by omega), e, Nat.sub_self]
 simp
theorem qbdt (l : QB) (k : Nat) (h : k < l.length) : (qhr l (k + 1)).set k 48 = qhr l k := by
 rw [qbjr l k h, qhr, List.append_assoc];have : l.length - k = (l.length - (k + 1)) + 1 := by omega
 rw [this, List.replicate_succ]
 rfl
def Mid (l : QB) (k : Nat) : Prop := incL l = incL (l.take k) ++ List.replicate (l.length - k) 48
theorem qbzp (l : QB) : Mid l l.length := by simp [Mid]
theorem qbsz (l : QB) (k : Nat) (hk : k < l.length) (h9 : l[k] = 57) (h : Mid l (k + 1)) : Mid l k := by
 unfold Mid at *;rw [h, qcbv l k hk h9, List.append_assoc];have : l.length - k = (l.length - (k + 1)) + 1 := by omega
 rw [this, List.replicate_succ]
 rfl
theorem qbpv (l : QB) (k : Nat) (hk : k < l.length) (h9 : l[k] ≠ 57) (h : Mid l (k + 1)) : (qhr l (k + 1)).set k (l[k] + 1) = incL l := by
 unfold Mid at h;rw [h, qccm l k hk h9, qbjr l k hk]
theorem mid_end (l : QB) (h : Mid l 0) : incL l = 49 :: qhr l 0 := by
 unfold Mid at h;rw [h];simp [incL_nil, qhr]
/-! The document's way: with a nought ahead, and trimmed behind. -/
theorem qbds (c : UInt8) (l : QB) (h : c ≠ 48) : qbk (c :: l) = c :: l := by rw [qbk, if_neg h]
theorem qnb : ∀ (n : Nat) (l : QB), qbk (List.replicate n 48 ++ l) = qbk l
 | 0, l => by simp
 | n + 1, l => by
  rw [List.replicate_succ, qcfm, qbk, if_pos rfl];exact qnb n l
theorem qqv : ∀ x y : QB, (∀ c ∈ x, c = 57) → incR (x ++ y) = List.replicate x.length 48 ++ incR y
 | [], y, _ => by simp
 | c :: x, y, h => by
  have hc := h c List.mem_cons_self;rw [qcfm, incR, if_pos hc, qqv x y (fun z hz => h z (qcgq _ hz))];simp [List.replicate_succ]
theorem qwv : ∀ x y : QB, ¬ (∀ c ∈ x, c = 57) → incR (x ++ y) = incR x ++ y
 | [], y, h => absurd (by simp) h
 | c :: x, y, h => by
  by_cases hc : c = 57
  ·rw [qcfm, incR, incR, if_pos hc, if_pos hc, qwv x y (fun g => h (fun z hz => by rcases List.mem_cons.1 hz with rfl | hz; exact hc; exact g z hz))]
   rfl
  ·rw [qcfm, incR, incR, if_neg hc, if_neg hc]
   rfl
theorem qss : ∀ d : QB, (∃ n c r, d = List.replicate n 48 ++ c :: r ∧ c ≠ 48 ∧ qbk d = c :: r) ∨ (d = List.replicate d.length 48 ∧ qbk d = [48])
 | [] => .inr (by simp [qbk])
 | c :: r => by
  by_cases hc : c = 48
  ·subst hc;rcases qss r with ⟨n, x, y, h, hx, ht⟩ | ⟨h, ht⟩
   ·exact .inl ⟨n + 1, x, y, by rw [List.replicate_succ, qcfm, ← h], hx, by rw [qbk, if_pos rfl, ht]⟩
   ·exact .inr ⟨by rw [List.length_cons, List.replicate_succ, ← h], by rw [qbk, if_pos rfl, ht]⟩
  ·exact .inl ⟨0, c, r, by simp, hc, qbds c r hc⟩
theorem qbjs (c : UInt8) (r : QB) (hd : AllD (c :: r)) (hc : c ≠ 48) (h : ¬ ∀ x ∈ c :: r, x = 57) : ∃ c' r', incL (c :: r) = c' :: r' ∧ c' ≠ 48 := by
 unfold incL;rw [List.reverse_cons]
 by_cases hr : ∀ x ∈ r, x = 57
 ·have h57 : c ≠ 57 := fun e => h (fun x hx => by rcases List.mem_cons.1 hx with rfl | hx; exact e; exact hr x hx)
  rw [qqv _ _ (fun x hx => hr x (by simpa using hx)), incR, if_neg h57]
  refine ⟨c + 1, List.replicate r.reverse.length 48, by simp, fun e => ?_⟩
  have hb := hd c List.mem_cons_self;have e1 : (c + 1).toNat = (c.toNat + 1) % 256 := UInt8.toNat_add c 1;have e2 : (c + 1).toNat = 48 := by rw [e]; rfl
  omega
 ·rw [qwv _ _ (fun g => hr (fun x hx => g x (by simpa using hx)))]
  exact ⟨c, (incR r.reverse).reverse, by simp, hc⟩
theorem next_ref (d : QB) (hd : AllD d) : qbk (incL (48 :: d)) = incL (qbk d) := by
 rcases qss d with ⟨n, c, r, h, hc, ht⟩ | ⟨h, ht⟩
 ·rw [ht];have e : (48 :: d).reverse = (c :: r).reverse ++ List.replicate (n + 1) 48 := by
   rw [h, ← qcfm, ← List.replicate_succ, List.reverse_append, List.reverse_replicate]
  have hd' : AllD (c :: r) := fun x hx => hd x (by rw [h]; exact List.mem_append_right _ hx)
  by_cases h9 : ∀ x ∈ c :: r, x = 57
  ·have h9' : ∀ x ∈ (c :: r).reverse, x = 57 := fun x hx => h9 x (List.mem_reverse.1 hx);have a1 : incL (48 :: d) = List.replicate n 48 ++ (49 :: List.replicate (c :: r).length 48) := by
    unfold incL;rw [e, qqv _ _ h9', List.replicate_succ, incR, if_neg (by decide)]
    simp
   have a2 : incL (c :: r) = 49 :: List.replicate (c :: r).length 48 := by
    unfold incL;have := qqv (c :: r).reverse [] h9';rw [List.append_nil] at this;rw [this];simp [incR]
   rw [a1, a2, qnb, qbds _ _ (by decide)]
  ·have h9' : ¬ ∀ x ∈ (c :: r).reverse, x = 57 := fun g => h9 (fun x hx => g x (List.mem_reverse.2 hx));have a1 : incL (48 :: d) = List.replicate (n + 1) 48 ++ incL (c :: r) := by
    unfold incL;rw [e, qwv _ _ h9', List.reverse_append, List.reverse_replicate]
   obtain ⟨c', r', hh, hn⟩ := qbjs c r hd' hc h9;rw [a1, qnb, hh, qbds _ _ hn]
 ·rw [ht];have e : 48 :: d = List.replicate (d.length + 1) 48 := by rw [List.replicate_succ, ← h]
  have a1 : incL (48 :: d) = List.replicate d.length 48 ++ [49] := by
   unfold incL;rw [e, List.reverse_replicate, List.replicate_succ, incR, if_neg (by decide)]
   simp
  rw [a1, qnb]
  decide
end Go.Proofs.YtpdlgiioahjhiaaGreat

namespace Go.Proofs.YtpdlgiioahjhiaaGreat
open Go.RowKit
set_option maxHeartbeats 400000
theorem qbhk (c : UInt8) (l : QB) : (⟨#[c]⟩ : QY) ++ qg l = qg (c :: l) := by
 apply qmd;rw [qj, ByteArray.data_append];simp [qg]
theorem inc1 (c : UInt8) (h : (c.toNat : Int) < 57) : ((c.toNat : Int) + 1) = ((c + 1).toNat : Int) := by
 have : (c + 1).toNat = (c.toNat + 1) % 256 := UInt8.toNat_add c 1;omega
theorem Next_any (s : QY) (w : World) (hs : s.size ≤ 9223372036854775805) :
  Calls Tryz.prog 159 #[.string s] w fun e w' => e = .returned (.string (qg (qbp s.data.toList))) ∧ Below w.heap.size w w' := by
 have hrun : runI s.data.toList 0 1 = (qz 1 s.data.toList : Int) := by have := qlf s 0 1 (Nat.zero_le _); simpa using this
 by_cases hr : qz 1 s.data.toList = s.data.toList.length
 ·have hn : ((qz 1 s.data.toList : Int) != (s.size : Int)) = false := by rw [hr, qh]; simp
  have hD := qsw _ (qkm _ hr);have HN : Hid (qbp s.data.toList = incL (qbk s.data.toList)) := by simp [Hid, qbp, hr]
  have la := qmb s.data.toList;have lp := qccf s.data.toList;rw [qh] at la;clear hr;have hconv := fun (w : World) => Lib.run_convert_string_bytes (P := Tryz.prog) w 9 91 5 (qg (qbk s.data.toList)) Tryz.underlying9 Tryz.underlying91 Tryz.underlying5;have hb0 := fun (w : World) => qbcr w 5 (qg (qbk s.data.toList));have hy0 := fun (w : World) => Bys.conv w 5 (qg (qbk s.data.toList));rw [qj] at hy0;have ea := qx (qbk s.data.toList);go_enter Tryz.func159, Tryz.ntmps159
  (go_wp2_with fail);refine (qpn _ _ _ _ (by unfold maxLen; omega)).mono ?_
  rintro e w' ⟨rfl, rfl⟩;(go_wp2_with fail);refine (qbcg _ _ (by unfold maxLen; omega)).mono ?_
  rintro e w' ⟨rfl, rfl⟩;generalize qbk s.data.toList = l at *;(go_wp2_with fail);obtain ⟨B, hB⟩ : ∃ B, w'.heap.size = B := ⟨_, rfl⟩;have hb1 := hb0 w';have hy1 := hy0 w';rw [hB] at hb1 hy1;clear hb0 hy0 hconv;rw [hB];go_loopw [4] (fun i wr => ∃ k : Nat, k ≤ l.length ∧ i = .int .i64 ((k : Int) - 1) ∧ Bys wr B (qhr l k) ∧ Hid (Mid l k) ∧ Below B w' wr) (fun i _ => (intOf i + 1).toNat)
  case atStart => exact ⟨l.length, Nat.le_refl _, rfl, by rw [qbhn]; exact hy1, qbzp l, hb1⟩
  case round =>
   obtain ⟨k, hk, rfl, hy, HM, hbel⟩ := hrel;cases k with
   | zero =>
    have hback := fun cap => hy.back (P := Tryz.prog) 91 9 5 cap Tryz.underlying91 Tryz.underlying5 Tryz.underlying9;rw [qff l 0 hk] at hback;have el := qx (qhr l 0);rw [qff l 0 hk] at el;(go_wp2_with fail);go_ret
    exact ⟨qhp (by rw [HN.out, mid_end l HM.out]; exact qbhk 49 _), by rw [hB]; exact hbel⟩
   | succ m =>
    have hm : m < l.length := by omega
    have hi : (((m + 1 : Nat) : Int) - 1) = (m : Int) := by omega
    rw [hi];clear hi;have hcell := hy.cell m (by rw [qff l _ hk]; exact hm)
    have hfree := hy.free m (by rw [qff l _ hk]; exact hm)
    rw [qbtw l m hm] at hcell;have H9 : Hid (∀ h9 : l[m] = 57, Mid l m) := fun h9 => qbsz l m hm h9 HM.out;have HS : Hid (∀ h9 : l[m] ≠ 57, (qhr l (m + 1)).set m (l[m] + 1) = incL l) := fun h9 => qbpv l m hm h9 HM.out;have hdb := hD l[m] (List.getElem_mem hm);generalize l[m] = c at *
    by_cases h9 : c = 57
    ·have hc9 : ((c.toNat : Int) != 57) = false := by rw [h9]; decide
     have HX : Hid (Mid l m) := H9.out h9;clear h9 hdb;(go_wp2_with fail);go_roundw
     case rel => exact ⟨m, by omega, rfl, by rw [← qbdt l m hm]; exact hy.set m (by rw [qff l _ hk]; exact hm) _ _ rfl, HX, hbel.setCell (Nat.le_refl _) _⟩
     case measure => simp [intOf]
    ·have hc9 : ((c.toNat : Int) != 57) = true := by
      have : c.toNat ≠ 57 := fun e => h9 (UInt8.toNat_inj.1 e);simp; omega
     have HX : Hid ((qhr l (m + 1)).set m (c + 1) = incL l) := HS.out h9;have hlt : (c.toNat : Int) < 57 := by simp at hc9; omega
     have hyS := hy.set m (by rw [qff l _ hk]; exact hm) ((c.toNat : Int) + 1) (c + 1) (inc1 c hlt)
     have hback := fun cap => hyS.back (P := Tryz.prog) 91 9 5 cap Tryz.underlying91 Tryz.underlying5 Tryz.underlying9;rw [List.length_set, qff l _ hk] at hback;clear h9 hdb;(go_wp2_with fail);go_ret
     exact ⟨qhp (by rw [HN.out, HX.out]), by rw [hB]; exact hbel.setCell (Nat.le_refl _) _⟩
 ·have hn : ((qz 1 s.data.toList : Int) != (s.size : Int)) = true := by rw [qh] at hr; simp; omega
  have HN : Hid (qbp s.data.toList = [49]) := by unfold qbp; rw [if_neg hr]; rfl
  clear hr;go_enter Tryz.func159, Tryz.ntmps159
  (go_wp2_with fail);refine (qpn _ _ _ _ (by unfold maxLen; omega)).mono ?_
  rintro e w' ⟨rfl, rfl⟩;(go_wp2_with fail);go_ret
  exact ⟨qhp (by rw [HN.out]; rfl), Below.refl _ _⟩
theorem qcch (s : QY) (w : World) (hs : s.size ≤ 9223372036854775805) :
  Calls Tryz.prog 155 #[.string s] w fun e w' => e = .returned (.string (qg (qbp s.data.toList))) ∧ Below w.heap.size w w' := by
 have hrun : runI s.data.toList 0 1 = (qz 1 s.data.toList : Int) := by have := qlf s 0 1 (Nat.zero_le _); simpa using this
 by_cases hr : qz 1 s.data.toList = s.data.toList.length
 ·have hn : ((qz 1 s.data.toList : Int) != (s.size : Int)) = false := by rw [hr, qh]; simp
  have HN : Hid (qbp s.data.toList = qbk (incL (48 :: s.data.toList))) := by
   show _ = _;rw [next_ref _ (qkm _ hr), qbp, if_pos hr]
  have hD : AllD (48 :: s.data.toList) := fun c hc => by
   rcases List.mem_cons.1 hc with rfl | hc
   ·decide
   ·exact qkm _ hr c hc
  clear hr;have hcat : (⟨#[48]⟩ : QY) ++ s = qg (48 :: s.data.toList) := by have := qbhk 48 s.data.toList; rwa [qgx] at this
  have hz : (⟨#[48]⟩ : QY).size = 1 := rfl;have hl0 : (48 :: s.data.toList).length = s.size + 1 := by rw [List.length_cons, qh]
  have hz0 : ∀ h : 0 < (48 :: s.data.toList).length, (48 :: s.data.toList)[0] = 48 := fun _ => rfl;have ea := qx (48 :: s.data.toList);generalize 48 :: s.data.toList = l at *;have HL : Hid (l.length = s.size + 1) := hl0;have hl1 : l.length ≤ s.size + 1 := by omega
  have hl2 : s.size + 1 ≤ l.length := by omega
  have HZ : Hid _ := hz0;clear hl0 hz0;have hconv := fun (w : World) => Lib.run_convert_string_bytes (P := Tryz.prog) w 9 91 5 (qg l) Tryz.underlying9 Tryz.underlying91 Tryz.underlying5;have hb0 := fun (w : World) => qbcr w 5 (qg l);have hy0 := fun (w : World) => Bys.conv w 5 (qg l);rw [qj] at hy0;go_enter Tryz.func155, Tryz.ntmps155
  (go_wp2_with fail);refine (qbsk _ _ _ _ (by unfold maxLen; omega)).mono ?_
  rintro e w' ⟨rfl, rfl⟩;(go_wp2_with fail);obtain ⟨B, hB⟩ : ∃ B, w'.heap.size = B := ⟨_, rfl⟩;have hb1 := hb0 w';have hy1 := hy0 w';rw [hB] at hb1 hy1;clear hb0 hy0 hconv;rw [hB];go_loopw [4] (fun i wr => ∃ k : Nat, k < l.length ∧ i = .int .i64 (k : Int) ∧ Bys wr B (qhr l (k + 1)) ∧ Hid (Mid l (k + 1)) ∧ Below B w' wr) (fun i _ => (intOf i).toNat)
  case atStart => exact ⟨s.size, by omega, by go_num, by rw [← HL.out, qbhn]; exact hy1, by rw [← HL.out]; exact qbzp l, hb1⟩
  case round =>
   obtain ⟨m, hm, rfl, hy, HM, hbel⟩ := hrel;have hk : m + 1 ≤ l.length := hm;have hcell := hy.cell m (by rw [qff l _ hk]; exact hm)
   have hfree := hy.free m (by rw [qff l _ hk]; exact hm)
   rw [qbtw l m hm] at hcell;have H9 : Hid (∀ h9 : l[m] = 57, Mid l m) := fun h9 => qbsz l m hm h9 HM.out;have HS : Hid (∀ h9 : l[m] ≠ 57, (qhr l (m + 1)).set m (l[m] + 1) = incL l) := fun h9 => qbpv l m hm h9 HM.out;have hdb := hD l[m] (List.getElem_mem hm);have HP : Hid (l[m] = 57 → 0 < m) := fun e => by
    rcases Nat.eq_zero_or_pos m with h0 | h0
    ·subst h0; rw [HZ.out hm] at e; exact absurd e (by decide)
    ·exact h0
   generalize l[m] = c at *
   by_cases h9 : c = 57
   ·have hc9 : ((c.toNat : Int) == 57) = true := by rw [h9]; decide
    have HX : Hid (Mid l m) := H9.out h9;have hp := HP.out h9;clear h9 hdb;(go_wp2_with fail);go_roundw
    case rel =>
     obtain ⟨q, rfl⟩ : ∃ q, m = q + 1 := ⟨m - 1, by omega⟩
     exact ⟨q, by omega, by go_num, by rw [← qbdt l (q + 1) hm]; exact hy.set (q + 1) (by rw [qff l _ hk]; exact hm) _ _ rfl, HX, hbel.setCell (Nat.le_refl _) _⟩
    case measure => simp [intOf]; omega
   ·have hc9 : ((c.toNat : Int) == 57) = false := by
     have : c.toNat ≠ 57 := fun e => h9 (UInt8.toNat_inj.1 e);simp; omega
    have HX : Hid ((qhr l (m + 1)).set m (c + 1) = incL l) := HS.out h9;have hlt : (c.toNat : Int) < 57 := by simp at hc9; omega
    have hyS := hy.set m (by rw [qff l _ hk]; exact hm) ((c.toNat : Int) + 1) (c + 1) (inc1 c hlt)
    have hback := fun cap => hyS.back (P := Tryz.prog) 91 9 5 cap Tryz.underlying91 Tryz.underlying5 Tryz.underlying9;rw [List.length_set, qff l _ hk] at hback;clear h9 hdb;(go_wp2_with fail);refine (qwd _ _ (by rw [qx, List.length_set, qff l _ hk]; unfold maxLen; omega)).mono ?_
    rintro e w2 ⟨rfl, rfl⟩;(go_wp2_with fail);go_ret
    exact ⟨qhp (by rw [HN.out, qj, HX.out]), by rw [hB]; exact hbel.setCell (Nat.le_refl _) _⟩
 ·have hn : ((qz 1 s.data.toList : Int) != (s.size : Int)) = true := by rw [qh] at hr; simp; omega
  have HN : Hid (qbp s.data.toList = [49]) := by unfold qbp; rw [if_neg hr]; rfl
  clear hr;go_enter Tryz.func155, Tryz.ntmps155
  (go_wp2_with fail);refine (qbsk _ _ _ _ (by unfold maxLen; omega)).mono ?_
  rintro e w' ⟨rfl, rfl⟩;(go_wp2_with fail);go_ret
  exact ⟨qhp (by rw [HN.out]; rfl), Below.refl _ _⟩
end Go.Proofs.YtpdlgiioahjhiaaGreat

namespace Go.Proofs.YtpdlgiioahjhiaaGreat
def val : QB → Nat
 | [] => 0
 | c :: r => (c.toNat - 48) * 10 ^ r.length + val r
theorem qww {c : UInt8} {r : QB} (h : AllD (c :: r)) : AllD r := fun x hx => h x (List.mem_cons_of_mem _ hx)
theorem qbjb {c : UInt8} {r : QB} (h : AllD (c :: r)) : 48 ≤ c.toNat ∧ c.toNat ≤ 57 := h c List.mem_cons_self
theorem qbqj : ∀ l : QB, val (qbk l) = val l
 | [] => by simp [qbk, val]
 | c :: r => by
  unfold qbk;split
  ·rename_i h; rw [qbqj r, val, h]; simp
  ·rfl
def vr : QB → Nat
 | [] => 0
 | c :: r => (c.toNat - 48) + 10 * vr r
theorem vr_app : ∀ (l : QB) (c : UInt8), vr (l ++ [c]) = vr l + (c.toNat - 48) * 10 ^ l.length
 | [], c => by simp [vr]
 | d :: r, c => by
  rw [List.cons_append, vr, vr, vr_app r c, List.length_cons, Nat.pow_succ, Nat.mul_add, Nat.mul_left_comm];have : (c.toNat - 48) * (10 ^ r.length * 10) = (c.toNat - 48) * (10 * 10 ^ r.length) := by rw [Nat.mul_comm (10 ^ r.length) 10]
  omega
theorem qbxq : ∀ l : QB, val l = vr l.reverse
 | [] => rfl
 | c :: r => by
  rw [val, List.reverse_cons, vr_app, qbxq r, List.length_reverse];omega
theorem vr_inc : ∀ l : QB, AllD l → vr (incR l) = vr l + 1
 | [], _ => rfl
 | c :: r, h => by
  have hc := qbjb h;unfold incR;split
  ·rename_i e;rw [vr, vr_inc r (qww h), vr, e];show 48 - 48 + 10 * (vr r + 1) = 57 - 48 + 10 * vr r + 1;omega
  ·rename_i e;have hne : c.toNat ≠ 57 := fun e' => e (UInt8.toNat_inj.1 e');have e1 : (c + 1).toNat = (c.toNat + 1) % 256 := UInt8.toNat_add c 1;rw [vr, vr, e1];omega
theorem qbtn : ∀ l : QB, AllD l → AllD (incR l)
 | [], _ => by intro x hx; simp [incR] at hx; subst hx; decide
 | c :: r, h => by
  have hc := qbjb h;unfold incR;split
  ·intro x hx;rcases List.mem_cons.1 hx with rfl | hx
   ·decide
   ·exact qbtn r (qww h) x hx
  ·rename_i e;have hne : c.toNat ≠ 57 := fun e' => e (UInt8.toNat_inj.1 e');have e1 : (c + 1).toNat = (c.toNat + 1) % 256 := UInt8.toNat_add c 1;intro x hx;rcases List.mem_cons.1 hx with rfl | hx
   ·omega
   ·exact qww h x hx
theorem qbbr (l : QB) (h : AllD l) : AllD l.reverse := fun x hx => h x (List.mem_reverse.1 hx)
theorem incL_val (l : QB) (h : AllD l) : val (incL l) = val l + 1 ∧ AllD (incL l) := by
 unfold incL;refine ⟨?_, qbbr _ (qbtn _ (qbbr _ h))⟩;rw [qbxq, List.reverse_reverse, vr_inc _ (qbbr _ h), ← qbxq]
theorem qbsq : ∀ l : QB, (incR l).length ≤ l.length + 1
 | [] => by simp [incR]
 | c :: r => by
  have := qbsq r;unfold incR;split <;> simp <;> omega
theorem qcbp (l : QB) (h : AllD l) : val (qbp l) = val l + 1 ∧ AllD (qbp l) := by
 unfold qbp;rw [if_pos (qjk l h), ← qbqj l];exact incL_val _ (qsw l h)
theorem qhh (l : QB) : (qbp l).length ≤ l.length + 2 := by
 unfold qbp;split
 ·have h1 := qbsq (qbk l).reverse;have h2 := qmb l;rw [List.length_reverse] at h1;unfold incL;rw [List.length_reverse];omega
 ·simp
end Go.Proofs.YtpdlgiioahjhiaaGreat

namespace Go.Proofs.YtpdlgiioahjhiaaGreat
open List renaming getElem?_eq_some_iff → qcgn
def isId (c : UInt8) : Bool := c == 45 || isC (c.toNat : Int) 5
def idL : QB → Nat
 | [] => 0
 | c :: r => if isId c then idL r + 1 else 0
theorem qrq : ∀ l : QB, idL l ≤ l.length
 | [] => Nat.le_refl _
 | c :: r => by
  unfold idL;have := qrq r;split <;> simp <;> omega
def digB (l : QB) : Bool := !l.isEmpty && (qz 1 l == l.length)
def qcq (l : QB) : Bool := decide (1 < l.length) && (l.head? == some 48) && digB l
def numB (l : QB) : Bool := digB l && !qcq l
def idB (l : QB) : Bool := !l.isEmpty && (idL l == l.length)
def preB (l : QB) : Bool := idB l && !qcq l
def misL (n a : Nat) : Int := if a = n then 11 else 10
def seg (l : QB) (a e : Nat) : QB := (l.take e).drop a
theorem qbx (s : QY) (a e : Nat) : s.extract a e = qg (seg s.data.toList a e) := qrb s a e
theorem qfb (s : QY) (a e : Nat) : (s.extract a e).data.toList = seg s.data.toList a e := by rw [qbx, qj]
theorem qpw (l : QB) (a e : Nat) (h : e ≤ l.length) : (seg l a e).length = e - a := by simp [seg]; omega
theorem qpt (s : QY) (i : Nat) (h : i < s.size) (hc : isId s[i] = true) : idL (s.data.toList.drop i) = idL (s.data.toList.drop (i + 1)) + 1 := by
 rw [qqf s i h, idL, if_pos hc]
theorem qqt (s : QY) (i : Nat) (h : i < s.size) (hc : isId s[i] = false) : idL (s.data.toList.drop i) = 0 := by
 rw [qqf s i h, idL, if_neg (by simp [hc])]
theorem qsz (s : QY) (i : Nat) (h : s.size ≤ i) : idL (s.data.toList.drop i) = 0 := by
 rw [qzt s i h, idL]
theorem qbrf (s : QY) (a : Nat) (h : a ≤ s.size) : a + idL (s.data.toList.drop a) ≤ s.size := by
 have := qrq (s.data.toList.drop a);rw [List.length_drop, qh] at this;omega
theorem qjn (k : Int) (s : QY) (a : Nat) (h : a ≤ s.size) : a + qz k (s.data.toList.drop a) ≤ s.size := by
 have := qtz k (s.data.toList.drop a);rw [List.length_drop, qh] at this;omega
def qbv (pre : Bool) (l : QB) (x : QB) (e : Nat) : Int :=
 if x = [] then misL l.length e else if !pre || !qcq x then 0 else if l[e]? = some 46 ∨ l[e]? = some 43 then 14 else misL l.length e
def numR (l : QB) (a : Nat) : Except (Int × Nat) Nat :=
 if qz 1 (l.drop a) = 0 then .error (misL l.length a, a) else if qcq (seg l a (a + qz 1 (l.drop a))) then .error (14, a + 1) else .ok (a + qz 1 (l.drop a))
def dotR (l : QB) (a : Nat) : Except (Int × Nat) Nat := if l[a]? = some 46 then .ok (a + 1) else .error (misL l.length a, a)
def qdp (l : QB) : Except (Int × Nat) (Nat × Nat × Nat × Nat × Nat) :=
 match numR l 0 with
 | .error x => .error x
 | .ok a => match dotR l a with
  | .error x => .error x
  | .ok b => match numR l b with
   | .error x => .error x
   | .ok c => match dotR l c with
    | .error x => .error x
    | .ok d => match numR l d with
     | .error x => .error x
     | .ok e => .ok (a, b, c, d, e)
def qp (l : QB) (a : Nat) : List (Nat × Nat) :=
 (a, a + idL (l.drop a)) :: if h : l[a + idL (l.drop a)]? = some 46 then qp l (a + idL (l.drop a) + 1) else []
 termination_by l.length - a
 decreasing_by
  have := (qcgn.1 h).1;omega
theorem qdk (l : QB) (a e : Nat) (he : a + idL (l.drop a) = e) (h : l[e]? = some 46) : qp l a = (a, e) :: qp l (e + 1) := by
 rw [qp];subst he;rw [dif_pos h]
theorem qcs (l : QB) (a e : Nat) (he : a + idL (l.drop a) = e) (h : ¬ l[e]? = some 46) : qp l a = [(a, e)] := by
 rw [qp];subst he;rw [dif_neg h]
theorem qtr (l : QB) : ∀ (n a : Nat), l.length - a = n → (qp l a).length ≤ l.length - a + 1 := by
 intro n
 induction n using Nat.strongRecOn with
 | _ n ih =>
  intro a hn
  by_cases h : l[a + idL (l.drop a)]? = some 46
  ·rw [qdk l a _ rfl h];have hlt := (qcgn.1 h).1;have := ih (l.length - (a + idL (l.drop a) + 1)) (by omega) (a + idL (l.drop a) + 1) rfl
   simp only [List.length_cons];omega
  ·rw [qcs l a _ rfl h];simp
def qcm (z : Nat) (xs : List (Nat × Nat)) : Nat := match xs.getLast? with | some x => x.2 | none => z
theorem qbfk (z : Nat) (xs : List (Nat × Nat)) (x : Nat × Nat) : qcm z (xs ++ [x]) = x.2 := by simp [qcm]
def qcj (p : Bool) (l : QB) : List (Nat × Nat) → Option (Int × Nat)
 | [] => none
 | x :: r => if qbv p l (seg l x.1 x.2) x.2 = 0 then qcj p l r else some (qbv p l (seg l x.1 x.2) x.2, x.2)
theorem qsh (p : Bool) (l : QB) : ∀ xs ys : List (Nat × Nat), qcj p l xs = none → qcj p l (xs ++ ys) = qcj p l ys
 | [], ys, _ => rfl
 | x :: r, ys, h => by
  by_cases hx : qbv p l (seg l x.1 x.2) x.2 = 0
  ·rw [qcj, if_pos hx] at h;rw [List.cons_append, qcj, if_pos hx];exact qsh p l r ys h
  ·rw [qcj, if_neg hx] at h; cases h
def idsR (p : Bool) (l : QB) (a : Nat) : Except (Int × Nat) (List (Nat × Nat) × Nat) :=
 match qcj p l (qp l a) with
 | some x => .error x
 | none => .ok (qp l a, qcm a (qp l a))
theorem qqx (p : Bool) (l : QB) (a : Nat) (pre : List (Nat × Nat)) (x : Nat × Nat) (hb : qcj p l pre = none) (hx : qbv p l (seg l x.1 x.2) x.2 ≠ 0) (h : pre ++ [x] <+: qp l a) : idsR p l a = .error (qbv p l (seg l x.1 x.2) x.2, x.2) := by
 obtain ⟨r, hr⟩ := h;unfold idsR;rw [← hr, List.append_assoc, qsh p l pre _ hb];simp [qcj, hx]
theorem qzk (p : Bool) (l : QB) (a : Nat) (hb : qcj p l (qp l a) = none) : idsR p l a = .ok (qp l a, qcm a (qp l a)) := by
 unfold idsR; rw [hb]
def qcb (l : QB) (p : Nat) (pre : List (Nat × Nat)) : Except (Int × Nat) (List (Nat × Nat) × List (Nat × Nat)) :=
 if l[p]? = some 43 then
  match idsR false l (p + 1) with
  | .error x => .error x
  | .ok (b, q) => if q < l.length then .error (10, q) else .ok (pre, b)
 else if p < l.length then .error (10, p) else .ok (pre, [])
def qdg (l : QB) (e : Nat) : Except (Int × Nat) (List (Nat × Nat) × List (Nat × Nat)) :=
 if l[e]? = some 45 then
  match idsR true l (e + 1) with
  | .error x => .error x
  | .ok (pre, p) => qcb l p pre
 else qcb l e []
structure Cuts where
 a : Nat
 b : Nat
 c : Nat
 d : Nat
 e : Nat
 pre : List (Nat × Nat)
 bld : List (Nat × Nat)
def qbf (l : QB) : Except (Int × Nat) Cuts :=
 if 64 < l.length then .error (12, 64) else
  match qdp l with
  | .error x => .error x
  | .ok (a, b, c, d, e) =>
   match qdg l e with
   | .error x => .error x
   | .ok (pre, bld) => .ok ⟨a, b, c, d, e, pre, bld⟩
theorem qhz (l : QB) : ∀ (n a : Nat), l.length - a = n → a ≤ l.length → ∀ x ∈ qp l a, x.1 ≤ x.2 ∧ x.2 ≤ l.length ∧ idL (l.drop x.2) = 0 := by
 have hz : ∀ m : QB, idL (m.drop (idL m)) = 0 := by
  intro m
  induction m with
  | nil => rfl
  | cons c r ih =>
   by_cases hc : isId c = true
   ·rw [idL, if_pos hc, List.drop_succ_cons]; exact ih
   ·have : idL (c :: r) = 0 := by rw [idL, if_neg hc]
    rw [this, List.drop_zero, this]
 intro n
 induction n using Nat.strongRecOn with
 | _ n ih =>
  intro a hn ha x hx;have he := qrq (l.drop a);rw [List.length_drop] at he;have h0 : (a, a + idL (l.drop a)).1 ≤ (a, a + idL (l.drop a)).2 ∧ (a, a + idL (l.drop a)).2 ≤ l.length ∧ idL (l.drop (a, a + idL (l.drop a)).2) = 0 := by
   refine ⟨by simp, by simp; omega, ?_⟩
   have := hz (l.drop a);rw [List.drop_drop] at this;exact this
  by_cases h : l[a + idL (l.drop a)]? = some 46
  ·rw [qdk l a _ rfl h] at hx;have hlt := (qcgn.1 h).1;rcases List.mem_cons.1 hx with rfl | hx
   ·exact h0
   ·exact ih (l.length - (a + idL (l.drop a) + 1)) (by omega) (a + idL (l.drop a) + 1) rfl (by omega) x hx
  ·rw [qcs l a _ rfl h] at hx;obtain rfl : x = _ := List.mem_singleton.1 hx;exact h0
theorem qcx (l : QB) (a : Nat) : qp l a ≠ [] := by
 rw [qp]; simp
theorem qmn (l : QB) (z a : Nat) : qcm z (qp l a) = qcm a (qp l a) := by
 unfold qcm;cases h : (qp l a).getLast? with
 | none => exact absurd (List.getLast?_eq_none_iff.1 h) (qcx l a)
 | some x => rfl
theorem qhw (l : QB) (a : Nat) (ha : a ≤ l.length) : qcm a (qp l a) ≤ l.length ∧ idL (l.drop (qcm a (qp l a))) = 0 := by
 have hm : ∃ x ∈ qp l a, qcm a (qp l a) = x.2 := by
  unfold qcm;cases h : (qp l a).getLast? with
  | none => exact absurd (List.getLast?_eq_none_iff.1 h) (qcx l a)
  | some x => exact ⟨x, List.mem_of_getLast? h, rfl⟩
 obtain ⟨x, hx, e⟩ := hm;have := qhz l _ a rfl ha x hx;rw [e];exact ⟨this.2.1, this.2.2⟩
end Go.Proofs.YtpdlgiioahjhiaaGreat

namespace Go.Proofs.YtpdlgiioahjhiaaGreat
open Go.RowKit
set_option linter.unusedVariables false
set_option maxHeartbeats 1000000
theorem eqE (s : QY) (h : 0 < s.size) : (s.toList == []) = false := by
 rw [toL];rw [← qh] at h;cases hl : s.data.toList with
 | nil => rw [hl] at h; simp at h
 | cons c r => rfl
theorem emp (s : QY) (h : 0 < s.size) : s.data.toList.isEmpty = false := by
 rw [← qh] at h;cases hl : s.data.toList with
 | nil => rw [hl] at h; simp at h
 | cons c r => rfl
theorem qbjm (s : QY) (h : ¬ 0 < s.size) : s = ⟨#[]⟩ := by
 cases s with | mk d =>
  have : d.size = 0 := by simpa [ByteArray.size] using h
  rw [Array.eq_empty_of_size_eq_zero this]
theorem qps (s : QY) (w : World) (hs : s.size ≤ maxLen) :
  Calls Tryz.prog 102 #[.string s] w fun e w' => e = .returned (.bool (digB s.data.toList)) ∧ w' = w := by
 by_cases hp : 0 < s.size
 ·have hb := eqE s hp;have hI : runI s.data.toList 0 1 = (qz 1 s.data.toList : Int) := by have := qlf s 0 1 (by omega); simpa using this
  have HI := qb hI;have HE := qb (emp s hp);clear hI;go_enter Tryz.func102, Tryz.ntmps102
  (go_wp2_with fail);refine (qpn _ _ _ _ hs).mono ?_;rintro e w' ⟨rfl, rfl⟩;(go_wp2_with fail);go_ret
  refine ⟨qdj ?_, rfl⟩;rw [digB, HE.out, HI.out, qh];simp;rw [Bool.eq_iff_iff];simp;omega
 ·have := qbjm s hp;subst this;go_enter Tryz.func102, Tryz.ntmps102
  (go_wp2_with fail);go_ret
  exact ⟨rfl, rfl⟩
theorem qbzq (s : QY) (h : 0 < s.size) : s.data.toList.head? = some s[0] := by
 have := qqf s 0 h;rw [List.drop_zero] at this;rw [this]; rfl
theorem qkf (s : QY) (w : World) (hs : s.size ≤ maxLen) :
  Calls Tryz.prog 103 #[.string s] w fun e w' => e = .returned (.bool (qcq s.data.toList)) ∧ w' = w := by
 have HZ : Hid (qcq s.data.toList = (decide (1 < s.data.toList.length) && (s.data.toList.head? == some 48) && digB s.data.toList)) := rfl;generalize qcq s.data.toList = Z at *
 by_cases h1 : 1 < s.size
 ·have HH := qb (qbzq s (by omega))
  by_cases h2 : s[0] = 48
  ·have hb : ((s[0].toNat : Int) == 48) = true := by rw [h2]; rfl
   have H2 := qb h2;clear h2;have h0 : 0 < s.size := by omega
   go_enter Tryz.func103, Tryz.ntmps103
   (go_wp2_with fail);refine (qps _ _ hs).mono ?_;rintro e w' ⟨rfl, rfl⟩;(go_wp2_with fail);go_ret
   exact ⟨qdj (by rw [HZ.out, HH.out, qh, H2.out]; simp [h1]), rfl⟩
  ·have hb : ((s[0].toNat : Int) == 48) = false := by
    have : s[0].toNat ≠ 48 := fun e => h2 (UInt8.toNat_inj.1 e);simp; omega
   have H2 := qb h2;clear h2;have h0 : 0 < s.size := by omega
   go_enter Tryz.func103, Tryz.ntmps103
   (go_wp2_with fail);go_ret
   exact ⟨qdj (by rw [HZ.out, HH.out]; simp [H2.out]), rfl⟩
 ·go_enter Tryz.func103, Tryz.ntmps103
  (go_wp2_with fail);go_ret
  exact ⟨qdj (by rw [HZ.out, qh]; simp [h1]), rfl⟩
theorem qbmk (s : QY) (w : World) (hs : s.size ≤ maxLen) :
  Calls Tryz.prog 67 #[.string s] w fun e w' => e = .returned (.bool (numB s.data.toList)) ∧ w' = w := by
 have HZ : Hid (numB s.data.toList = (digB s.data.toList && !qcq s.data.toList)) := rfl;have D := qb (fun w => qps s w hs);have Z := qb (fun w => qkf s w hs);generalize numB s.data.toList = X at *;generalize digB s.data.toList = d at *;generalize qcq s.data.toList = z at *;cases d
 ·go_enter Tryz.func67, Tryz.ntmps67
  (go_wp2_with fail);refine (D.out _).mono ?_;rintro e w' ⟨rfl, rfl⟩;(go_wp2_with fail);go_ret
  exact ⟨qdj (by rw [HZ.out]; rfl), rfl⟩
 ·go_enter Tryz.func67, Tryz.ntmps67
  (go_wp2_with fail);refine (D.out _).mono ?_;rintro e w' ⟨rfl, rfl⟩;(go_wp2_with fail);refine (Z.out _).mono ?_;rintro e w' ⟨rfl, rfl⟩;(go_wp2_with fail);go_ret
  exact ⟨qdj (by rw [HZ.out]; rfl), rfl⟩
theorem qbjj (c : UInt8) (h : c = 45) : isId c = true := by subst h; rfl
theorem isId_not (c : UInt8) (h : c ≠ 45) : isId c = isC (c.toNat : Int) 5 := by
 unfold isId;have : (c == 45) = false := by simpa using h
 rw [this, Bool.false_or]
theorem qmz (s : QY) (a : Nat) (w : World) (hs : s.size ≤ 9223372036854775806) (ha : a ≤ s.size) :
  Calls Tryz.prog 104 #[.string s, .int .i64 (a : Int)] w fun e w' => e = .returned (.int .i64 ((a + idL (s.data.toList.drop a) : Nat) : Int)) ∧ w' = w := by
 go_enter Tryz.func104, Tryz.ntmps104
 (go_wp2_with fail);go_loop [1] (fun i => ∃ j : Nat, a ≤ j ∧ j ≤ s.size ∧ i = .int .i64 j ∧ Hid (a + idL (s.data.toList.drop a) = j + idL (s.data.toList.drop j))) (fun i => s.size - (intOf i).toNat)
 case atStart => exact ⟨a, Nat.le_refl _, ha, rfl, rfl⟩
 case round =>
  obtain ⟨j, haj, hj, rfl, HR⟩ := hrel
  by_cases hlt : j < s.size
  ·by_cases h45 : s[j] = 45
   ·have hb : ((s[j].toNat : Int) == 45) = true := by rw [h45]; rfl
    have HX := qb (qpt s j hlt (qbjj _ h45));clear h45;(go_wp2_with fail);go_round
    case rel => exact ⟨j + 1, by omega, by omega, by go_num, by have x := HX.out; have y := HR.out; show _ = _; omega⟩
    case measure => simp [intOf]; omega
   ·have hb : ((s[j].toNat : Int) == 45) = false := by
     have : s[j].toNat ≠ 45 := fun e => h45 (UInt8.toNat_inj.1 e);simp; omega
    have hI := isId_not _ h45;clear h45
    by_cases hc : isC (s[j].toNat : Int) 5 = true
    ·have HX := qb (qpt s j hlt (by rw [hI]; exact hc))
     clear hI;go_wp2_with (go_at_call 55; refine (qgz _ _ _).mono ?_; rintro e w' ⟨rfl, rfl⟩)
     go_round
     case rel => exact ⟨j + 1, by omega, by omega, by go_num, by have x := HX.out; have y := HR.out; show _ = _; omega⟩
     case measure => simp [intOf]; omega
    ·have hc' : isC (s[j].toNat : Int) 5 = false := by simpa using hc
     have HX := qb (qqt s j hlt (by rw [hI]; exact hc'))
     clear hI;go_wp2_with (go_at_call 55; refine (qgz _ _ _).mono ?_; rintro e w' ⟨rfl, rfl⟩)
     go_ret
     exact ⟨qbn (by have x := HX.out; have y := HR.out; omega), rfl⟩
  ·have HX := qb (qsz s j (by omega))
   (go_wp2_with fail);go_ret
   exact ⟨qbn (by have x := HX.out; have y := HR.out; omega), rfl⟩
theorem qcl (s : QY) (a : Nat) (w : World) :
  Calls Tryz.prog 57 #[.string s, .int .i64 (a : Int)] w fun e w' => e = .returned (.int .i64 (misL s.size a)) ∧ w' = w := by
 by_cases h : a = s.size
 ·have hb : ((a : Int) == (s.size : Int)) = true := by simp; omega
  have HM : Hid (misL s.size a = 11) := if_pos h;clear h;go_enter Tryz.func57, Tryz.ntmps57
  (go_wp2_with fail);go_ret
  exact ⟨qbn HM.out.symm, rfl⟩
 ·have hb : ((a : Int) == (s.size : Int)) = false := by simp; omega
  have HM : Hid (misL s.size a = 10) := if_neg h;clear h;go_enter Tryz.func57, Tryz.ntmps57
  (go_wp2_with fail);go_ret
  exact ⟨qbn HM.out.symm, rfl⟩
theorem qdz (s : QY) (e : Nat) (h : e < s.size) : s.data.toList[e]? = some s[e] := by
 rw [List.getElem?_eq_getElem (by rw [qh]; exact h)]; rfl
theorem qft (s : QY) (e : Nat) (h : ¬ e < s.size) : s.data.toList[e]? = none := by
 rw [List.getElem?_eq_none (by rw [qh]; omega)]
theorem qfl {c : UInt8} {k : Nat} (hk : k < 256) (h : c ≠ UInt8.ofNat k) : ((c.toNat : Int) == (k : Int)) = false := by
 have : c.toNat ≠ k := fun e => h (UInt8.toNat_inj.1 (by rw [e, UInt8.toNat_ofNat']; omega))
 simp; omega
theorem qvn (s x : QY) (a : Nat) (p : Bool) (w : World) (hs : s.size ≤ maxLen) (hx : x.size ≤ maxLen) :
  Calls Tryz.prog 74 #[.string s, .string x, .int .i64 (a : Int), .bool p] w fun e w' => e = .returned (.int .i64 (qbv p s.data.toList x.data.toList a)) ∧ w' = w := by
 have hW : qbv p s.data.toList x.data.toList a = if x.data.toList = [] then misL s.size a else if !p || !qcq x.data.toList then 0 else if s.data.toList[a]? = some 46 ∨ s.data.toList[a]? = some 43 then 14 else misL s.size a := by rw [qbv, qh]
 generalize qbv p s.data.toList x.data.toList a = R at *
 by_cases hp : 0 < x.size
 ·have hb := eqE x hp;have hne : ¬ x.data.toList = [] := by
   have := emp x hp;intro e; rw [e] at this; simp at this
  rw [if_neg hne] at hW;clear hne;have Z := qb (fun w => qkf x w hx);generalize qcq x.data.toList = z at *;cases p
  ·have HW := qb hW;clear hW;go_enter Tryz.func74, Tryz.ntmps74
   (go_wp2_with fail);go_ret
   exact ⟨qbn (by rw [HW.out]; rfl), rfl⟩
  ·cases z
   ·have HW := qb hW;clear hW;go_enter Tryz.func74, Tryz.ntmps74
    (go_wp2_with fail);refine (Z.out _).mono ?_;rintro e w' ⟨rfl, rfl⟩;(go_wp2_with fail);go_ret
    exact ⟨qbn (by rw [HW.out]; rfl), rfl⟩
   ·rw [if_neg (by decide)] at hW
    by_cases hlt : a < s.size
    ·rw [qdz s a hlt] at hW
     by_cases h46 : s[a] = 46
     ·rw [if_pos (.inl (by rw [h46]))] at hW
      have c1 : ((s[a].toNat : Int) == 46) = true := by rw [h46]; rfl
      have HW := qb hW;clear hW h46;go_enter Tryz.func74, Tryz.ntmps74
      (go_wp2_with fail);refine (Z.out _).mono ?_;rintro e w' ⟨rfl, rfl⟩;(go_wp2_with fail);go_ret
      exact ⟨qbn HW.out.symm, rfl⟩
     ·have c1 : ((s[a].toNat : Int) == 46) = false := qfl (k := 46) (by omega) h46
      by_cases h43 : s[a] = 43
      ·rw [if_pos (.inr (by rw [h43]))] at hW
       have c2 : ((s[a].toNat : Int) == 43) = true := by rw [h43]; rfl
       have HW := qb hW;clear hW h43 h46;go_enter Tryz.func74, Tryz.ntmps74
       (go_wp2_with fail);refine (Z.out _).mono ?_;rintro e w' ⟨rfl, rfl⟩;(go_wp2_with fail);go_ret
       exact ⟨qbn HW.out.symm, rfl⟩
      ·have c2 : ((s[a].toNat : Int) == 43) = false := qfl (k := 43) (by omega) h43
       rw [if_neg (by simp [h46, h43])] at hW
       have HW := qb hW;clear hW h43 h46;go_enter Tryz.func74, Tryz.ntmps74
       (go_wp2_with fail);refine (Z.out _).mono ?_;rintro e w' ⟨rfl, rfl⟩;(go_wp2_with fail);refine (qcl _ _ _).mono ?_;rintro e w' ⟨rfl, rfl⟩;(go_wp2_with fail);go_ret
       exact ⟨qbn HW.out.symm, rfl⟩
    ·rw [qft s a hlt, if_neg (by simp)] at hW
     have HW := qb hW;clear hW;go_enter Tryz.func74, Tryz.ntmps74
     (go_wp2_with fail);refine (Z.out _).mono ?_;rintro e w' ⟨rfl, rfl⟩;(go_wp2_with fail);refine (qcl _ _ _).mono ?_;rintro e w' ⟨rfl, rfl⟩;(go_wp2_with fail);go_ret
     exact ⟨qbn HW.out.symm, rfl⟩
 ·have := qbjm x hp;subst this;rw [if_pos rfl] at hW;have HW := qb hW;clear hW;go_enter Tryz.func74, Tryz.ntmps74
  (go_wp2_with fail);refine (qcl _ _ _).mono ?_;rintro e w' ⟨rfl, rfl⟩;(go_wp2_with fail);go_ret
  exact ⟨qbn HW.out.symm, rfl⟩
theorem qpb (s : QY) (w : World) (hs : s.size ≤ 9223372036854775806) :
  Calls Tryz.prog 70 #[.string s] w fun e w' => e = .returned (.bool (idB s.data.toList)) ∧ w' = w := by
 have hI : idB s.data.toList = (!s.data.toList.isEmpty && (idL s.data.toList == s.data.toList.length)) := rfl;generalize idB s.data.toList = X at *
 by_cases hp : 0 < s.size
 ·have hb := eqE s hp;rw [emp s hp, qh] at hI;have I := qmz s 0 w hs (by omega)
  simp only [List.drop_zero, Nat.zero_add] at I;have HI := qb hI;clear hI;have HC := qb I;clear I;go_enter Tryz.func70, Tryz.ntmps70
  (go_wp2_with fail);refine HC.out.mono ?_;rintro e w' ⟨rfl, rfl⟩;(go_wp2_with fail);go_ret
  refine ⟨qdj ?_, rfl⟩;rw [HI.out, Bool.eq_iff_iff];simp;omega
 ·have := qbjm s hp;subst this;have HI := qb hI;clear hI;go_enter Tryz.func70, Tryz.ntmps70
  (go_wp2_with fail);go_ret
  exact ⟨qdj HI.out.symm, rfl⟩
theorem qbtq (s : QY) (w : World) (hs : s.size ≤ 9223372036854775806) :
  Calls Tryz.prog 69 #[.string s] w fun e w' => e = .returned (.bool (preB s.data.toList)) ∧ w' = w := by
 have HZ : Hid (preB s.data.toList = (idB s.data.toList && !qcq s.data.toList)) := rfl;have D := qb (fun w => qpb s w hs);have Z := qb (fun w => qkf s w (by unfold maxLen; omega))
 generalize preB s.data.toList = X at *;generalize idB s.data.toList = d at *;generalize qcq s.data.toList = z at *;cases d
 ·go_enter Tryz.func69, Tryz.ntmps69
  (go_wp2_with fail);refine (D.out _).mono ?_;rintro e w' ⟨rfl, rfl⟩;(go_wp2_with fail);go_ret
  exact ⟨qdj (by rw [HZ.out]; rfl), rfl⟩
 ·go_enter Tryz.func69, Tryz.ntmps69
  (go_wp2_with fail);refine (D.out _).mono ?_;rintro e w' ⟨rfl, rfl⟩;(go_wp2_with fail);refine (Z.out _).mono ?_;rintro e w' ⟨rfl, rfl⟩;(go_wp2_with fail);go_ret
  exact ⟨qdj (by rw [HZ.out]; rfl), rfl⟩
end Go.Proofs.YtpdlgiioahjhiaaGreat

namespace Go.Proofs.YtpdlgiioahjhiaaGreat
open List renaming drop_eq_getElem_cons → qcff, drop_eq_nil_of_le → qcfl
structure SemL where
 maj : QB
 min : QB
 pat : QB
 pre : List QB
 bld : List QB
def oneO (a b : QB) : Int :=
 if digB a then (if digB b then cmpD a b else -1) else if digB b then 1 else Lib.compareBytes a b
def lexO : List QB → List QB → Int
 | [], [] => 0
 | [], _ :: _ => -1
 | _ :: _, [] => 1
 | x :: a, y :: b => if oneO x y = 0 then lexO a b else oneO x y
def preO (a b : List QB) : Int :=
 if a = [] ∨ b = [] then (if b.length < a.length then -1 else if a.length < b.length then 1 else 0) else lexO a b
def or4 (x y z u : Int) : Int := if x ≠ 0 then x else if y ≠ 0 then y else if z ≠ 0 then z else u
def ordO (a b : SemL) : Int := or4 (cmpD a.maj b.maj) (cmpD a.min b.min) (cmpD a.pat b.pat) (preO a.pre b.pre)
def qcf (l : QB) (c : Cuts) : SemL := ⟨seg l 0 c.a, seg l c.b c.c, seg l c.d c.e, c.pre.map fun x => seg l x.1 x.2, c.bld.map fun x => seg l x.1 x.2⟩
def cmpT (a b : QB) : Int :=
 match qbf a, qbf b with
 | .ok x, .ok y => ordO (qcf a x) (qcf b y)
 | .ok _, .error _ => 1
 | .error _, .ok _ => -1
 | .error _, .error _ => Lib.compareBytes a b
theorem qbjx (a b : List QB) (i : Nat) (ha : i < a.length) (hb : i < b.length) : lexO (a.drop i) (b.drop i) = if oneO a[i] b[i] = 0 then lexO (a.drop (i + 1)) (b.drop (i + 1)) else oneO a[i] b[i] := by
 rw [qcff ha, qcff hb, lexO]
theorem qbhb (a b : List QB) (i : Nat) (ha : i < a.length) (hb : b.length ≤ i) : lexO (a.drop i) (b.drop i) = 1 := by
 rw [qcff ha, qcfl hb, lexO]
theorem qbjp (a b : List QB) (i : Nat) (ha : a.length ≤ i) (hb : i < b.length) : lexO (a.drop i) (b.drop i) = -1 := by
 rw [qcff hb, qcfl ha, lexO]
theorem qbss (a b : List QB) (i : Nat) (ha : a.length ≤ i) (hb : b.length ≤ i) : lexO (a.drop i) (b.drop i) = 0 := by
 rw [qcfl ha, qcfl hb, lexO]
end Go.Proofs.YtpdlgiioahjhiaaGreat

namespace Go.Proofs.YtpdlgiioahjhiaaGreat
open Go.RowKit
set_option linter.unusedVariables false
set_option maxHeartbeats 2000000
set_option maxRecDepth 100000
theorem qbtd (a b : QY) (w : World) (ha : a.size ≤ 9223372036854775806) (hb : b.size ≤ 9223372036854775806) :
  Calls Tryz.prog 143 #[.string a, .string b] w fun e w' => e = .returned (.int .i64 (oneO a.data.toList b.data.toList)) ∧ w' = w := by
 have hO : oneO a.data.toList b.data.toList = if digB a.data.toList then (if digB b.data.toList then cmpD a.data.toList b.data.toList else -1) else if digB b.data.toList then 1 else Lib.compareBytes a.data.toList b.data.toList := rfl;have D1 := qb (fun w => qps a w (by unfold maxLen; omega))
 have D2 := qb (fun w => qps b w (by unfold maxLen; omega))
 generalize oneO a.data.toList b.data.toList = O at *;generalize digB a.data.toList = x at *;generalize digB b.data.toList = y at *;have HO := qb hO;clear hO;cases x <;> cases y
 ·go_enter Tryz.func143, Tryz.ntmps143
  (go_wp2_with fail);refine (D1.out _).mono ?_;rintro e w' ⟨rfl, rfl⟩;(go_wp2_with fail);refine (D2.out _).mono ?_;rintro e w' ⟨rfl, rfl⟩;(go_wp2_with fail);refine (qmj _ _ _).mono ?_;rintro e w' ⟨rfl, rfl⟩;(go_wp2_with fail);go_ret
  exact ⟨qbn (by rw [HO.out]; rfl), rfl⟩
 ·go_enter Tryz.func143, Tryz.ntmps143
  (go_wp2_with fail);refine (D1.out _).mono ?_;rintro e w' ⟨rfl, rfl⟩;(go_wp2_with fail);refine (D2.out _).mono ?_;rintro e w' ⟨rfl, rfl⟩;(go_wp2_with fail);go_ret
  exact ⟨qbn (by rw [HO.out]; rfl), rfl⟩
 ·go_enter Tryz.func143, Tryz.ntmps143
  (go_wp2_with fail);refine (D1.out _).mono ?_;rintro e w' ⟨rfl, rfl⟩;(go_wp2_with fail);refine (D2.out _).mono ?_;rintro e w' ⟨rfl, rfl⟩;(go_wp2_with fail);go_ret
  exact ⟨qbn (by rw [HO.out]; rfl), rfl⟩
 ·go_enter Tryz.func143, Tryz.ntmps143
  (go_wp2_with fail);refine (D1.out _).mono ?_;rintro e w' ⟨rfl, rfl⟩;(go_wp2_with fail);refine (D2.out _).mono ?_;rintro e w' ⟨rfl, rfl⟩;(go_wp2_with fail);refine (qcbm _ _ _ ha hb).mono ?_;rintro e w' ⟨rfl, rfl⟩;(go_wp2_with fail);go_ret
  exact ⟨qbn (by rw [HO.out]; rfl), rfl⟩
def Txt (W : World) (v : Value) (ts : List QB) : Prop :=
 ∃ a cap, v = .slice a ts.length cap ∧ (ts = [] ∨ ∃ b off, a = some ⟨b, off, none⟩ ∧ b < W.heap.size ∧ ∀ i (h : i < ts.length), W.cell? ⟨b, off + i, none⟩ = some (.string (qg ts[i])))
theorem Txt.below {W W' : World} {v : Value} {ts : List QB} (h : Txt W v ts) (hb : Below W.heap.size W W') : Txt W' v ts := by
 obtain ⟨a, cap, hv, h0 | ⟨b, off, ha, hlt, hc⟩⟩ := h
 ·exact ⟨a, cap, hv, .inl h0⟩
 ·exact ⟨a, cap, hv, .inr ⟨b, off, ha, Nat.lt_of_lt_of_le hlt hb.size, fun i hi => by rw [← hc i hi]; simp only [World.cell?]; rw [hb.block b hlt]⟩⟩
theorem Txt.some {W : World} {a : Option Addr} {n cap : Nat} {ts : List QB} (h : Txt W (.slice a n cap) ts) (hne : 0 < ts.length) :
  ∃ b off, a = some ⟨b, off, none⟩ ∧ ∀ i (h : i < ts.length), W.cell? ⟨b, off + i, none⟩ = some (.string (qg ts[i])) := by
 obtain ⟨a', cap', hv, h0 | ⟨b, off, ha, hlt, hc⟩⟩ := h
 ·subst h0; simp at hne
 ·cases hv;exact ⟨b, off, ha, hc⟩
def qxd (ts : List QB) : Prop := ts.length ≤ 9223372036854775806 ∧ ∀ t ∈ ts, t.length ≤ 9223372036854775806
theorem qxz (va vb : Value) (xs ys : List QB) (w : World) (ha : Txt w va xs) (hb : Txt w vb ys) (sx : qxd xs) (sy : qxd ys) :
  Calls Tryz.prog 142 #[va, vb, .func (.func 143) #[] #[]] w fun e w' => e = .returned (.int .i64 (lexO xs ys)) ∧ w' = w := by
 obtain ⟨a1, c1, rfl, _⟩ := id ha;obtain ⟨a2, c2, rfl, _⟩ := id hb;have HA := qb ha;have HB := qb hb;have SX := qb sx;have SY := qb sy;have lx := sx.1;have ly := sy.1;clear ha hb sx sy;go_enter Tryz.func142, Tryz.ntmps142
 (go_wp2_with fail);go_loop [13] (fun i => ∃ k : Nat, k ≤ xs.length ∧ k ≤ ys.length ∧ i = .int .i64 k ∧ Hid (lexO xs ys = lexO (xs.drop k) (ys.drop k))) (fun i => xs.length - (intOf i).toNat)
 case atStart => exact ⟨0, by omega, by omega, rfl, by simp [Hid]⟩
 case round =>
  obtain ⟨k, hk, hky, rfl, HR⟩ := hrel
  by_cases h1 : k < xs.length
  ·obtain ⟨b1, o1, rfl, hc1⟩ := HA.out.some (by omega)
   have p1 := hc1 k h1;clear hc1
   by_cases h2 : k < ys.length
   ·obtain ⟨b2, o2, rfl, hc2⟩ := HB.out.some (by omega)
    have p2 := hc2 k h2;clear hc2;have C := qbtd (qg xs[k]) (qg ys[k]) w (by rw [qx]; exact SX.out.2 _ (List.getElem_mem _)) (by rw [qx]; exact SY.out.2 _ (List.getElem_mem _))
    rw [qj, qj] at C;have HC := qb C;clear C;have hX := qbjx xs ys k h1 h2;have hge : ¬ ((ys.length : Int) ≤ (k : Int)) := by omega
    generalize xs[k] = x at *;generalize ys[k] = y at *;generalize oneO x y = O at *
    by_cases h0 : O = 0
    ·subst h0;rw [if_pos rfl] at hX;have HX := qb hX;clear hX;(go_wp2_with fail);refine HC.out.mono ?_;rintro e w' ⟨rfl, hw'⟩;rw [hw'];clear hw' w';(go_wp2_with fail);go_round
     case rel => exact ⟨k + 1, by omega, by omega, by go_num, by rw [HR.out, HX.out]; rfl⟩
     case measure => simp [intOf]; omega
    ·rw [if_neg h0] at hX;have hb0 : (O != 0) = true := by simpa using h0
     have HX := qb hX;clear hX h0;(go_wp2_with fail);refine HC.out.mono ?_;rintro e w' ⟨rfl, hw'⟩;rw [hw'];clear hw' w';(go_wp2_with fail);go_ret
     exact ⟨qbn (by rw [HR.out, HX.out]), rfl⟩
   ·have HX := qb (qbhb xs ys k h1 (by omega))
    have hge : ((ys.length : Int) ≤ (k : Int)) := by omega
    (go_wp2_with fail);go_ret
    exact ⟨qbn (by rw [HR.out, HX.out]), rfl⟩
  ·by_cases h2 : k < ys.length
   ·have HX := qb (qbjp xs ys k (by omega) h2)
    have hlt : ((xs.length : Int) < (ys.length : Int)) := by omega
    (go_wp2_with fail);go_ret
    exact ⟨qbn (by rw [HR.out, HX.out]), rfl⟩
   ·have HX := qb (qbss xs ys k (by omega) (by omega))
    have hlt : ¬ ((xs.length : Int) < (ys.length : Int)) := by omega
    (go_wp2_with fail);go_ret
    exact ⟨qbn (by rw [HR.out, HX.out]), rfl⟩
theorem qtt {n : Nat} (h : n = 0) : ((n : Int) == 0) = true := by subst h; rfl
theorem qvf {n : Nat} (h : ¬ n = 0) : ((n : Int) == 0) = false := by simp; omega
theorem qbkg (va vb : Value) (xs ys : List QB) (w : World) (ha : Txt w va xs) (hb : Txt w vb ys) (sx : qxd xs) (sy : qxd ys) :
  Calls Tryz.prog 107 #[va, vb] w fun e w' => e = .returned (.int .i64 (preO xs ys)) ∧ w' = w := by
 have C := qxz va vb xs ys w ha hb sx sy;obtain ⟨a1, c1, rfl, _⟩ := id ha;obtain ⟨a2, c2, rfl, _⟩ := id hb;have lx := sx.1;have ly := sy.1;have hP : preO xs ys = if xs = [] ∨ ys = [] then (if ys.length < xs.length then -1 else if xs.length < ys.length then 1 else 0) else lexO xs ys := rfl;generalize preO xs ys = R at *;have HC := qb C;clear C ha hb sx sy
 by_cases h1 : xs.length = 0
 ·rw [if_pos (.inl (List.length_eq_zero_iff.1 h1))] at hP;have CC := qnn (ys.length : Int) (xs.length : Int) w;simp only [Int.ofNat_lt] at CC;rw [← hP] at CC;have HD := qb CC;have hb1 := qtt h1;clear hP CC h1;go_enter Tryz.func107, Tryz.ntmps107
  (go_wp2_with fail);refine HD.out.mono ?_;rintro e w' ⟨rfl, rfl⟩;(go_wp2_with fail);go_ret
  exact ⟨rfl, rfl⟩
 ·have hb1 := qvf h1
  by_cases h2 : ys.length = 0
  ·rw [if_pos (.inr (List.length_eq_zero_iff.1 h2))] at hP;have CC := qnn (ys.length : Int) (xs.length : Int) w;simp only [Int.ofNat_lt] at CC;rw [← hP] at CC;have HD := qb CC;have hb2 := qtt h2;clear hP CC h1 h2;go_enter Tryz.func107, Tryz.ntmps107
   (go_wp2_with fail);refine HD.out.mono ?_;rintro e w' ⟨rfl, rfl⟩;(go_wp2_with fail);go_ret
   exact ⟨rfl, rfl⟩
  ·rw [if_neg (by rintro (h | h) <;> simp [h] at h1 h2)] at hP
   have HP := qb hP;have hb2 := qvf h2;clear hP h1 h2;go_enter Tryz.func107, Tryz.ntmps107
   (go_wp2_with fail);refine HC.out.mono ?_;rintro e w' ⟨rfl, rfl⟩;(go_wp2_with fail);go_ret
   exact ⟨qbn HP.out.symm, rfl⟩
theorem Or_any (B : Nat) (x y z u : Int) (w : World) (h0 : w.cell? ⟨B, 0, none⟩ = some (.int .i64 x)) (h1 : w.cell? ⟨B, 1, none⟩ = some (.int .i64 y)) (h2 : w.cell? ⟨B, 2, none⟩ = some (.int .i64 z)) (h3 : w.cell? ⟨B, 3, none⟩ = some (.int .i64 u)) :
  Calls Tryz.prog 105 #[.slice (some ⟨B, 0, none⟩) 4 4] w fun e w' => e = .returned (.int .i64 (or4 x y z u)) ∧ w' = w := by
 have hO : or4 x y z u = if x ≠ 0 then x else if y ≠ 0 then y else if z ≠ 0 then z else u := rfl;generalize or4 x y z u = R at *
 by_cases c0 : x = 0
 ·rw [if_neg (by simp [c0])] at hO
  have b0 : (x != 0) = false := by simpa using c0
  by_cases c1 : y = 0
  ·rw [if_neg (by simp [c1])] at hO
   have b1 : (y != 0) = false := by simpa using c1
   by_cases c2 : z = 0
   ·rw [if_neg (by simp [c2])] at hO
    have b2 : (z != 0) = false := by simpa using c2
    by_cases c3 : u = 0
    ·have HO : Hid (R = 0) := hO.trans c3;have b3 : (u != 0) = false := by simpa using c3
     clear hO c0 c1 c2 c3;go_enter Tryz.func105, Tryz.ntmps105
     (go_wp2_with fail);refine wp_loop_rounds 5 ?_;rw [rounds_succ];(go_wp2_with fail);rw [rounds_succ];(go_wp2_with fail);rw [rounds_succ];(go_wp2_with fail);rw [rounds_succ];(go_wp2_with fail);rw [rounds_succ];(go_wp2_with fail);go_ret
     exact ⟨qbn HO.out.symm, rfl⟩
    ·have HO := qb hO;have b3 : (u != 0) = true := by simpa using c3
     clear hO c0 c1 c2 c3;go_enter Tryz.func105, Tryz.ntmps105
     (go_wp2_with fail);refine wp_loop_rounds 5 ?_;rw [rounds_succ];(go_wp2_with fail);rw [rounds_succ];(go_wp2_with fail);rw [rounds_succ];(go_wp2_with fail);rw [rounds_succ];(go_wp2_with fail);go_ret
     exact ⟨qbn HO.out.symm, rfl⟩
   ·rw [if_pos c2] at hO;have HO := qb hO;have b2 : (z != 0) = true := by simpa using c2
    clear hO c0 c1 c2;go_enter Tryz.func105, Tryz.ntmps105
    (go_wp2_with fail);refine wp_loop_rounds 5 ?_;rw [rounds_succ];(go_wp2_with fail);rw [rounds_succ];(go_wp2_with fail);rw [rounds_succ];(go_wp2_with fail);go_ret
    exact ⟨qbn HO.out.symm, rfl⟩
  ·rw [if_pos c1] at hO;have HO := qb hO;have b1 : (y != 0) = true := by simpa using c1
   clear hO c0 c1;go_enter Tryz.func105, Tryz.ntmps105
   (go_wp2_with fail);refine wp_loop_rounds 5 ?_;rw [rounds_succ];(go_wp2_with fail);rw [rounds_succ];(go_wp2_with fail);go_ret
   exact ⟨qbn HO.out.symm, rfl⟩
 ·rw [if_pos c0] at hO;have HO := qb hO;have b0 : (x != 0) = true := by simpa using c0
  clear hO c0;go_enter Tryz.func105, Tryz.ntmps105
  (go_wp2_with fail);refine wp_loop_rounds 5 ?_;rw [rounds_succ];(go_wp2_with fail);go_ret
  exact ⟨qbn HO.out.symm, rfl⟩
def qfd (W : World) (v : Value) (x : SemL) : Prop :=
 ∃ vp vb, v = .agg #[.string (qg x.maj), .string (qg x.min), .string (qg x.pat), vp, vb] ∧ Txt W vp x.pre ∧ Txt W vb x.bld
theorem qfd.below {W W' : World} {v : Value} {x : SemL} (h : qfd W v x) (hb : Below W.heap.size W W') : qfd W' v x := by
 obtain ⟨vp, vb, hv, h1, h2⟩ := h;exact ⟨vp, vb, hv, h1.below hb, h2.below hb⟩
def qct (x : SemL) : Prop := x.maj.length ≤ 9223372036854775806 ∧ x.min.length ≤ 9223372036854775806 ∧ x.pat.length ≤ 9223372036854775806 ∧ qxd x.pre ∧ qxd x.bld
theorem qbng (a b : QB) (w : World) (ha : a.length ≤ 9223372036854775806) (hb : b.length ≤ 9223372036854775806) :
  Calls Tryz.prog 106 #[.string (qg a), .string (qg b)] w fun e w' => e = .returned (.int .i64 (cmpD a b)) ∧ w' = w := by
 have := qcbm (qg a) (qg b) w (by rw [qx]; exact ha) (by rw [qx]; exact hb)
 rw [qj, qj] at this;exact this
theorem qbhl (va vb : Value) (x y : SemL) (w : World) (ha : qfd w va x) (hb : qfd w vb y) (sx : qct x) (sy : qct y) :
  Calls Tryz.prog 71 #[va, vb] w fun e w' => e = .returned (.int .i64 (ordO x y)) ∧ Below w.heap.size w w' := by
 obtain ⟨p1, q1, rfl, t1, u1⟩ := ha;obtain ⟨p2, q2, rfl, t2, u2⟩ := hb;obtain ⟨a1, c1, rfl, _⟩ := id t1;obtain ⟨a2, c2, rfl, _⟩ := id t2;obtain ⟨a3, c3, rfl, _⟩ := id u1;obtain ⟨a4, c4, rfl, _⟩ := id u2;have C1 := qb (fun w => qbng x.maj y.maj w sx.1 sy.1);have C2 := qb (fun w => qbng x.min y.min w sx.2.1 sy.2.1);have C3 := qb (fun w => qbng x.pat y.pat w sx.2.2.1 sy.2.2.1);have C4 := qb (fun W hW => qbkg _ _ x.pre y.pre W (t1.below hW) (t2.below hW) sx.2.2.2.1 sy.2.2.2.1);have HO : Hid (ordO x y = or4 (cmpD x.maj y.maj) (cmpD x.min y.min) (cmpD x.pat y.pat) (preO x.pre y.pre)) := rfl;generalize ordO x y = O at *;generalize cmpD x.maj y.maj = o1 at *;generalize cmpD x.min y.min = o2 at *;generalize cmpD x.pat y.pat = o3 at *;generalize preO x.pre y.pre = o4 at *;clear t1 t2 u1 u2 sx sy;go_enter Tryz.func71, Tryz.ntmps71
 (go_wp2_with fail);refine wp_region_still_tail 20 (by kernel_rfl) (by kernel_rfl) ?_
 change wpStill _ _ (World.drew _) _ _ _
 simp only [List.take_succ_cons, List.take_zero, List.drop_succ_cons, List.drop_zero]
 still_step
 still_step
 still_step
 still_step
 still_call (C1.out _)
 still_step
 still_step
 still_step
 still_step
 still_call (C2.out _)
 still_step
 still_step
 still_step
 still_step
 still_call (C3.out _)
 still_step
 still_step
 still_step
 still_step
 still_call (C4.out _ (((Below.refl _ w).alloc (Nat.le_refl _) _).alloc (by simp) _).drew)
 refine wpStill_nil ?_;(go_wp2_with fail);refine (Or_any _ o1 o2 o3 o4 _ (by go_simp) (by go_simp) (by go_simp) (by go_simp)).mono ?_
 rintro e w' ⟨rfl, rfl⟩;(go_wp2_with fail);go_ret
 exact ⟨qbn HO.out.symm, ((((Below.refl _ w).alloc (Nat.le_refl _) _).alloc (by simp) _).alloc (by simp; omega) _).drew⟩
end Go.Proofs.YtpdlgiioahjhiaaGreat

namespace Go.Proofs.YtpdlgiioahjhiaaGreat
open Go.RowKit Go.Shelf
set_option linter.unusedVariables false
set_option maxHeartbeats 2000000
set_option maxRecDepth 100000
attribute [local go_sem] Oper.semAt_some
def Two (b c : Nat) (W W' : World) : Prop := W'.heap[b]? = W.heap[b]? ∧ W'.heap[c]? = W.heap[c]?
theorem Two.refl (b c : Nat) (W : World) : Two b c W W := ⟨rfl, rfl⟩
theorem Two.trans {b c : Nat} {A B C : World} (h : Two b c A B) (k : Two b c B C) : Two b c A C := ⟨k.1.trans h.1, k.2.trans h.2⟩
theorem Two.boxed {b c : Nat} {W W' : World} (h : Two b c W W') {t u : TypeId} {x y : Value} (hb : Boxed W b t x) (hc : Boxed W c u y) : Boxed W' b t x ∧ Boxed W' c u y := ⟨h.1.trans hb, h.2.trans hc⟩
theorem ids1_in (n : Nat) (hn : 1 ≤ n) (l Ba Bs : Nat) (s : QY) (a : Nat) (ha : a ≤ s.size) (hs : s.size ≤ 4000000000000) (J Jx : List (Nat × Nat) → World → Prop) (B0 : Nat) (hJ : AbidesFrom B0 J)
    (hY : ∀ pre x W, J pre W → pre.length < (qp s.data.toList a).length → YieldAt Fence.wide (n - 1) Tryz.prog l #[.string (s.extract x.1 x.2), .int .i64 (x.2 : Int)] W fun e W' =>
      (e = .returned (.bool true) ∧ J (pre ++ [x]) W' ∧ Two Ba Bs W W') ∨ (e = .returned (.bool false) ∧ Jx (pre ++ [x]) W'))
    (W : World) (hBa : Boxed W Ba 3 (.int .i64 (a : Int))) (hBs : Boxed W Bs 9 (.string s)) (h0 : J [] W) :
    CallsIn Fence.wide n Tryz.prog 108 #[.func (.yield l) #[] #[], .pointer (some ⟨Ba, 0, none⟩), .pointer (some ⟨Bs, 0, none⟩)] W fun e W' => (∃ v, e = .returned v) ∧
      ((∃ ys, ys = qp s.data.toList a ∧ J ys W') ∨ (∃ pre, pre <+: qp s.data.toList a ∧ Jx pre W')) := by
  have cA0 := hBa.cell;refine callsIn_of_wp Tryz.func108 rfl trivial ?_ rfl;simp only [Tryz.ntmps108, List.size_toArray, List.length_cons, List.length_nil, Nat.reduceAdd, Nat.reduceSub, Array.replicate_succ, Array.replicate_zero, List.push_toArray, List.append_toArray, List.nil_append, List.cons_append];gi_wp2
  gi_loopw [4] (fun i wr => ∃ (k : Nat) (pre : List (Nat × Nat)), k ≤ s.size ∧ i = .int .i64 k ∧ J pre wr ∧ Boxed wr Ba 3 (.int .i64 (a : Int)) ∧ Boxed wr Bs 9 (.string s) ∧
      Hid (qp s.data.toList a = pre ++ qp s.data.toList k))
    (fun i _ => s.size - (intOf i).toNat)
  case atStart => exact ⟨a, [], ha, rfl, h0, hBa, hBs, rfl⟩
  case round =>
    obtain ⟨k, pre, hk, rfl, hJs, bA, bS, HR⟩ := hrel;have cS := bS.cell;have hle := qbrf s k hk;have C := qmz s k wr (by omega) hk
    have hD := qdk s.data.toList k _ rfl;have hL := qcs s.data.toList k _ rfl;have hke : k ≤ k + idL (s.data.toList.drop k) := by omega
    generalize k + idL (s.data.toList.drop k) = e at *;have HC := qb C;clear C
    by_cases hlt : e < s.size
    · have hne : ((e : Int) == (s.size : Int)) = false := by simp; omega
      rw [qdz s e hlt] at hD hL
      by_cases hc : s[e] = 46
      · have hb : ((s[e].toNat : Int) != 46) = false := by rw [hc]; rfl
        have HX := qb (hD (by rw [hc]))
        clear hc hD hL;obtain ⟨fn, tmps, assign, body, hy, hR⟩ := hY pre (k, e) wr hJs (by rw [HR.out, HX.out]; simp)
        dsimp only at hy;gi_wp2_with (refine ⟨trivial, ?_⟩; gi_at_call 104; refine (callsIn_wide.2 HC.out).mono ?_; rintro e w' ⟨rfl, hw'⟩; rw [hw']; clear hw' w')
        refine hR.mono ?_;rintro e' W3 (⟨rfl, hJ3, hk3⟩ | ⟨rfl, hJx3⟩)
        · obtain ⟨bA3, bS3⟩ := hk3.boxed bA bS
          clear cS;have cS := bS3.cell;gi_wp2
          go_roundw
          case rel => exact ⟨e + 1, pre ++ [(k, e)], by omega, by go_num, hJ3, bA3, bS3, by rw [HR.out, HX.out]; simp [Hid]⟩
          case measure => simp [intOf]; omega
        · gi_wp2
          refine bodyPost_ret (results_none rfl _ _ _) rfl ?_;exact ⟨⟨_, rfl⟩, .inr ⟨pre ++ [(k, e)], by rw [HR.out, HX.out]; exact ⟨_, by simp; rfl⟩, hJx3⟩⟩
      · have hb : ((s[e].toNat : Int) != 46) = true := by have := qfl (k := 46) (by omega) hc; simpa [bne] using this
        have HX := qb (hL (by simpa using hc))
        clear hc hD hL;obtain ⟨fn, tmps, assign, body, hy, hR⟩ := hY pre (k, e) wr hJs (by rw [HR.out, HX.out]; simp)
        dsimp only at hy;gi_wp2_with (refine ⟨trivial, ?_⟩; gi_at_call 104; refine (callsIn_wide.2 HC.out).mono ?_; rintro e w' ⟨rfl, hw'⟩; rw [hw']; clear hw' w')
        refine hR.mono ?_;rintro e' W3 (⟨rfl, hJ3, hk3⟩ | ⟨rfl, hJx3⟩)
        · obtain ⟨bA3, bS3⟩ := hk3.boxed bA bS
          clear cS;have cS := bS3.cell;gi_wp2
          refine bodyPost_ret (results_none rfl _ _ _) rfl ?_;exact ⟨⟨_, rfl⟩, .inl ⟨pre ++ [(k, e)], by rw [HR.out, HX.out], hJ3⟩⟩
        · gi_wp2
          refine bodyPost_ret (results_none rfl _ _ _) rfl ?_;exact ⟨⟨_, rfl⟩, .inr ⟨pre ++ [(k, e)], by rw [HR.out, HX.out]; exact List.prefix_refl _, hJx3⟩⟩
    · have hne : ((e : Int) == (s.size : Int)) = true := by simp; omega
      rw [qft s e hlt] at hD hL;have HX := qb (hL (by simp))
      clear hD hL;obtain ⟨fn, tmps, assign, body, hy, hR⟩ := hY pre (k, e) wr hJs (by rw [HR.out, HX.out]; simp)
      dsimp only at hy;gi_wp2_with (refine ⟨trivial, ?_⟩; gi_at_call 104; refine (callsIn_wide.2 HC.out).mono ?_; rintro e w' ⟨rfl, hw'⟩; rw [hw']; clear hw' w')
      refine hR.mono ?_;rintro e' W3 (⟨rfl, hJ3, hk3⟩ | ⟨rfl, hJx3⟩)
      · obtain ⟨bA3, bS3⟩ := hk3.boxed bA bS
        clear cS;have cS := bS3.cell;gi_wp2
        refine bodyPost_ret (results_none rfl _ _ _) rfl ?_;exact ⟨⟨_, rfl⟩, .inl ⟨pre ++ [(k, e)], by rw [HR.out, HX.out], hJ3⟩⟩
      · gi_wp2
        refine bodyPost_ret (results_none rfl _ _ _) rfl ?_;exact ⟨⟨_, rfl⟩, .inr ⟨pre ++ [(k, e)], by rw [HR.out, HX.out]; exact List.prefix_refl _, hJx3⟩⟩
theorem qwb (n : Nat) (hn : 1 ≤ n) (Ba Bs : Nat) (s : QY) (a : Nat) (ha : a ≤ s.size) (hs : s.size ≤ 4000000000000) (w : World) (hBa : Boxed w Ba 3 (.int .i64 (a : Int))) (hBs : Boxed w Bs 9 (.string s)) :
  SeqStopsK Fence.wide n Tryz.prog 108 #[.pointer (some ⟨Ba, 0, none⟩), .pointer (some ⟨Bs, 0, none⟩)] (fun x : Nat × Nat => #[Value.string (s.extract x.1 x.2), .int .i64 (x.2 : Int)]) (Two Ba Bs) (fun ys => ys = qp s.data.toList a) (fun pre => pre <+: qp s.data.toList a) (qp s.data.toList a).length w := fun l J Jx W hW hJ _ hY h0 =>
 ids1_in n hn l Ba Bs s a ha hs J Jx W.heap.size hJ hY W ((hW.block Ba hBa.lt).trans hBa) ((hW.block Bs hBs.lt).trans hBs) h0
theorem qkw (s : QY) (a : Int) (w : World) :
  Calls Tryz.prog 73 #[.string s, .int .i64 a] w fun e w' => e = .returned (.func (.func 108) #[] #[.pointer (some ⟨w.heap.size + 1, 0, none⟩), .pointer (some ⟨w.heap.size, 0, none⟩)]) ∧ w' = (w.alloc (.cells #[.string s] 9)).alloc (.cells #[.int .i64 a] 3) := by
 go_enter Tryz.func73, Tryz.ntmps73
 go_wp2
 go_ret
 exact ⟨rfl, rfl⟩
theorem two_b {b c : Nat} {w : World} (hb : b < w.heap.size) (hc : c < w.heap.size) : ∀ (W : World) (l : Nat) (o o' : Obj), w.heap.size ≤ l → W.heap[l]? = some o → o.isCells = false → o.isWalk = false → Two b c W (W.putObj l o') :=
 fun W l o o' hl _ _ _ => ⟨World.putObj_heap_other (by omega), World.putObj_heap_other (by omega)⟩
end Go.Proofs.YtpdlgiioahjhiaaGreat
