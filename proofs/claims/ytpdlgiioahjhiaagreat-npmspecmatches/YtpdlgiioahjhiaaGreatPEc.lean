/- The worlds of a partial's numbers. -/
import Derived.Test.YtpdlgiioahjhiaaGreatPSc
import Derived.Test.YtpdlgiioahjhiaaGreatPFc
import Derived.Test.YtpdlgiioahjhiaaGreatPSb
import Derived.WalkMore
namespace Go.Proofs.YtpdlgiioahjhiaaGreat
open Go.RowKit
set_option linter.unusedVariables false
set_option maxHeartbeats 1000000
def hasP (s x : QB) : Bool := s.take x.length == x
theorem qbvt (s x : QB) (h : s.length < x.length) : hasP s x = false := by
 unfold hasP;rw [beq_eq_false_iff_ne];intro e;have := congrArg List.length e;simp at this;omega
theorem qzx (s x : QY) (w : World) :
  Calls Tryz.prog 151 #[.string s, .string x] w fun e w' => e = .returned (.bool (hasP s.data.toList x.data.toList)) ∧ w' = w := by
 by_cases h : x.size ≤ s.size
 ·have hge : decide ((x.size : Int) ≤ (s.size : Int)) = true := by simp; omega
  have HE : Hid (((s.extract 0 x.size).toList == x.toList) = hasP s.data.toList x.data.toList) := by
   show _ = _;rw [toL, toL, qrb, qj, hasP, qh]; simp
  go_enter Tryz.func151, Tryz.ntmps151
  go_wp2
  go_ret
  exact ⟨qdj HE.out, rfl⟩
 ·have HE : Hid (hasP s.data.toList x.data.toList = false) := qbvt _ _ (by rw [qh, qh]; omega)
  go_enter Tryz.func151, Tryz.ntmps151
  go_wp2
  go_ret
  exact ⟨qdj HE.out.symm, rfl⟩
theorem qsl (s x : QY) (w : World) :
  Calls Tryz.prog 124 #[.string s, .string x] w fun e w' => e = .returned (.bool (hasP s.data.toList x.data.toList)) ∧ w' = w := by
 go_enter Tryz.func124, Tryz.ntmps124
 go_wp2_with (go_at_call 151; refine (qzx _ _ _).mono ?_; rintro e w' ⟨rfl, rfl⟩)
 go_ret
 exact ⟨rfl, rfl⟩
def Words (W : World) (a : Option Addr) (ws : List QY) : Prop :=
 ws = [] ∨ ∃ b off, a = some ⟨b, off, none⟩ ∧ ∀ i, i < ws.length → W.cell? ⟨b, off + i, none⟩ = some (.string (ws.getD i ByteArray.empty))
def qxq (s : QB) (acc : QY × Bool) (x : QY) : QY × Bool :=
 if hasP s x.data.toList = true ∧ (acc.2 = false ∨ acc.1.size < x.size) then (x, true) else acc
def qqp (s : QB) (ws : List QY) : QY × Bool := ws.foldl (qxq s) (ByteArray.empty, false)
theorem qbwd (s : QB) (ws : List QY) (k : Nat) (h : k < ws.length) : qqp s (ws.take (k + 1)) = qxq s (qqp s (ws.take k)) (ws.getD k ByteArray.empty) := by
 unfold qqp;rw [List.take_succ_eq_append_getElem h, List.foldl_append];simp [List.getD, h]
theorem ret_w {a c : QY} {b d : Bool} (h1 : a = c) (h2 : b = d) : Ending.returned (.tuple #[.string a, .bool b]) = .returned (.tuple #[.string c, .bool d]) := by rw [h1, h2]
theorem Word_in (s : QY) (m : Nat) (hm : m ≤ s.size) (a0 : Option Addr) (ws : List QY) (cap : Nat) (w : World) (hs : s.size ≤ maxLen) (hw : ws.length ≤ maxLen) (hv : Words w a0 ws) :
  Calls Tryz.prog 92 #[.string s, .int .i64 (m : Int), .slice a0 ws.length cap] w fun e w' => e = .returned (.tuple #[.string (qqp (s.data.toList.drop m) ws).1, .bool (qqp (s.data.toList.drop m) ws).2]) ∧ w' = w := by
 unfold maxLen at hs hw;have hb : (decide (0 ≤ (m : Int)) && decide ((m : Int) ≤ (s.size : Int))) = true := by simp; omega
 have hD : (s.extract m s.size).data.toList = s.data.toList.drop m := by rw [qnc, qj]
 have HP : Hid (∀ x w, Calls Tryz.prog 124 #[.string (s.extract m s.size), .string x] w fun e w' => e = .returned (.bool (hasP (s.data.toList.drop m) x.data.toList)) ∧ w' = w) := fun x w => by
  have h := qsl (s.extract m s.size) x w;rw [hD] at h;exact h
 clear hD;generalize s.data.toList.drop m = t at *;rcases hv with rfl | ⟨b, off, rfl, hc⟩
 ·go_enter Tryz.func92, Tryz.ntmps92
  go_wp2_with (go_at_call 54; refine (qmg _ _ _).mono ?_; rintro e w' ⟨rfl, rfl⟩)
  refine wp_loop_rounds 1 ?_;rw [rounds_succ];go_wp2
  go_ret2
  exact ⟨rfl, rfl⟩
 ·have HC := qb hc;clear hc;go_enter Tryz.func92, Tryz.ntmps92
  go_wp2_with (go_at_call 54; refine (qmg _ _ _).mono ?_; rintro e w' ⟨rfl, rfl⟩)
  go_loop [8, 9, 18] (fun x y i => ∃ k : Nat, k ≤ ws.length ∧ i = .int .i64 k ∧ ∃ p q, x = .string p ∧ y = .bool q ∧ Hid (qqp t (ws.take k) = (p, q))) (fun _ _ i => ws.length - (intOf i).toNat)
  case atStart => exact ⟨0, by omega, rfl, _, _, rfl, rfl, rfl⟩
  case round =>
   obtain ⟨k, hk, rfl, p, q, rfl, rfl, HR⟩ := hrel
   by_cases hlt : k < ws.length
   ·have hcell := HC.out k hlt;have HX : Hid _ := qbwd t ws k hlt;generalize ws.getD k ByteArray.empty = x at *
    by_cases hp : hasP t x.data.toList = true
    ·cases q with
     | false =>
      go_wp2_with (go_at_call 124; refine (HP.out _ _).mono ?_; rintro e w' ⟨rfl, rfl⟩)
      go_round
      case rel => exact ⟨k + 1, by omega, by go_num, x, true, rfl, rfl, by rw [HX.out, HR.out]; simp [Hid, qxq, hp]⟩
      case measure => simp [intOf]; omega
     | true =>
      by_cases hsz : p.size < x.size
      ·go_wp2_with (go_at_call 124; refine (HP.out _ _).mono ?_; rintro e w' ⟨rfl, rfl⟩)
       go_round
       case rel => exact ⟨k + 1, by omega, by go_num, x, true, rfl, rfl, by rw [HX.out, HR.out]; simp [Hid, qxq, hp, hsz]⟩
       case measure => simp [intOf]; omega
      ·go_wp2_with (go_at_call 124; refine (HP.out _ _).mono ?_; rintro e w' ⟨rfl, rfl⟩)
       go_round
       case rel => exact ⟨k + 1, by omega, by go_num, p, true, rfl, rfl, by rw [HX.out, HR.out]; simp [Hid, qxq, hp]; omega⟩
       case measure => simp [intOf]; omega
    ·have hp' : hasP t x.data.toList = false := by simpa using hp
     go_wp2_with (go_at_call 124; refine (HP.out _ _).mono ?_; rintro e w' ⟨rfl, rfl⟩)
     go_round
     case rel => exact ⟨k + 1, by omega, by go_num, p, q, rfl, rfl, by rw [HX.out, HR.out]; simp [Hid, qxq, hp']⟩
     case measure => simp [intOf]; omega
   ·have HA : Hid (ws.take k = ws) := List.take_of_length_le (by omega)
    (go_wp2_with fail);go_ret2
    exact ⟨ret_w (by rw [← HA.out, HR.out]) (by rw [← HA.out, HR.out]), rfl⟩
end Go.Proofs.YtpdlgiioahjhiaaGreat

namespace Go.Proofs.YtpdlgiioahjhiaaGreat
open Go.RowKit
set_option linter.unusedVariables false
set_option maxHeartbeats 400000
def qtl (l : QB) (n : Int) (ws : List QY) : QY × Bool :=
 if 0 ≤ n ∧ n ≤ (l.length : Int) then qqp (l.drop n.toNat) ws else (ByteArray.empty, false)
theorem Word_any (s : QY) (n : Int) (a0 : Option Addr) (ws : List QY) (cap : Nat) (w : World) (hs : s.size ≤ maxLen) (hw : ws.length ≤ maxLen) (hv : Words w a0 ws) :
  Calls Tryz.prog 92 #[.string s, .int .i64 n, .slice a0 ws.length cap] w fun e w' => e = .returned (.tuple #[.string (qtl s.data.toList n ws).1, .bool (qtl s.data.toList n ws).2]) ∧ w' = w := by
 by_cases hin : 0 ≤ n ∧ n ≤ (s.size : Int)
 ·obtain ⟨m, rfl⟩ := Int.eq_ofNat_of_zero_le hin.1;have e : qtl s.data.toList m ws = qqp (s.data.toList.drop m) ws := by
   unfold qtl; rw [if_pos (by rw [qh]; exact hin)]; simp
  rw [e];exact Word_in s m (by omega) a0 ws cap w hs hw hv
 ·have e : qtl s.data.toList n ws = (ByteArray.empty, false) := by
   unfold qtl; rw [if_neg (by rw [qh]; exact hin)]
  rw [e];clear e hv;have hb : (decide (0 ≤ n) && decide (n ≤ (s.size : Int))) = false := by simp; omega
  clear hin;go_enter Tryz.func92, Tryz.ntmps92
  go_wp2_with (go_at_call 54; refine (qmg _ _ _).mono ?_; rintro e w' ⟨rfl, rfl⟩)
  go_ret2
  exact ⟨rfl, rfl⟩
end Go.Proofs.YtpdlgiioahjhiaaGreat

namespace Go.Proofs.YtpdlgiioahjhiaaGreat
open Go.RowKit
set_option linter.unusedVariables false
def qcc (l : QB) (a : Nat) : Bool := decide (a = l.length) || decide (l[a]? = some 124)
def oneB (c : UInt8) : QY := ⟨#[c]⟩
def staB (l : QB) (a : Nat) (c : UInt8) : QY := if l[a]? = some c then oneB c else ⟨#[]⟩
theorem qgj (s : QY) (a : Nat) (w : World) (ha : a ≤ s.size) :
  Calls Tryz.prog 88 #[.string s, .int .i64 (a : Int)] w fun e w' => e = .returned (.bool (qcc s.data.toList a)) ∧ w' = w := by
 have hE : qcc s.data.toList a = (decide (a = s.size) || decide (s.data.toList[a]? = some 124)) := by unfold qcc; rw [qh]
 generalize qcc s.data.toList a = R at *
 by_cases h : a = s.size
 ·have hb : ((a : Int) == (s.size : Int)) = true := by simp; omega
  have HR : Hid (R = true) := by rw [hE, decide_eq_true h]; rfl
  clear h hE ha;go_enter Tryz.func88, Tryz.ntmps88
  (go_wp2_with fail);go_ret
  exact ⟨by rw [HR.out]; rfl, rfl⟩
 ·have hlt : a < s.size := by omega
  have hb : ((a : Int) == (s.size : Int)) = false := by simp; omega
  rw [decide_eq_false h, qdz s a hlt] at hE;clear h ha
  by_cases hc : s[a] = 124
  ·have c1 : ((s[a].toNat : Int) == 124) = true := by rw [hc]; rfl
   have HR : Hid (R = true) := by rw [hE, hc]; rfl
   clear hE hc;go_enter Tryz.func88, Tryz.ntmps88
   (go_wp2_with fail);go_ret
   exact ⟨by rw [HR.out]; rfl, rfl⟩
  ·have c1 : ((s[a].toNat : Int) == 124) = false := qfl (k := 124) (by omega) hc
   have HR : Hid (R = false) := qb (by rw [hE]; simp [hc])
   clear hE hc;go_enter Tryz.func88, Tryz.ntmps88
   (go_wp2_with fail);go_ret
   exact ⟨by rw [HR.out]; rfl, rfl⟩
theorem has_one (l : QB) (a : Nat) (c : UInt8) : (qqp (l.drop a) [oneB c]).1 = staB l a c := by
 unfold qqp staB;show (qxq (l.drop a) (ByteArray.empty, false) (oneB c)).1 = _;unfold qxq;have : hasP (l.drop a) (oneB c).data.toList = decide (l[a]? = some c) := by
  show hasP (l.drop a) [c] = _;cases h : l.drop a with
  | nil =>
   have h2 : l[a]? = none := by rw [List.getElem?_eq_none_iff]; simpa using h
   rw [h2]; simp [hasP]
  | cons d r =>
   have h2 : l[a]? = some d := by
    have := congrArg (fun z => z[0]?) h;simpa using this
   rw [h2]; simp only [hasP, Option.some.injEq]; by_cases hdc : d = c <;> simp [hdc]
 rw [this]
 by_cases h : l[a]? = some c
 ·rw [if_pos h, if_pos ⟨by simpa using h, .inl rfl⟩]
 ·rw [if_neg h, if_neg (fun x => h (by simpa using x.1))]
  rfl
theorem has_oneI (s : QY) (a : Nat) (c : UInt8) : (qtl s.data.toList (a : Int) [oneB c]).1 = staB s.data.toList a c := by
 unfold qtl
 by_cases h : a ≤ s.data.toList.length
 ·rw [if_pos ⟨by omega, by omega⟩]
  show (qqp (s.data.toList.drop a) _).1 = _;exact has_one _ a c
 ·rw [if_neg (by omega)]
  unfold staB;rw [List.getElem?_eq_none (by omega), if_neg (by simp)]
  rfl
theorem qlr (s : QY) (a : Nat) (c : UInt8) (w : World) (hs : s.size ≤ 256) :
  Calls Tryz.prog 56 #[.string s, .int .i64 (a : Int), .string (oneB c)] w fun e w' => e = .returned (.string (staB s.data.toList a c)) ∧ Below w.heap.size w w' := by
 rw [← has_oneI];have C := qb (fun W (hv : Words W (some ⟨w.heap.size, 0, none⟩) [oneB c]) => Word_any s (a : Int) (some ⟨w.heap.size, 0, none⟩) [oneB c] 1 W (by unfold maxLen; omega) (by unfold maxLen; simp) hv)
 generalize qtl s.data.toList (a : Int) [oneB c] = R at *;clear hs;generalize oneB c = x at *;go_enter Tryz.func56, Tryz.ntmps56
 (go_wp2_with fail);refine (C.out _ (.inr ⟨_, 0, rfl, fun i hi => ?_⟩)).mono ?_
 ·have : i = 0 := by simpa using hi
  subst this;exact qd 0 (World.alloc_heap_new w _) rfl
 rintro e w' ⟨rfl, rfl⟩;(go_wp2_with fail);go_ret
 exact ⟨rfl, (Below.refl _ w).alloc (Nat.le_refl _) _⟩
def qgg (l : QB) (a n : Nat) : Nat × Int := if l[a + 1]? = some 124 then (if n = 32 then (a + 1, 12) else (a + 2, 0)) else (a + 1, misL l.length (a + 1))
theorem qmk {l : QB} {a : Nat} {c : UInt8} (h : l[a]? = some c) : staB l a c = oneB c := if_pos h
theorem qkt {l : QB} {a : Nat} {c : UInt8} (h : ¬ l[a]? = some c) : staB l a c = ⟨#[]⟩ := if_neg h
theorem qbmx (s : QY) (a n : Nat) (w : World) (hs : s.size ≤ 256) (ha : a < s.size) (hn : n ≤ 256) :
  Calls Tryz.prog 29 #[.string s, .int .i64 (a : Int), .int .i64 (n : Int)] w fun e w' => e = .returned (.tuple #[.int .i64 ((qgg s.data.toList a n).1 : Int), .int .i64 (qgg s.data.toList a n).2]) ∧ Below w.heap.size w w' := by
 have C := qb (fun W => qlr s (a + 1) 124 W hs);have M := qb (fun W => qcl s (a + 1) W);have hB : qgg s.data.toList a n = if s.data.toList[a + 1]? = some 124 then (if n = 32 then (a + 1, 12) else (a + 2, 0)) else (a + 1, misL s.size (a + 1)) := by unfold qgg; rw [qh]
 generalize qgg s.data.toList a n = R at *
 by_cases h : s.data.toList[a + 1]? = some 124
 ·rw [if_pos h] at hB;rw [qmk h] at C;have hb := eqE (oneB 124) (by decide)
  clear h
  by_cases h32 : n = 32
  ·rw [if_pos h32] at hB;subst h32 hB;go_enter Tryz.func29, Tryz.ntmps29
   (go_wp2_with fail);refine (C.out _).mono ?_;rintro e w' ⟨rfl, hq⟩;(go_wp2_with fail);go_ret2
   exact ⟨rfl, hq⟩
  ·rw [if_neg h32] at hB;have hz : ((n : Int) == 32) = false := by simp; omega
   subst hB;clear h32;go_enter Tryz.func29, Tryz.ntmps29
   (go_wp2_with fail);refine (C.out _).mono ?_;rintro e w' ⟨rfl, hq⟩;(go_wp2_with fail);go_ret2
   exact ⟨rfl, hq⟩
 ·rw [if_neg h] at hB;rw [qkt h] at C;clear h;subst hB;go_enter Tryz.func29, Tryz.ntmps29
  (go_wp2_with fail);refine (C.out _).mono ?_;rintro e w' ⟨rfl, hq⟩;(go_wp2_with fail);refine (M.out _).mono ?_;rintro e w2 ⟨rfl, rfl⟩;(go_wp2_with fail);go_ret2
  exact ⟨rfl, hq⟩
end Go.Proofs.YtpdlgiioahjhiaaGreat

namespace Go.Proofs.YtpdlgiioahjhiaaGreat
open Go.RowKit
set_option linter.unusedVariables false
set_option maxHeartbeats 1000000
def qkh (c : UInt8) : Bool := c == 120 || c == 88 || c == 42
def npL (l : QB) (a : Nat) : Nat × Bool × Int :=
 if (l[a]?.map qkh).getD false then (a + 1, true, 0)
 else if qz 1 (l.drop a) = 0 then (a, false, misL l.length a)
 else if l[a]? = some 48 ∧ 1 < qz 1 (l.drop a) then (a + 1, false, 14)
 else (a + qz 1 (l.drop a), false, 0)
def npV (x : Nat × Bool × Int) : Value := .tuple #[.int .i64 (x.1 : Int), .bool x.2.1, .int .i64 x.2.2]
theorem qbfp (s : QY) (a : Nat) (w : World) (hs : s.size ≤ 256) (ha : a ≤ s.size) :
  Calls Tryz.prog 146 #[.string s, .int .i64 (a : Int)] w fun e w' => e = .returned (npV (npL s.data.toList a)) ∧ w' = w := by
 have hN : npL s.data.toList a = if (s.data.toList[a]?.map qkh).getD false then (a + 1, true, 0)
   else if qz 1 (s.data.toList.drop a) = 0 then (a, false, misL s.size a)
   else if s.data.toList[a]? = some 48 ∧ 1 < qz 1 (s.data.toList.drop a) then (a + 1, false, 14)
   else (a + qz 1 (s.data.toList.drop a), false, 0) := by unfold npL; rw [qh]
 have hR : RunC s a (a + qz 1 (s.data.toList.drop a)) := by
  rintro z w rfl;have := qpn s (a : Int) 1 w (by unfold maxLen; omega)
  rw [qlf s a 1 ha] at this;simpa using this
 have hle := qjn 1 s a ha;have M := qb (fun W => qcl s a W);generalize npL s.data.toList a = R at *;generalize hk : qz 1 (s.data.toList.drop a) = k at *
 by_cases hlt : a < s.size
 ·rw [qdz s a hlt] at hN
  by_cases h1 : s[a] = 120
  ·have c1 : ((s[a].toNat : Int) == 120) = true := by rw [h1]; rfl
   rw [h1, if_pos (by rfl)] at hN
   subst hN;clear h1 hR hk;go_enter Tryz.func146, Tryz.ntmps146
   (go_wp2_with fail);go_ret3
   exact ⟨rfl, rfl⟩
  have c1 : ((s[a].toNat : Int) == 120) = false := qfl (k := 120) (by omega) h1
  by_cases h2 : s[a] = 88
  ·have c2 : ((s[a].toNat : Int) == 88) = true := by rw [h2]; rfl
   rw [h2, if_pos (by rfl)] at hN
   subst hN;clear h1 h2 hR hk;go_enter Tryz.func146, Tryz.ntmps146
   (go_wp2_with fail);go_ret3
   exact ⟨rfl, rfl⟩
  have c2 : ((s[a].toNat : Int) == 88) = false := qfl (k := 88) (by omega) h2
  by_cases h3 : s[a] = 42
  ·have c3 : ((s[a].toNat : Int) == 42) = true := by rw [h3]; rfl
   rw [h3, if_pos (by rfl)] at hN
   subst hN;clear h1 h2 h3 hR hk;go_enter Tryz.func146, Tryz.ntmps146
   (go_wp2_with fail);go_ret3
   exact ⟨rfl, rfl⟩
  have c3 : ((s[a].toNat : Int) == 42) = false := qfl (k := 42) (by omega) h3
  rw [if_neg (by simp [qkh, h1, h2, h3])] at hN
  clear h1 h2 h3
  by_cases h0 : k = 0
  ·rw [if_pos h0] at hN;rw [h0] at hR;subst hN;have R0 := qb hR;clear hR hk h0 hle;go_enter Tryz.func146, Tryz.ntmps146
   (go_wp2_with fail);refine (R0.out _ _ rfl).mono ?_;rintro e' w' ⟨rfl, hw'⟩;rw [hw'];clear hw' w';(go_wp2_with fail);refine (M.out _).mono ?_;rintro e' w' ⟨rfl, rfl⟩;(go_wp2_with fail);go_ret3
   exact ⟨rfl, rfl⟩
  rw [if_neg h0] at hN;obtain ⟨e, he⟩ : ∃ e, e = a + k := ⟨_, rfl⟩;rw [← he] at hR hN;have b1 : ((e : Int) == (a : Int)) = false := by simp; omega
  have R0 := qb hR
  by_cases h4 : s[a] = 48
  ·have c4 : ((s[a].toNat : Int) == 48) = true := by rw [h4]; rfl
   by_cases h5 : 1 < k
   ·rw [if_pos ⟨by rw [h4], h5⟩] at hN
    have b2 : decide ((a : Int) + 1 < (e : Int)) = true := by simp; omega
    subst hN;clear hR hk h0 h4 h5 he hle;go_enter Tryz.func146, Tryz.ntmps146
    (go_wp2_with fail);refine (R0.out _ _ rfl).mono ?_;rintro e' w' ⟨rfl, hw'⟩;rw [hw'];clear hw' w';(go_wp2_with fail);go_ret3
    exact ⟨rfl, rfl⟩
   ·rw [if_neg (fun h => h5 h.2)] at hN;have b2 : decide ((a : Int) + 1 < (e : Int)) = false := by simp; omega
    subst hN;clear hR hk h0 h4 h5 he hle;go_enter Tryz.func146, Tryz.ntmps146
    (go_wp2_with fail);refine (R0.out _ _ rfl).mono ?_;rintro e' w' ⟨rfl, hw'⟩;rw [hw'];clear hw' w';(go_wp2_with fail);go_ret3
    exact ⟨rfl, rfl⟩
  ·have c4 : ((s[a].toNat : Int) == 48) = false := qfl (k := 48) (by omega) h4
   rw [if_neg (fun h => h4 (by simpa using h.1))] at hN
   subst hN;clear hR hk h0 h4 he hle;go_enter Tryz.func146, Tryz.ntmps146
   (go_wp2_with fail);refine (R0.out _ _ rfl).mono ?_;rintro e' w' ⟨rfl, hw'⟩;rw [hw'];clear hw' w';(go_wp2_with fail);go_ret3
   exact ⟨rfl, rfl⟩
 ·have hka : k = 0 := by omega
  rw [qft s a hlt, if_neg (by simp), if_pos hka] at hN
  rw [hka] at hR;have bL : decide ((a : Int) < (s.size : Int)) = false := by simp; omega
  subst hN;have R0 := qb hR;clear hR hk hka hle;go_enter Tryz.func146, Tryz.ntmps146
  (go_wp2_with fail);refine (R0.out _ _ rfl).mono ?_;rintro e' w' ⟨rfl, hw'⟩;rw [hw'];clear hw' w';(go_wp2_with fail);refine (M.out _).mono ?_;rintro e' w' ⟨rfl, rfl⟩;(go_wp2_with fail);go_ret3
  exact ⟨rfl, rfl⟩
end Go.Proofs.YtpdlgiioahjhiaaGreat

namespace Go.Proofs.YtpdlgiioahjhiaaGreat
open Go.RowKit
open World renaming alloc_heap_new → qcgj
set_option linter.unusedVariables false
structure NB (w W : World) (x y z : QY) (t : Nat) : Prop where
 res : W.heap[w.heap.size]? = some (.cells #[.string ⟨#[]⟩, .string ⟨#[]⟩, .string ⟨#[]⟩, .slice none 0 0, .slice none 0 0, .int .i64 0] 54 (0, 0))
 par : W.heap[w.heap.size + 1]? = some (.cells #[.string x, .string y, .string z, .slice none 0 0, .slice none 0 0, .int .i64 (t : Int)] 54 (0, 0))
 ptr : W.heap[w.heap.size + 2]? = some (.cells #[.pointer (some ⟨w.heap.size + 1, 0, none⟩), .pointer (some ⟨w.heap.size + 1, 1, none⟩), .pointer (some ⟨w.heap.size + 1, 2, none⟩)] 132 (0, 0))
 bel : Below w.heap.size w W
theorem NB.lt {w W : World} {x y z : QY} {t : Nat} (h : NB w W x y z t) : w.heap.size + 2 < W.heap.size := (Array.getElem?_eq_some_iff.1 h.ptr).1
theorem NB.below {w W W' : World} {x y z : QY} {t : Nat} (h : NB w W x y z t) (hb : Below W.heap.size W W') : NB w W' x y z t :=
 ⟨(hb.block _ (by have := h.lt; omega)).trans h.res, (hb.block _ (by have := h.lt; omega)).trans h.par, (hb.block _ h.lt).trans h.ptr, h.bel.trans (hb.mono (by have := h.lt; omega))⟩
theorem NB.start (w : World) : NB w (((w.alloc (.cells #[.string ⟨#[]⟩, .string ⟨#[]⟩, .string ⟨#[]⟩, .slice none 0 0, .slice none 0 0, .int .i64 0] 54)).alloc (.cells #[.string ⟨#[48]⟩, .string ⟨#[48]⟩, .string ⟨#[48]⟩, .slice none 0 0, .slice none 0 0, .int .i64 0] 54)).alloc
   (.cells #[.pointer (some ⟨w.heap.size + 1, 0, none⟩), .pointer (some ⟨w.heap.size + 1, 1, none⟩), .pointer (some ⟨w.heap.size + 1, 2, none⟩)] 132)) ⟨#[48]⟩ ⟨#[48]⟩ ⟨#[48]⟩ 0 := by
 have h1 := qcgj w (.cells #[.string ⟨#[]⟩, .string ⟨#[]⟩, .string ⟨#[]⟩, .slice none 0 0, .slice none 0 0, .int .i64 0] 54);generalize hA : w.alloc (.cells #[.string ⟨#[]⟩, .string ⟨#[]⟩, .string ⟨#[]⟩, .slice none 0 0, .slice none 0 0, .int .i64 0] 54) = A at *;have sA : A.heap.size = w.heap.size + 1 := by rw [← hA]; simp
 have bA : Below w.heap.size w A := by rw [← hA]; exact (Below.refl _ w).alloc (Nat.le_refl _) _
 have h2 := qcgj A (.cells #[.string ⟨#[48]⟩, .string ⟨#[48]⟩, .string ⟨#[48]⟩, .slice none 0 0, .slice none 0 0, .int .i64 0] 54);rw [sA] at h2;have l1 : qbb A [(w.heap.size, _)] := qbb.cons h1 (qbb.nil A);have l2 := l1.alloc (.cells #[.string ⟨#[48]⟩, .string ⟨#[48]⟩, .string ⟨#[48]⟩, .slice none 0 0, .slice none 0 0, .int .i64 0] 54);have bB : Below w.heap.size w (A.alloc (.cells #[.string ⟨#[48]⟩, .string ⟨#[48]⟩, .string ⟨#[48]⟩, .slice none 0 0, .slice none 0 0, .int .i64 0] 54)) := bA.alloc (by omega) _
 have sB : (A.alloc (.cells #[.string ⟨#[48]⟩, .string ⟨#[48]⟩, .string ⟨#[48]⟩, .slice none 0 0, .slice none 0 0, .int .i64 0] 54)).heap.size = w.heap.size + 2 := by simp [sA]
 generalize A.alloc (.cells #[.string ⟨#[48]⟩, .string ⟨#[48]⟩, .string ⟨#[48]⟩, .slice none 0 0, .slice none 0 0, .int .i64 0] 54) = C at *;have h3 := qcgj C (.cells #[.pointer (some ⟨w.heap.size + 1, 0, none⟩), .pointer (some ⟨w.heap.size + 1, 1, none⟩), .pointer (some ⟨w.heap.size + 1, 2, none⟩)] 132);rw [sB] at h3;have l3 := (qbb.cons h2 l2).alloc (.cells #[.pointer (some ⟨w.heap.size + 1, 0, none⟩), .pointer (some ⟨w.heap.size + 1, 1, none⟩), .pointer (some ⟨w.heap.size + 1, 2, none⟩)] 132);exact ⟨l3.tail.head, l3.head, h3, bB.alloc (by omega) _⟩
theorem NB.seen {w W : World} {x y z : QY} {t : Nat} (h : NB w W x y z t) :
  W.cell? ⟨w.heap.size + 2, 0, none⟩ = some (.pointer (some ⟨w.heap.size + 1, 0, none⟩)) ∧ W.cell? ⟨w.heap.size + 2, 1, none⟩ = some (.pointer (some ⟨w.heap.size + 1, 1, none⟩)) ∧ W.cell? ⟨w.heap.size + 2, 2, none⟩ = some (.pointer (some ⟨w.heap.size + 1, 2, none⟩)) ∧
  W.cell? ⟨w.heap.size + 1, 5, none⟩ = some (.int .i64 (t : Int)) ∧ W.frozen? ⟨w.heap.size + 1, 0, none⟩ = false ∧ W.frozen? ⟨w.heap.size + 1, 1, none⟩ = false ∧ W.frozen? ⟨w.heap.size + 1, 2, none⟩ = false ∧ W.frozen? ⟨w.heap.size + 1, 5, none⟩ = false :=
 ⟨qd 0 h.ptr rfl, qd 1 h.ptr rfl, qd 2 h.ptr rfl, qd 5 h.par rfl, qf 0 h.par, qf 1 h.par, qf 2 h.par, qf 5 h.par⟩
theorem NB.put0 {w W : World} {x y z u : QY} {t : Nat} (n : Nat) (h : NB w W x y z t) : NB w ((W.setCell ⟨w.heap.size + 1, 0, none⟩ (.string u)).setCell ⟨w.heap.size + 1, 5, none⟩ (.int .i64 (n : Int))) u y z n := by
 have h1 := qv 0 (.string u) h.par;have h2 := qv 5 (.int .i64 (n : Int)) h1;have l : qbb W [(w.heap.size, _), (w.heap.size + 2, _)] := qbb.cons h.res (qbb.cons h.ptr (qbb.nil W));have l1 := (l.other (w.heap.size + 1) 0 (.string u) (by intro p hp; simp at hp; rcases hp with rfl | rfl <;> simp)).other (w.heap.size + 1) 5 (.int .i64 (n : Int)) (by intro p hp; simp at hp; rcases hp with rfl | rfl <;> simp)
 exact ⟨l1.head, h2, l1.tail.head, (h.bel.setCell (by simp) _).setCell (by simp) _⟩
theorem NB.put1 {w W : World} {x y z u : QY} {t : Nat} (n : Nat) (h : NB w W x y z t) : NB w ((W.setCell ⟨w.heap.size + 1, 1, none⟩ (.string u)).setCell ⟨w.heap.size + 1, 5, none⟩ (.int .i64 (n : Int))) x u z n := by
 have h1 := qv 1 (.string u) h.par;have h2 := qv 5 (.int .i64 (n : Int)) h1;have l : qbb W [(w.heap.size, _), (w.heap.size + 2, _)] := qbb.cons h.res (qbb.cons h.ptr (qbb.nil W));have l1 := (l.other (w.heap.size + 1) 1 (.string u) (by intro p hp; simp at hp; rcases hp with rfl | rfl <;> simp)).other (w.heap.size + 1) 5 (.int .i64 (n : Int)) (by intro p hp; simp at hp; rcases hp with rfl | rfl <;> simp)
 exact ⟨l1.head, h2, l1.tail.head, (h.bel.setCell (by simp) _).setCell (by simp) _⟩
theorem NB.put2 {w W : World} {x y z u : QY} {t : Nat} (n : Nat) (h : NB w W x y z t) : NB w ((W.setCell ⟨w.heap.size + 1, 2, none⟩ (.string u)).setCell ⟨w.heap.size + 1, 5, none⟩ (.int .i64 (n : Int))) x y u n := by
 have h1 := qv 2 (.string u) h.par;have h2 := qv 5 (.int .i64 (n : Int)) h1;have l : qbb W [(w.heap.size, _), (w.heap.size + 2, _)] := qbb.cons h.res (qbb.cons h.ptr (qbb.nil W));have l1 := (l.other (w.heap.size + 1) 2 (.string u) (by intro p hp; simp at hp; rcases hp with rfl | rfl <;> simp)).other (w.heap.size + 1) 5 (.int .i64 (n : Int)) (by intro p hp; simp at hp; rcases hp with rfl | rfl <;> simp)
 exact ⟨l1.head, h2, l1.tail.head, (h.bel.setCell (by simp) _).setCell (by simp) _⟩
theorem NB.seenR {w W : World} {x y z : QY} {t : Nat} (h : NB w W x y z t) :
  W.cell? ⟨w.heap.size, 0, none⟩ = some (.string ⟨#[]⟩) ∧ W.frozen? ⟨w.heap.size, 0, none⟩ = false ∧ W.frozen? ⟨w.heap.size, 1, none⟩ = false ∧ W.frozen? ⟨w.heap.size, 2, none⟩ = false ∧ W.frozen? ⟨w.heap.size, 3, none⟩ = false ∧ W.frozen? ⟨w.heap.size, 4, none⟩ = false ∧ W.frozen? ⟨w.heap.size, 5, none⟩ = false ∧
  W.cell? ⟨w.heap.size, 1, none⟩ = some (.string ⟨#[]⟩) ∧ W.cell? ⟨w.heap.size, 2, none⟩ = some (.string ⟨#[]⟩) ∧ W.cell? ⟨w.heap.size, 3, none⟩ = some (.slice none 0 0) ∧ W.cell? ⟨w.heap.size, 4, none⟩ = some (.slice none 0 0) ∧ W.cell? ⟨w.heap.size, 5, none⟩ = some (.int .i64 0) :=
 ⟨qd 0 h.res rfl, qf 0 h.res, qf 1 h.res, qf 2 h.res, qf 3 h.res, qf 4 h.res, qf 5 h.res, qd 1 h.res rfl, qd 2 h.res rfl, qd 3 h.res rfl, qd 4 h.res rfl, qd 5 h.res rfl⟩
theorem NB.seenP {w W : World} {x y z : QY} {t : Nat} (h : NB w W x y z t) :
  W.cell? ⟨w.heap.size + 1, 0, none⟩ = some (.string x) ∧ W.cell? ⟨w.heap.size + 1, 1, none⟩ = some (.string y) ∧ W.cell? ⟨w.heap.size + 1, 2, none⟩ = some (.string z) ∧ W.cell? ⟨w.heap.size + 1, 3, none⟩ = some (.slice none 0 0) ∧ W.cell? ⟨w.heap.size + 1, 4, none⟩ = some (.slice none 0 0) :=
 ⟨qd 0 h.par rfl, qd 1 h.par rfl, qd 2 h.par rfl, qd 3 h.par rfl, qd 4 h.par rfl⟩
end Go.Proofs.YtpdlgiioahjhiaaGreat
