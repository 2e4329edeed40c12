/-
  The document's reader: what lies in memory while it reads; its small walks. · The document's reader: digits, numbers, one byte. · The document's reader: a byte that must stand, a number. · The document's reader: identifiers with dots between.
-/
import Derived.Test.YtaflflelcdcanaaGreatZFd
import Derived.Deep.QuietTactic
import Derived.BigQuiet
import Derived.StillTailTactics
namespace Go.Proofs.YtaflflelcdcanaaGreat
open Go.RowKit Go.Shelf
set_option linter.unusedVariables false

/-- One block may have turned, and new ones may lie; all else is as it was. -/
structure Turn (B : Nat) (w w' : World) : Prop where
  os : w'.os = w.os
  tape : w'.tape = w.tape
  output : w'.output = w.output
  size : w.heap.size ≤ w'.heap.size
  block : ∀ k, k < w.heap.size → k ≠ B → w'.heap[k]? = w.heap[k]?
theorem Turn.refl (B : Nat) (w : World) : Turn B w w := ⟨rfl, rfl, rfl, Nat.le_refl _, fun _ _ _ => rfl⟩
theorem Turn.trans {B : Nat} {a b c : World} (h : Turn B a b) (k : Turn B b c) : Turn B a c :=
  ⟨k.os.trans h.os, k.tape.trans h.tape, k.output.trans h.output, Nat.le_trans h.size k.size, fun i hi hn => (k.block i (Nat.lt_of_lt_of_le hi h.size) hn).trans (h.block i hi hn)⟩
theorem Turn.ofBelow {B : Nat} {w w' : World} (h : Below w.heap.size w w') : Turn B w w' := ⟨h.os, h.tape, h.output, h.size, fun k hk _ => h.block k hk⟩
theorem Turn.below {B n : Nat} {w w' : World} (h : Turn B w w') (hn : n ≤ B) (hs : n ≤ w.heap.size) : Below n w w' := ⟨h.os, h.tape, h.output, h.size, fun k hk => h.block k (Nat.lt_of_lt_of_le hk hs) (by omega)⟩
theorem Turn.set (B o : Nat) (w : World) (v : Value) : Turn B w (w.setCell ⟨B, o, none⟩ v) :=
  ⟨rfl, rfl, rfl, by rw [show (w.setCell ⟨B, o, none⟩ v).heap.size = w.heap.size from Array.size_modify]; exact Nat.le_refl _, fun k _ hn => Below.heap_setCell _ _ _ k hn⟩
theorem Turn.drewN (B : Nat) (w : World) : ∀ n, Turn B w (w.drewN n)
  | 0 => Turn.refl B w
  | n + 1 => by
    have h := Turn.drewN B w.drew n
    exact ⟨h.os, h.tape, h.output, h.size, h.block⟩
theorem heap_drewN (w : World) : ∀ n, (w.drewN n).heap = w.heap
  | 0 => rfl
  | n + 1 => heap_drewN w.drew n
theorem below_drewN (k : Nat) (w : World) (n : Nat) : Below k w (w.drewN n) := by
  have h := Turn.drewN 0 w n
  exact ⟨h.os, h.tape, h.output, h.size, fun j _ => by rw [heap_drewN]⟩

/-- The reader lies so: its text, its place, its error. -/
def RdAt (W : World) (B : Nat) (s : ByteArray) (a : Nat) (e : Int) : Prop := W.heap[B]? = some (.cells #[.string s, .int .i64 (a : Int), .int .i64 e] 140 (0, 0))
theorem RdAt.seen {W : World} {B : Nat} {s : ByteArray} {a : Nat} {e : Int} (h : RdAt W B s a e) :
    W.cell? ⟨B, 0, none⟩ = some (.string s) ∧ W.cell? ⟨B, 1, none⟩ = some (.int .i64 (a : Int)) ∧ W.cell? ⟨B, 2, none⟩ = some (.int .i64 e) ∧ W.frozen? ⟨B, 1, none⟩ = false ∧ W.frozen? ⟨B, 2, none⟩ = false :=
  ⟨cell_at 0 h rfl, cell_at 1 h rfl, cell_at 2 h rfl, one_free 1 h, one_free 2 h⟩
theorem RdAt.lt {W : World} {B : Nat} {s : ByteArray} {a : Nat} {e : Int} (h : RdAt W B s a e) : B < W.heap.size := (Array.getElem?_eq_some_iff.1 h).1
theorem RdAt.drewN {W : World} {B : Nat} {s : ByteArray} {a : Nat} {e : Int} (h : RdAt W B s a e) (n : Nat) : RdAt (W.drewN n) B s a e := by unfold RdAt; rw [heap_drewN]; exact h
theorem RdAt.err {W : World} {B : Nat} {s : ByteArray} {a : Nat} {e : Int} (h : RdAt W B s a e) (x : Int) : RdAt (W.setCell ⟨B, 2, none⟩ (.int .i64 x)) B s a x := set_lies 2 (.int .i64 x) h
theorem RdAt.place {W : World} {B : Nat} {s : ByteArray} {a : Nat} {e : Int} (h : RdAt W B s a e) (x : Nat) : RdAt (W.setCell ⟨B, 1, none⟩ (.int .i64 (x : Int))) B s x e := set_lies 1 (.int .i64 (x : Int)) h

/-- The first error stays. -/
def rerr (e x : Int) : Int := if e = 0 then x else e
theorem rerr_0 (x : Int) : rerr 0 x = x := if_pos rfl
theorem rerr_n {e : Int} (x : Int) (h : e ≠ 0) : rerr e x = e := if_neg h

theorem rwrong_any (B : Nat) (s : ByteArray) (a : Nat) (e x : Int) (w : World) (h : RdAt w B s a e) :
    Calls Tryz.prog 117 #[.pointer (some ⟨B, 0, none⟩), .int .i64 x] w fun r w' => r = .returned (.tuple #[]) ∧ RdAt w' B s a (rerr e x) ∧ Turn B w w' := by
  obtain ⟨c0, c1, c2, f1, f2⟩ := h.seen
  have H := hide h
  clear h
  by_cases he : e = 0
  · subst he
    go_enter Tryz.func117, Tryz.ntmps117
    go_wp2_with fail
    go_end0
    exact ⟨rfl, by rw [rerr_0]; exact H.out.err x, Turn.set _ _ _ _⟩
  · have hb : (e == 0) = false := by simpa using he
    have HN := hide he
    clear he
    go_enter Tryz.func117, Tryz.ntmps117
    go_wp2_with fail
    go_end0
    exact ⟨rfl, by rw [rerr_n x HN.out]; exact H.out, Turn.refl _ _⟩

theorem rnone_any (B : Nat) (s : ByteArray) (a : Nat) (e : Int) (w : World) (h : RdAt w B s a e) (hs : a ≤ s.size) :
    Calls Tryz.prog 145 #[.pointer (some ⟨B, 0, none⟩)] w fun r w' => r = .returned (.tuple #[]) ∧ RdAt w' B s a (rerr e (misL s.size a)) ∧ Turn B w w' := by
  obtain ⟨c0, c1, c2, f1, f2⟩ := h.seen
  have H := hide h
  clear h
  by_cases ha : a < s.size
  · have hd : decide (a < s.size) = true := by simpa using ha
    have HA := hide ha
    clear ha
    go_enter Tryz.func145, Tryz.ntmps145
    go_wp2_with fail
    go_quiet (fail)
    go_wp2_with fail
    refine (rwrong_any B s a e 10 _ (H.out.drewN _)).mono ?_
    rintro r w1 ⟨rfl, h1, t1⟩
    go_wp2_with fail
    go_end0
    exact ⟨rfl, by unfold misL; rw [if_neg (by have := HA.out; omega)]; exact h1, (Turn.drewN _ _ _).trans t1⟩
  · have hd : decide (a < s.size) = false := by simpa using ha
    have HA := hide ha
    clear ha
    go_enter Tryz.func145, Tryz.ntmps145
    go_wp2_with fail
    go_quiet (fail)
    go_wp2_with fail
    refine (rwrong_any B s a e 11 _ (H.out.drewN _)).mono ?_
    rintro r w1 ⟨rfl, h1, t1⟩
    go_wp2_with fail
    go_end0
    exact ⟨rfl, by unfold misL; rw [if_pos (by have := HA.out; omega)]; exact h1, (Turn.drewN _ _ _).trans t1⟩

theorem rmore_any (B : Nat) (s : ByteArray) (a : Nat) (e : Int) (w : World) (h : RdAt w B s a e) :
    Calls Tryz.prog 116 #[.pointer (some ⟨B, 0, none⟩)] w fun r w' => r = .returned (.bool (decide (e = 0) && decide (a < s.size))) ∧ ∃ n, w' = w.drewN n := by
  obtain ⟨c0, c1, c2, f1, f2⟩ := h.seen
  clear h
  by_cases he : e = 0
  · subst he
    by_cases ha : a < s.size
    · have hd : decide (a < s.size) = true := by simpa using ha
      rw [show (decide ((0 : Int) = 0) && decide (a < s.size)) = true by simp [ha]]
      clear ha
      go_enter Tryz.func116, Tryz.ntmps116
      go_wp2_with fail
      go_quiet (fail)
      go_wp2_with fail
      go_ret
      exact ⟨rfl, _, rfl⟩
    · have hd : decide (a < s.size) = false := by simpa using ha
      rw [show (decide ((0 : Int) = 0) && decide (a < s.size)) = false by simp [ha]]
      clear ha
      go_enter Tryz.func116, Tryz.ntmps116
      go_wp2_with fail
      go_quiet (fail)
      go_wp2_with fail
      go_ret
      exact ⟨rfl, _, rfl⟩
  · have hb : (e == 0) = false := by simpa using he
    simp only [he, decide_false, Bool.false_and]
    clear he
    go_enter Tryz.func116, Tryz.ntmps116
    go_wp2_with fail
    go_quiet (fail)
    go_wp2_with fail
    go_ret
    exact ⟨rfl, _, rfl⟩

theorem rdigit_any (c : UInt8) (w : World) : Calls Tryz.prog 118 #[.int .u8 (c.toNat : Int)] w fun r w' => r = .returned (.bool (isC (c.toNat : Int) 1)) ∧ w' = w := by
  unfold isC
  simp only [if_true]
  by_cases h1 : 48 ≤ (c.toNat : Int) <;> by_cases h2 : (c.toNat : Int) ≤ 57
  all_goals
    go_enter Tryz.func118, Tryz.ntmps118
    go_wp2_with fail
    go_ret
    simp [h1, h2]

theorem rident_any (c : UInt8) (w : World) : Calls Tryz.prog 80 #[.int .u8 (c.toNat : Int)] w fun r w' => r = .returned (.bool (isId c)) ∧ w' = w := by
  have hd := rdigit_any c w
  have e0 : (c == 45) = decide ((c.toNat : Int) = 45) := by
    rw [Bool.eq_iff_iff]
    simp only [beq_iff_eq, decide_eq_true_eq]
    constructor
    · rintro rfl; rfl
    · intro h; exact UInt8.toNat_inj.1 (by have : c.toNat = 45 := by omega
                                           rw [this]; rfl)
  have hi : isId c = (decide ((c.toNat : Int) = 45) || ((decide (97 ≤ (c.toNat : Int)) && decide ((c.toNat : Int) ≤ 122)) || (decide (65 ≤ (c.toNat : Int)) && decide ((c.toNat : Int) ≤ 90)) || (decide (48 ≤ (c.toNat : Int)) && decide ((c.toNat : Int) ≤ 57)))) := by
    unfold isId; rw [e0]; rfl
  have hc : isC (c.toNat : Int) 1 = (decide (48 ≤ (c.toNat : Int)) && decide ((c.toNat : Int) ≤ 57)) := rfl
  rw [hi]
  rw [hc] at hd
  have HD := hide hd
  clear hd hi hc e0
  generalize (c.toNat : Int) = n at *
  by_cases h1 : 48 ≤ n <;> by_cases h2 : n ≤ 57 <;> by_cases h3 : 97 ≤ n <;> by_cases h4 : n ≤ 122 <;> by_cases h5 : 65 ≤ n <;> by_cases h6 : n ≤ 90 <;> by_cases h7 : n = 45
  all_goals first
    | (exfalso; omega)
    | (have hb : (n == 45) = decide (n = 45) := by by_cases h : n = 45 <;> simp [h]
       simp only [h1, h2, h3, h4, h5, h6, h7, decide_true, decide_false] at HD hb ⊢
       go_enter Tryz.func80, Tryz.ntmps80
       go_wp2_with fail
       refine HD.out.mono ?_
       rintro r w' ⟨rfl, rfl⟩
       go_wp2_with fail
       go_ret
       simp <;> omega)

end Go.Proofs.YtaflflelcdcanaaGreat

namespace Go.Proofs.YtaflflelcdcanaaGreat
open Go.RowKit Go.Shelf
set_option linter.unusedVariables false

set_option maxHeartbeats 400000 in
theorem rdigits_any (s : ByteArray) (w : World) (hs : s.size ≤ maxLen) :
    Calls Tryz.prog 78 #[.string s] w fun e w' => e = .returned (.bool (digB s.data.toList)) ∧ w' = w := by
  unfold maxLen at hs
  have HD : Hid (digB s.data.toList = (decide (0 < s.size) && decide (runL 1 s.data.toList = s.size))) := by
    show _ = _
    by_cases hp : 0 < s.size
    · unfold digB
      rw [emp s hp, len_data, Bool.eq_iff_iff]
      simp [hp]
    · have := size0 s hp
      subst this
      rfl
  generalize digB s.data.toList = D at *
  go_enter Tryz.func78, Tryz.ntmps78
  go_wp2_with fail
  go_loop [3] (fun i => ∃ k : Nat, k ≤ s.size ∧ i = .int .i64 k ∧ Hid (runL 1 s.data.toList = k + runL 1 (s.data.toList.drop k))) (fun i => s.size - (intOf i).toNat)
  case atStart => exact ⟨0, by omega, rfl, by show _ = _; simp⟩
  case round =>
    obtain ⟨k, hk, rfl, HR⟩ := hrel
    by_cases hlt : k < s.size
    · cases hc : isC (s[k].toNat : Int) 1
      · have hC := rdigit_any s[k] w
        rw [hc] at hC
        have HC := hide hC
        have HM := hide (runL_miss 1 s k hlt hc)
        clear hC hc
        go_wp2_with fail
        refine HC.out.mono ?_
        rintro e w' ⟨rfl, rfl⟩
        go_wp2_with fail
        go_ret
        refine ⟨ret_b ?_, rfl⟩
        rw [HD.out, HR.out, HM.out]
        simp
        omega
      · have hC := rdigit_any s[k] w
        rw [hc] at hC
        have HC := hide hC
        have HM := hide (runL_hit 1 s k hlt hc)
        clear hC hc
        go_wp2_with fail
        refine HC.out.mono ?_
        rintro e w' ⟨rfl, rfl⟩
        go_wp2_with fail
        go_round
        case rel => exact ⟨k + 1, by omega, by go_num, by show _ = _; rw [HR.out, HM.out]; omega⟩
        case measure => simp [intOf]; omega
    · obtain rfl : k = s.size := by omega
      go_wp2_with fail
      go_ret
      refine ⟨ret_b ?_, rfl⟩
      rw [HD.out, HR.out, runL_end 1 s s.size (Nat.le_refl _)]
      simp

theorem rnumber_any (s : ByteArray) (w : World) (hs : s.size ≤ maxLen) :
    Calls Tryz.prog 46 #[.string s] w fun e w' => e = .returned (.bool (numB s.data.toList)) ∧ w' = w := by
  have hD := rdigits_any s w hs
  unfold maxLen at hs
  unfold numB
  cases hd : digB s.data.toList
  · rw [hd] at hD
    have HD := hide hD
    clear hD hd
    simp only [Bool.false_and]
    go_enter Tryz.func46, Tryz.ntmps46
    go_wp2_with fail
    refine HD.out.mono ?_
    rintro e w' ⟨rfl, rfl⟩
    go_wp2_with fail
    go_ret
    exact ⟨rfl, rfl⟩
  · rw [hd] at hD
    have HD := hide hD
    have hp : 0 < s.size := by
      rcases Nat.eq_zero_or_pos s.size with h | h
      · exfalso
        have := size0 s (by omega)
        subst this
        cases hd
      · exact h
    have HZ : Hid (zeroB s.data.toList = (decide (1 < s.size) && decide ((s[0].toNat : Int) = 48))) := by
      show _ = _
      unfold zeroB
      rw [hd, head_at s hp, len_data, Bool.eq_iff_iff]
      simp only [Bool.and_true, Bool.and_eq_true, decide_eq_true_eq, beq_iff_eq, Option.some.injEq]
      refine and_congr_right fun _ => ⟨fun h => by rw [h]; rfl, fun h => UInt8.toNat_inj.1 (by have : s[0].toNat = 48 := by omega
                                                                                               rw [this]; rfl)⟩
    clear hD hd
    generalize zeroB s.data.toList = Z at *
    by_cases h0 : (s[0].toNat : Int) = 48 <;> by_cases h1 : 1 < s.size
    all_goals
      go_enter Tryz.func46, Tryz.ntmps46
      go_wp2_with fail
      refine HD.out.mono ?_
      rintro e w' ⟨rfl, rfl⟩
      have hb0 : ((s[0].toNat : Int) == 48) = decide ((s[0].toNat : Int) = 48) := by by_cases h : (s[0].toNat : Int) = 48 <;> simp [h]
      simp only [h0, decide_true, decide_false] at hb0
      go_wp2_with fail
      go_ret
      refine ⟨ret_b ?_, rfl⟩
      rw [HZ.out]
      simp [h0, h1]
      try omega

theorem rbad_any (s : ByteArray) (w : World) (hs : s.size ≤ maxLen) :
    Calls Tryz.prog 79 #[.string s] w fun e w' => e = .returned (.bool (zeroB s.data.toList)) ∧ w' = w := by
  have hD := rdigits_any s w hs
  have hN := rnumber_any s w hs
  have hz : zeroB s.data.toList = (digB s.data.toList && !numB s.data.toList) := by
    unfold numB zeroB
    cases digB s.data.toList <;> simp
  rw [hz]
  clear hz
  cases hd : digB s.data.toList <;> cases hn : numB s.data.toList
  all_goals
    rw [hd] at hD
    rw [hn] at hN
    have HD := hide hD
    have HN := hide hN
    clear hD hd hN hn
    go_enter Tryz.func79, Tryz.ntmps79
    go_wp2_with fail
    refine HD.out.mono ?_
    rintro e w' ⟨rfl, hw⟩
    rw [hw]
    clear hw w'
    go_wp2_with fail
    try (refine HN.out.mono ?_; rintro e w' ⟨rfl, hw⟩; rw [hw]; clear hw w'; go_wp2_with fail)
    go_ret
    exact ⟨rfl, rfl⟩

/-- Does a byte stand at a place? -/
def atB (l : List UInt8) (a : Nat) (c : UInt8) : Bool := l[a]? == some c
theorem atB_in (s : ByteArray) (a : Nat) (c : UInt8) (h : a < s.size) : atB s.data.toList a c = decide ((s[a].toNat : Int) = (c.toNat : Int)) := by
  have hg : s.data.toList[a]? = some s[a] := by rw [List.getElem?_eq_getElem (by rw [len_data]; exact h)]; rfl
  unfold atB
  rw [hg, Bool.eq_iff_iff]
  simp only [beq_iff_eq, Option.some.injEq, decide_eq_true_eq]
  exact ⟨fun h => by rw [h], fun h => UInt8.toNat_inj.1 (by omega)⟩
theorem atB_out (s : ByteArray) (a : Nat) (c : UInt8) (h : ¬ a < s.size) : atB s.data.toList a c = false := by
  unfold atB
  rw [List.getElem?_eq_none (by rw [len_data]; omega)]
  rfl

theorem rIs_any (B : Nat) (s : ByteArray) (a : Nat) (e : Int) (c : UInt8) (w : World) (h : RdAt w B s a e) :
    Calls Tryz.prog 114 #[.pointer (some ⟨B, 0, none⟩), .int .u8 (c.toNat : Int)] w fun r w' => r = .returned (.bool (decide (e = 0) && atB s.data.toList a c)) ∧ ∃ n, w' = w.drewN n := by
  obtain ⟨c0, c1, c2, f1, f2⟩ := h.seen
  have HM := hide (fun n => rmore_any B s a e (w.drewN n) (h.drewN n))
  clear h
  by_cases he : e = 0
  · subst he
    by_cases ha : a < s.size
    · rw [show (decide ((0 : Int) = 0) && decide (a < s.size)) = true by simp [ha]] at HM
      rw [atB_in s a c ha]
      have hb : ((s[a].toNat : Int) == (c.toNat : Int)) = decide ((s[a].toNat : Int) = (c.toNat : Int)) := by by_cases h : (s[a].toNat : Int) = (c.toNat : Int) <;> simp [h]
      generalize decide ((s[a].toNat : Int) = (c.toNat : Int)) = D at *
      go_enter Tryz.func114, Tryz.ntmps114
      go_wp2_with fail
      go_quiet ((go_at_call 116; exact Calls.quiet_of (HM.out _)))
      go_wp2_with fail
      go_ret
      exact ⟨by simp, _, rfl⟩
    · rw [show (decide ((0 : Int) = 0) && decide (a < s.size)) = false by simp [ha]] at HM
      rw [atB_out s a c ha]
      go_enter Tryz.func114, Tryz.ntmps114
      go_wp2_with fail
      go_quiet ((go_at_call 116; exact Calls.quiet_of (HM.out _)))
      go_wp2_with fail
      go_ret
      exact ⟨rfl, _, rfl⟩
  · rw [show (decide (e = 0) && decide (a < s.size)) = false by simp [he]] at HM
    rw [show (decide (e = 0) && atB s.data.toList a c) = false by simp [he]]
    clear he
    go_enter Tryz.func114, Tryz.ntmps114
    go_wp2_with fail
    go_quiet ((go_at_call 116; exact Calls.quiet_of (HM.out _)))
    go_wp2_with fail
    go_ret
    exact ⟨rfl, _, rfl⟩

end Go.Proofs.YtaflflelcdcanaaGreat

namespace Go.Proofs.YtaflflelcdcanaaGreat
open Go.RowKit Go.Shelf
set_option linter.unusedVariables false

/-- The reader behind a byte that must stand: its place and its error. -/
def byteS (l : List UInt8) (c : UInt8) (x : Nat × Int) : Nat × Int := if x.2 = 0 then (if atB l x.1 c then (x.1 + 1, 0) else (x.1, misL l.length x.1)) else x
/-- The reader behind a number. -/
def numS (l : List UInt8) (x : Nat × Int) : Nat × Int := if x.2 = 0 then (match numR l x.1 with | .ok a => (a, 0) | .error y => (y.2, y.1)) else x
/-- The number that is read. -/
def numT (l : List UInt8) (x : Nat × Int) : List UInt8 := if x.2 = 0 then (match numR l x.1 with | .ok a => seg l x.1 a | .error _ => []) else []

theorem RdAt.step {W : World} {B : Nat} {s : ByteArray} {a : Nat} {e : Int} (h : RdAt W B s a e) : RdAt (W.setCell ⟨B, 1, none⟩ (.int .i64 ((a : Int) + 1))) B s (a + 1) e := h.place (a + 1)

theorem rByte_any (B : Nat) (s : ByteArray) (a : Nat) (e : Int) (c : UInt8) (w : World) (h : RdAt w B s a e) (ha : a ≤ s.size) (hs : s.size ≤ 64) :
    Calls Tryz.prog 113 #[.pointer (some ⟨B, 0, none⟩), .int .u8 (c.toNat : Int)] w fun r w' => r = .returned (.tuple #[]) ∧ RdAt w' B s (byteS s.data.toList c (a, e)).1 (byteS s.data.toList c (a, e)).2 ∧ Turn B w w' := by
  obtain ⟨c0, c1, c2, f1, f2⟩ := h.seen
  have H := hide h
  have N1 := hide (fun n => rnone_any B s a e (w.drewN n) (h.drewN n) ha)
  clear h
  have HL := hide (len_data s)
  by_cases he : e = 0
  · subst he
    by_cases hl : a < s.size
    · have hB := atB_in s a c hl
      have hb : ((s[a].toNat : Int) == (c.toNat : Int)) = decide ((s[a].toNat : Int) = (c.toNat : Int)) := by by_cases h : (s[a].toNat : Int) = (c.toNat : Int) <;> simp [h]
      have HX := hide (show byteS s.data.toList c (a, 0) = if atB s.data.toList a c then (a + 1, 0) else (a, misL s.size a) from by unfold byteS; rw [if_pos rfl, HL.out])
      generalize byteS s.data.toList c (a, 0) = X at *
      rw [hB] at HX
      clear hB
      generalize decide ((s[a].toNat : Int) = (c.toNat : Int)) = D at *
      cases D
      · obtain rfl : X = (a, misL s.size a) := HX.out.trans (if_neg (by simp))
        rw [rerr_0] at N1
        go_enter Tryz.func113, Tryz.ntmps113
        go_wp2_with fail
        go_quiet (fail)
        go_wp2_with fail
        refine (N1.out _).mono ?_
        rintro r w1 ⟨rfl, h1, t1⟩
        go_wp2_with fail
        go_end0
        exact ⟨rfl, h1, (Turn.drewN _ _ _).trans t1⟩
      · obtain rfl : X = (a + 1, 0) := HX.out.trans (if_pos rfl)
        go_enter Tryz.func113, Tryz.ntmps113
        go_wp2_with fail
        go_quiet (fail)
        go_wp2_with fail
        refine bodyPost_ret (results_none rfl _ _ _) rfl ?_
        exact ⟨rfl, (H.out.drewN _).step, (Turn.drewN _ _ _).trans (Turn.set _ _ _ _)⟩
    · have HX := hide (show byteS s.data.toList c (a, 0) = (a, misL s.size a) from by unfold byteS; rw [if_pos rfl, HL.out, atB_out s a c hl]; rfl)
      generalize byteS s.data.toList c (a, 0) = X at *
      obtain rfl : X = (a, misL s.size a) := HX.out
      rw [rerr_0] at N1
      go_enter Tryz.func113, Tryz.ntmps113
      go_wp2_with fail
      go_quiet (fail)
      go_wp2_with fail
      refine (N1.out _).mono ?_
      rintro r w1 ⟨rfl, h1, t1⟩
      go_wp2_with fail
      go_end0
      exact ⟨rfl, h1, (Turn.drewN _ _ _).trans t1⟩
  · have hb : (e == 0) = false := by simpa using he
    have HX := hide (show byteS s.data.toList c (a, e) = (a, e) from by unfold byteS; rw [if_neg he])
    generalize byteS s.data.toList c (a, e) = X at *
    obtain rfl : X = (a, e) := HX.out
    rw [rerr_n _ he] at N1
    clear he
    go_enter Tryz.func113, Tryz.ntmps113
    go_wp2_with fail
    go_quiet (fail)
    go_wp2_with fail
    refine (N1.out _).mono ?_
    rintro r w1 ⟨rfl, h1, t1⟩
    go_wp2_with fail
    go_end0
    exact ⟨rfl, h1, (Turn.drewN _ _ _).trans t1⟩

theorem run_take (k : Int) : ∀ m : List UInt8, runL k (m.take (runL k m)) = runL k m
  | [] => rfl
  | c :: r => by
    by_cases hc : isC (c.toNat : Int) k = true
    · have e : runL k (c :: r) = runL k r + 1 := by rw [runL, if_pos hc]
      rw [e, List.take_succ_cons, runL, if_pos hc, run_take k r]
    · have e : runL k (c :: r) = 0 := by rw [runL, if_neg hc]
      rw [e, List.take_zero]; rfl
theorem seg_run (l : List UInt8) (a d : Nat) : seg l a (a + d) = (l.drop a).take d := by
  unfold seg
  rw [List.drop_take]
  congr 1
  omega
theorem zero_run (l : List UInt8) (a : Nat) (h1 : 0 < runL 1 (l.drop a)) : zeroB (seg l a (a + runL 1 (l.drop a))) = (decide (1 < runL 1 (l.drop a)) && (l[a]? == some 48)) := by
  have hle := runL_le 1 (l.drop a)
  have hr := run_take 1 (l.drop a)
  rw [seg_run]
  have hlen : ((l.drop a).take (runL 1 (l.drop a))).length = runL 1 (l.drop a) := by rw [List.length_take]; omega
  have hd : digB ((l.drop a).take (runL 1 (l.drop a))) = true := by
    unfold digB
    rw [hr, hlen]
    cases hx : (l.drop a).take (runL 1 (l.drop a)) with
    | nil => rw [hx] at hlen; simp at hlen; omega
    | cons _ _ => simp
  have hh : ((l.drop a).take (runL 1 (l.drop a))).head? = l[a]? := by
    rw [List.head?_take, if_neg (by omega), List.head?_drop]
  unfold zeroB
  rw [hd, hlen, hh, Bool.and_true]
theorem numR_none (l : List UInt8) (a : Nat) (h : runL 1 (l.drop a) = 0) : numR l a = .error (misL l.length a, a) := by unfold numR; rw [if_pos h]
theorem numR_zero (l : List UInt8) (a : Nat) (h2 : 2 ≤ runL 1 (l.drop a)) (h0 : l[a]? = some 48) : numR l a = .error (14, a + 1) := by
  unfold numR
  rw [if_neg (by omega), zero_run l a (by omega), if_pos (by simp [h0]; omega)]
theorem numR_ok (l : List UInt8) (a : Nat) (h1 : 0 < runL 1 (l.drop a)) (h : 2 ≤ runL 1 (l.drop a) → ¬ l[a]? = some 48) : numR l a = .ok (a + runL 1 (l.drop a)) := by
  unfold numR
  rw [if_neg (by omega), zero_run l a h1, if_neg]
  intro hc
  simp only [Bool.and_eq_true, decide_eq_true_eq, beq_iff_eq] at hc
  exact h hc.1 hc.2
theorem byte_48 (s : ByteArray) (a : Nat) (h : a < s.size) : (s.data.toList[a]? = some 48) ↔ (s[a].toNat : Int) = 48 := by
  have hg : s.data.toList[a]? = some s[a] := by rw [List.getElem?_eq_getElem (by rw [len_data]; exact h)]; rfl
  rw [hg, Option.some.injEq]
  exact ⟨fun h => by rw [h]; rfl, fun h => UInt8.toNat_inj.1 (by have : s[a].toNat = 48 := by omega
                                                                 rw [this]; rfl)⟩

theorem seg_self (l : List UInt8) (a : Nat) : seg l a a = [] := by unfold seg; rw [List.drop_eq_nil_iff, List.length_take]; omega

/-- The place, as a measure. -/
def rplace (W : World) (B : Nat) : Nat := (intOf ((W.cell? ⟨B, 1, none⟩).getD (.int .i64 0))).toNat
theorem RdAt.rplace {W : World} {B : Nat} {s : ByteArray} {a : Nat} {e : Int} (h : RdAt W B s a e) : rplace W B = a := by
  unfold YtaflflelcdcanaaGreat.rplace
  rw [h.seen.2.1]
  simp [intOf]

set_option maxHeartbeats 1000000 in
theorem rNumber_ok (B : Nat) (s : ByteArray) (a : Nat) (w : World) (h : RdAt w B s a 0) (ha : a ≤ s.size) (hs : s.size ≤ 64) :
    Calls Tryz.prog 112 #[.pointer (some ⟨B, 0, none⟩)] w fun r w' => r = .returned (.string (ofL (numT s.data.toList (a, 0)))) ∧ RdAt w' B s (numS s.data.toList (a, 0)).1 (numS s.data.toList (a, 0)).2 ∧ Turn B w w' := by
  obtain ⟨c0, c1, c2, f1, f2⟩ := h.seen
  have H := hide h
  clear h
  have HS := hide (show numS s.data.toList (a, 0) = match numR s.data.toList a with | .ok a => (a, 0) | .error y => (y.2, y.1) from if_pos rfl)
  have HT := hide (show numT s.data.toList (a, 0) = match numR s.data.toList a with | .ok x => seg s.data.toList a x | .error _ => [] from if_pos rfl)
  generalize numS s.data.toList (a, 0) = S at *
  generalize numT s.data.toList (a, 0) = T at *
  go_enter Tryz.func112, Tryz.ntmps112
  go_wp2_with fail
  clear c0 c1 c2 f1 f2
  go_loopw [44] (fun _ wr => ∃ k : Nat, a ≤ k ∧ k ≤ s.size ∧ RdAt wr B s k 0 ∧ Turn B w wr ∧ Hid (runL 1 (s.data.toList.drop a) + a = k + runL 1 (s.data.toList.drop k)) ∧ Hid (a + 2 ≤ k → ¬ s.data.toList[a]? = some 48)) (fun _ wr => s.size - rplace wr B)
  case atStart => exact ⟨a, by omega, by omega, H.out, Turn.refl _ _, by show _ = _; omega, by intro h; omega⟩
  case round =>
    obtain ⟨k, hak, hk, R, HTu, HR, HZ⟩ := hrel
    obtain ⟨c0, c1, c2, f1, f2⟩ := R.seen
    have HRd := hide R
    have HM := hide (fun n => rmore_any B s k 0 (wr.drewN n) (R.drewN n))
    clear R
    have hend : ∀ w3 : World, runL 1 (s.data.toList.drop k) = 0 → a < k → S = (k, 0) ∧ T = seg s.data.toList a k := by
      intro _ h0 hlt
      have h1 := HR.out
      have := numR_ok s.data.toList a (by omega) (fun h => HZ.out (by omega))
      rw [show a + runL 1 (s.data.toList.drop a) = k by omega] at this
      rw [HS.out, HT.out, this]
      exact ⟨rfl, rfl⟩
    have hnone : runL 1 (s.data.toList.drop k) = 0 → a = k → S = (a, misL s.size a) ∧ T = [] := by
      intro h0 hlt
      subst hlt
      have := numR_none s.data.toList a h0
      rw [HS.out, HT.out, this, len_data]
      exact ⟨rfl, rfl⟩
    by_cases hl : k < s.size
    · rw [show (decide ((0 : Int) = 0) && decide (k < s.size)) = true by simp [hl]] at HM
      have HC := hide (fun n => rdigit_any s[k] (wr.drewN n))
      cases hc : isC (s[k].toNat : Int) 1
      · rw [hc] at HC
        have h0 := runL_miss 1 s k hl hc
        by_cases hak' : a = k
        · have hE := hide (hnone h0 hak')
          subst hak'
          clear hend hnone h0 hc
          go_wp2_with fail
          go_quiet ((first | (go_at_call 116; exact Calls.quiet_of (HM.out _)) | (go_at_call 118; exact Calls.quiet_of_same (HC.out _))))
          go_wp2_with fail
          refine (rnone_any B s a 0 _ (HRd.out.drewN _) ha).mono ?_
          rintro r w1 ⟨rfl, h1, t1⟩
          rw [rerr_0] at h1
          have H1 := hide h1
          clear c0 c1 c2 f1 f2
          obtain ⟨c0, c1, c2, f1, f2⟩ := h1.seen
          clear h1
          go_wp2_with fail
          go_quiet (fail)
          go_wp2_with fail
          go_ret
          rw [hE.out.1, hE.out.2]
          refine ⟨?_, H1.out.drewN _, HTu.trans ((Turn.drewN _ _ _).trans (t1.trans (Turn.drewN _ _ _)))⟩
          exact ret_s rfl
        · have hE := hide (hend wr h0 (by omega))
          clear hend hnone h0 hc
          have hb : ((k : Int) == (a : Int)) = false := by simp; omega
          go_wp2_with fail
          go_quiet ((first | (go_at_call 116; exact Calls.quiet_of (HM.out _)) | (go_at_call 118; exact Calls.quiet_of_same (HC.out _))))
          go_wp2_with fail
          go_quiet (fail)
          go_wp2_with fail
          go_ret
          rw [hE.out.1, hE.out.2]
          refine ⟨?_, (HRd.out.drewN _).drewN _, HTu.trans ((Turn.drewN _ _ _).trans (Turn.drewN _ _ _))⟩
          exact ret_s (by rw [extract_seg])
      · rw [hc] at HC
        have HH := hide (runL_hit 1 s k hl hc)
        clear hc hend hnone
        have hal : a < s.size := by omega
        have H48 := hide (byte_48 s a hal)
        by_cases hz : k = a + 1
        · by_cases h48 : (s[a].toNat : Int) = 48
          · have hE : Hid (S = (k, 14) ∧ T = []) := by
              have h1 := HR.out
              have h2 := HH.out
              have := numR_zero s.data.toList a (by omega) (H48.out.2 h48)
              rw [HS.out, HT.out, this, hz]
              exact ⟨rfl, rfl⟩
            have hb : ((k : Int) == (a : Int) + 1) = true := by simp; omega
            have hb' : ((s[a].toNat : Int) == 48) = true := by simpa using h48
            clear hz h48
            go_wp2_with fail
            go_quiet ((first | (go_at_call 116; exact Calls.quiet_of (HM.out _)) | (go_at_call 118; exact Calls.quiet_of_same (HC.out _))))
            go_wp2_with fail
            refine (rwrong_any B s k 0 14 _ (HRd.out.drewN _)).mono ?_
            rintro r w1 ⟨rfl, h1, t1⟩
            go_wp2_with fail
            go_ret
            rw [hE.out.1, hE.out.2]
            rw [rerr_0] at h1
            exact ⟨rfl, h1, HTu.trans ((Turn.drewN _ _ _).trans t1)⟩
          · have hb : ((k : Int) == (a : Int) + 1) = true := by simp; omega
            have hb' : ((s[a].toNat : Int) == 48) = false := by simpa using h48
            have HN := hide (fun h => h48 (H48.out.1 h))
            clear hz h48
            go_wp2_with fail
            go_quiet ((first | (go_at_call 116; exact Calls.quiet_of (HM.out _)) | (go_at_call 118; exact Calls.quiet_of_same (HC.out _))))
            go_wp2_with fail
            go_roundw
            case rel => exact ⟨k + 1, by omega, by omega, (HRd.out.drewN _).step, HTu.trans ((Turn.drewN _ _ _).trans (Turn.set _ _ _ _)), by show _ = _; have := HR.out; have := HH.out; omega, fun _ => HN.out⟩
            case measure => rw [(HRd.out.drewN _).step.rplace, HRd.out.rplace]; omega
        · have hb : ((k : Int) == (a : Int) + 1) = false := by simp; omega
          have HN := hide (show a + 2 ≤ k + 1 → ¬ s.data.toList[a]? = some 48 from fun h => HZ.out (by omega))
          clear hz
          go_wp2_with fail
          go_quiet ((first | (go_at_call 116; exact Calls.quiet_of (HM.out _)) | (go_at_call 118; exact Calls.quiet_of_same (HC.out _))))
          go_wp2_with fail
          go_roundw
          case rel => exact ⟨k + 1, by omega, by omega, (HRd.out.drewN _).step, HTu.trans ((Turn.drewN _ _ _).trans (Turn.set _ _ _ _)), by show _ = _; have := HR.out; have := HH.out; omega, HN.out⟩
          case measure => rw [(HRd.out.drewN _).step.rplace, HRd.out.rplace]; omega
    · rw [show (decide ((0 : Int) = 0) && decide (k < s.size)) = false by simp [hl]] at HM
      have h0 := runL_end 1 s k (by omega)
      by_cases hak' : a = k
      · have hE := hide (hnone h0 hak')
        subst hak'
        clear hend hnone h0
        go_wp2_with fail
        go_quiet ((go_at_call 116; exact Calls.quiet_of (HM.out _)))
        go_wp2_with fail
        refine (rnone_any B s a 0 _ (HRd.out.drewN _) ha).mono ?_
        rintro r w1 ⟨rfl, h1, t1⟩
        rw [rerr_0] at h1
        have H1 := hide h1
        clear c0 c1 c2 f1 f2
        obtain ⟨c0, c1, c2, f1, f2⟩ := h1.seen
        clear h1
        go_wp2_with fail
        go_quiet (fail)
        go_wp2_with fail
        go_ret
        rw [hE.out.1, hE.out.2]
        refine ⟨?_, H1.out.drewN _, HTu.trans ((Turn.drewN _ _ _).trans (t1.trans (Turn.drewN _ _ _)))⟩
        exact ret_s rfl
      · have hE := hide (hend wr h0 (by omega))
        clear hend hnone h0
        have hb : ((k : Int) == (a : Int)) = false := by simp; omega
        go_wp2_with fail
        go_quiet ((go_at_call 116; exact Calls.quiet_of (HM.out _)))
        go_wp2_with fail
        go_quiet (fail)
        go_wp2_with fail
        go_ret
        rw [hE.out.1, hE.out.2]
        refine ⟨?_, (HRd.out.drewN _).drewN _, HTu.trans ((Turn.drewN _ _ _).trans (Turn.drewN _ _ _))⟩
        exact ret_s (by rw [extract_seg])

theorem rNumber_any (B : Nat) (s : ByteArray) (a : Nat) (e : Int) (w : World) (h : RdAt w B s a e) (ha : a ≤ s.size) (hs : s.size ≤ 64) :
    Calls Tryz.prog 112 #[.pointer (some ⟨B, 0, none⟩)] w fun r w' => r = .returned (.string (ofL (numT s.data.toList (a, e)))) ∧ RdAt w' B s (numS s.data.toList (a, e)).1 (numS s.data.toList (a, e)).2 ∧ Turn B w w' := by
  by_cases he : e = 0
  · subst he
    exact rNumber_ok B s a w h ha hs
  · have HS := hide (show numS s.data.toList (a, e) = (a, e) from if_neg he)
    have HT := hide (show numT s.data.toList (a, e) = [] from if_neg he)
    generalize numS s.data.toList (a, e) = S at *
    generalize numT s.data.toList (a, e) = T at *
    obtain ⟨c0, c1, c2, f1, f2⟩ := h.seen
    have H := hide h
    clear h
    have hb : (e == 0) = false := by simpa using he
    have HM := hide (fun n => rmore_any B s a e (w.drewN n) (H.out.drewN n))
    rw [show (decide (e = 0) && decide (a < s.size)) = false by simp [he]] at HM
    clear he
    go_enter Tryz.func112, Tryz.ntmps112
    go_wp2_with fail
    go_loopw [44] (fun _ wr => wr = w) (fun _ wr => 0)
    case atStart => rfl
    case round =>
      subst hrel
      go_wp2_with fail
      go_quiet ((go_at_call 116; exact Calls.quiet_of (HM.out _)))
      go_wp2_with fail
      go_quiet (fail)
      go_wp2_with fail
      go_ret
      rw [HS.out, HT.out]
      refine ⟨?_, (H.out.drewN _).drewN _, ((Turn.drewN _ _ _).trans (Turn.drewN _ _ _))⟩
      exact ret_s rfl

end Go.Proofs.YtaflflelcdcanaaGreat

namespace Go.Proofs.YtaflflelcdcanaaGreat
open Go.RowKit Go.Shelf
set_option linter.unusedVariables false

theorem Turn.grown {B : Nat} {w w' : World} (h : Turn B w w') : w.grownBy w' (some B) := ⟨h.os, h.tape, h.output, h.size, fun k hk hn => h.block k hk (fun e => hn (by rw [e]))⟩
theorem Turn.ofGrown {B n : Nat} {w w' : World} {row : Option Nat} (h : w.grownBy w' row) (hn : n ≤ w.heap.size) (hr : ∀ k, row = some k → n ≤ k) : Below n w w' := (Below.refl n w).grown h hn hr
theorem own_turn {B : Nat} {w w' : World} {base : Nat} {e : TypeId} {size : Nat} {v : Value} {n : Nat} {xs : List Value} (h : w.ownsRow base e size v n xs) (ht : Turn B w w') (hB : B < base) : w'.ownsRow base e size v n xs := by
  refine h.kept ht.grown ?_
  cases ho : v.ownBlock with
  | none => exact .inl rfl
  | some k => exact .inr (fun e => by have := (h.lt k ho).1; injection e with e; omega)

/-- What Idents leaves. -/
def IdsPost (s : ByteArray) (p : Bool) (a B : Nat) (w : World) (r : Ending) (w' : World) : Prop :=
  match idsR p s.data.toList a with
  | .ok (xs, q) => ∃ v, r = .returned v ∧ w'.ownsRow w.heap.size 9 1 v xs.length (strs s xs) ∧ RdAt w' B s q 0 ∧ Turn B w w'
  | .error y => r = .returned (.slice none 0 0) ∧ RdAt w' B s y.2 y.1 ∧ Turn B w w'
theorem idsPost_err {s : ByteArray} {p : Bool} {a B : Nat} {w w' : World} {y : Int × Nat} (h : idsR p s.data.toList a = .error y) (h1 : RdAt w' B s y.2 y.1) (h2 : Turn B w w') : IdsPost s p a B w (.returned (.slice none 0 0)) w' := by
  unfold IdsPost; rw [h]; exact ⟨rfl, h1, h2⟩
theorem idsPost_ok {s : ByteArray} {p : Bool} {a B : Nat} {w w' : World} {v : Value} {xs : List (Nat × Nat)} {q : Nat} (h : idsR p s.data.toList a = .ok (xs, q)) (h0 : w'.ownsRow w.heap.size 9 1 v xs.length (strs s xs)) (h1 : RdAt w' B s q 0) (h2 : Turn B w w') : IdsPost s p a B w (.returned v) w' := by
  unfold IdsPost; rw [h]; exact ⟨v, rfl, h0, h1, h2⟩
theorem misL_ne (n a : Nat) : misL n a ≠ 0 := by unfold misL; split <;> decide

theorem atB_iff (l : List UInt8) (a : Nat) (c : UInt8) : atB l a c = true ↔ l[a]? = some c := by unfold atB; simp

/-- An identifier that may not stand: the error. -/
theorem ids_none (p : Bool) (l : List UInt8) (a k : Nat) (done : List (Nat × Nat)) (hd : done ++ segs l k = segs l a) (hb : badOf p l done = none) (he : k + idL (l.drop k) = k) : idsR p l a = .error (misL l.length k, k) := by
  have hw : wrongL p l (seg l (k, k).1 (k, k).2) (k, k).2 = misL l.length k := by
    unfold wrongL; rw [if_pos (seg_self l k)]
  have := idsR_bad p l a done (k, k) hb (by rw [hw]; exact misL_ne _ _) (by
    refine ⟨(segs l k).tail, ?_⟩
    rw [← hd, List.append_assoc]
    congr 1
    by_cases h : l[k]? = some 46
    · rw [segs_dot l k k he h]; rfl
    · rw [segs_last l k k he h]; rfl)
  rw [hw] at this
  exact this
theorem ids_bad (l : List UInt8) (a k j : Nat) (done : List (Nat × Nat)) (hd : done ++ segs l k = segs l a) (hb : badOf true l done = none) (he : k + idL (l.drop k) = j) (hne : seg l k j ≠ []) (hz : zeroB (seg l k j) = true) :
    idsR true l a = .error (if atB l j 46 || atB l j 43 then 14 else misL l.length j, j) := by
  have hw : wrongL true l (seg l (k, j).1 (k, j).2) (k, j).2 = if atB l j 46 || atB l j 43 then 14 else misL l.length j := by
    unfold wrongL
    rw [if_neg hne, if_neg (by simp [hz])]
    simp only [Bool.or_eq_true, atB_iff]
  have := idsR_bad true l a done (k, j) hb (by
    rw [hw]
    split
    · decide
    · exact misL_ne _ _) (by
    refine ⟨(segs l k).tail, ?_⟩
    rw [← hd, List.append_assoc]
    congr 1
    by_cases h : l[j]? = some 46
    · rw [segs_dot l k j he h]; rfl
    · rw [segs_last l k j he h]; rfl)
  rw [hw] at this
  exact this
theorem ids_good (p : Bool) (l : List UInt8) (k j : Nat) (hne : seg l k j ≠ []) (hz : (p && zeroB (seg l k j)) = false) : wrongL p l (seg l k j) j = 0 := by
  unfold wrongL
  rw [if_neg hne, if_pos]
  cases p <;> simp_all
theorem bad_snoc (p : Bool) (l : List UInt8) (k j : Nat) (done : List (Nat × Nat)) (hb : badOf p l done = none) (hw : wrongL p l (seg l k j) j = 0) : badOf p l (done ++ [(k, j)]) = none := by
  rw [badOf_app p l done _ hb, badOf, if_pos hw]; rfl
theorem ids_last (p : Bool) (l : List UInt8) (a k j : Nat) (done : List (Nat × Nat)) (hd : done ++ segs l k = segs l a) (hb : badOf p l (done ++ [(k, j)]) = none) (he : k + idL (l.drop k) = j) (hn : atB l j 46 = false) : idsR p l a = .ok (done ++ [(k, j)], j) := by
  have hn' : ¬ l[j]? = some 46 := fun h => by rw [(atB_iff l j 46).2 h] at hn; cases hn
  rw [segs_last l k j he hn'] at hd
  rw [idsR_ok p l a (by rw [← hd]; exact hb), ← hd, lastE_snoc]
theorem ids_next (l : List UInt8) (a k j : Nat) (done : List (Nat × Nat)) (hd : done ++ segs l k = segs l a) (he : k + idL (l.drop k) = j) (hn : atB l j 46 = true) : (done ++ [(k, j)]) ++ segs l (j + 1) = segs l a := by
  rw [segs_dot l k j he ((atB_iff l j 46).1 hn)] at hd
  rw [← hd]; simp
theorem seg_ne (s : ByteArray) (k j : Nat) (h : k < j) (hj : j ≤ s.size) : seg s.data.toList k j ≠ [] := by
  intro h0
  have := seg_len s.data.toList k j (by rw [len_data]; exact hj)
  rw [h0] at this
  simp at this
  omega

end Go.Proofs.YtaflflelcdcanaaGreat
