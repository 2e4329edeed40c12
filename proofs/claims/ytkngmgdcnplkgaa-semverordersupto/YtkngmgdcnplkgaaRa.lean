/-
  The document's reader: what lies in memory while it reads; its small walks.
-/
import Derived.Test.YtkngmgdcnplkgaaFd
import Derived.Deep.QuietTactic
import Derived.BigQuiet
namespace Go.Proofs.Ytkngmgdcnplkgaa
open Go.RowKit Go.Shelf
set_option linter.unusedVariables false

/-- One block may have turned, and new ones may lie; all else is as it was. -/
structure Turn (B : Nat) (w w' : World) : Prop where
  os : w'.os = w.os
  tape : w'.tape = w.tape
  output : w'.output = w.output
  size : w.heap.size ≤ w'.heap.size
  block : ∀ k, k < w.heap.size → k ≠ B → w'.heap[k]? = w.heap[k]?
theorem Turn.refl (B : Nat) (w : World) : Turn B w w := ⟨rfl, rfl, rfl, Nat.le_refl _, fun _ _ _ => rfl⟩
theorem Turn.trans {B : Nat} {a b c : World} (h : Turn B a b) (k : Turn B b c) : Turn B a c :=
  ⟨k.os.trans h.os, k.tape.trans h.tape, k.output.trans h.output, Nat.le_trans h.size k.size, fun i hi hn => (k.block i (Nat.lt_of_lt_of_le hi h.size) hn).trans (h.block i hi hn)⟩
theorem Turn.ofBelow {B : Nat} {w w' : World} (h : Below w.heap.size w w') : Turn B w w' := ⟨h.os, h.tape, h.output, h.size, fun k hk _ => h.block k hk⟩
theorem Turn.below {B n : Nat} {w w' : World} (h : Turn B w w') (hn : n ≤ B) (hs : n ≤ w.heap.size) : Below n w w' := ⟨h.os, h.tape, h.output, h.size, fun k hk => h.block k (Nat.lt_of_lt_of_le hk hs) (by omega)⟩
theorem Turn.set (B o : Nat) (w : World) (v : Value) : Turn B w (w.setCell ⟨B, o, none⟩ v) :=
  ⟨rfl, rfl, rfl, by rw [show (w.setCell ⟨B, o, none⟩ v).heap.size = w.heap.size from Array.size_modify]; exact Nat.le_refl _, fun k _ hn => Below.heap_setCell _ _ _ k hn⟩
theorem Turn.drewN (B : Nat) (w : World) : ∀ n, Turn B w (w.drewN n)
  | 0 => Turn.refl B w
  | n + 1 => by
    have h := Turn.drewN B w.drew n
    exact ⟨h.os, h.tape, h.output, h.size, h.block⟩
theorem heap_drewN (w : World) : ∀ n, (w.drewN n).heap = w.heap
  | 0 => rfl
  | n + 1 => heap_drewN w.drew n
theorem below_drewN (k : Nat) (w : World) (n : Nat) : Below k w (w.drewN n) := by
  have h := Turn.drewN 0 w n
  exact ⟨h.os, h.tape, h.output, h.size, fun j _ => by rw [heap_drewN]⟩

/-- The reader lies so: its text, its place, its error. -/
def RdAt (W : World) (B : Nat) (s : ByteArray) (a : Nat) (e : Int) : Prop := W.heap[B]? = some (.cells #[.string s, .int .i64 (a : Int), .int .i64 e] 72 (0, 0))
theorem RdAt.seen {W : World} {B : Nat} {s : ByteArray} {a : Nat} {e : Int} (h : RdAt W B s a e) :
    W.cell? ⟨B, 0, none⟩ = some (.string s) ∧ W.cell? ⟨B, 1, none⟩ = some (.int .i64 (a : Int)) ∧ W.cell? ⟨B, 2, none⟩ = some (.int .i64 e) ∧ W.frozen? ⟨B, 1, none⟩ = false ∧ W.frozen? ⟨B, 2, none⟩ = false :=
  ⟨cell_at 0 h rfl, cell_at 1 h rfl, cell_at 2 h rfl, one_free 1 h, one_free 2 h⟩
theorem RdAt.lt {W : World} {B : Nat} {s : ByteArray} {a : Nat} {e : Int} (h : RdAt W B s a e) : B < W.heap.size := (Array.getElem?_eq_some_iff.1 h).1
theorem RdAt.drewN {W : World} {B : Nat} {s : ByteArray} {a : Nat} {e : Int} (h : RdAt W B s a e) (n : Nat) : RdAt (W.drewN n) B s a e := by unfold RdAt; rw [heap_drewN]; exact h
theorem RdAt.err {W : World} {B : Nat} {s : ByteArray} {a : Nat} {e : Int} (h : RdAt W B s a e) (x : Int) : RdAt (W.setCell ⟨B, 2, none⟩ (.int .i64 x)) B s a x := set_lies 2 (.int .i64 x) h
theorem RdAt.place {W : World} {B : Nat} {s : ByteArray} {a : Nat} {e : Int} (h : RdAt W B s a e) (x : Nat) : RdAt (W.setCell ⟨B, 1, none⟩ (.int .i64 (x : Int))) B s x e := set_lies 1 (.int .i64 (x : Int)) h

/-- The first error stays. -/
def rerr (e x : Int) : Int := if e = 0 then x else e
theorem rerr_0 (x : Int) : rerr 0 x = x := if_pos rfl
theorem rerr_n {e : Int} (x : Int) (h : e ≠ 0) : rerr e x = e := if_neg h

theorem rwrong_any (B : Nat) (s : ByteArray) (a : Nat) (e x : Int) (w : World) (h : RdAt w B s a e) :
    Calls Try.prog 62 #[.pointer (some ⟨B, 0, none⟩), .int .i64 x] w fun r w' => r = .returned (.tuple #[]) ∧ RdAt w' B s a (rerr e x) ∧ Turn B w w' := by
  obtain ⟨c0, c1, c2, f1, f2⟩ := h.seen
  have H := hide h
  clear h
  by_cases he : e = 0
  · subst he
    go_enter Try.func62, Try.ntmps62
    go_wp2_with fail
    go_end0
    exact ⟨rfl, by rw [rerr_0]; exact H.out.err x, Turn.set _ _ _ _⟩
  · have hb : (e == 0) = false := by simpa using he
    have HN := hide he
    clear he
    go_enter Try.func62, Try.ntmps62
    go_wp2_with fail
    go_end0
    exact ⟨rfl, by rw [rerr_n x HN.out]; exact H.out, Turn.refl _ _⟩

theorem rnone_any (B : Nat) (s : ByteArray) (a : Nat) (e : Int) (w : World) (h : RdAt w B s a e) (hs : a ≤ s.size) :
    Calls Try.prog 85 #[.pointer (some ⟨B, 0, none⟩)] w fun r w' => r = .returned (.tuple #[]) ∧ RdAt w' B s a (rerr e (misL s.size a)) ∧ Turn B w w' := by
  obtain ⟨c0, c1, c2, f1, f2⟩ := h.seen
  have H := hide h
  clear h
  by_cases ha : a < s.size
  · have hd : decide (a < s.size) = true := by simpa using ha
    have HA := hide ha
    clear ha
    go_enter Try.func85, Try.ntmps85
    go_wp2_with fail
    go_quiet (fail)
    go_wp2_with fail
    refine (rwrong_any B s a e 10 _ (H.out.drewN _)).mono ?_
    rintro r w1 ⟨rfl, h1, t1⟩
    go_wp2_with fail
    go_end0
    exact ⟨rfl, by unfold misL; rw [if_neg (by have := HA.out; omega)]; exact h1, (Turn.drewN _ _ _).trans t1⟩
  · have hd : decide (a < s.size) = false := by simpa using ha
    have HA := hide ha
    clear ha
    go_enter Try.func85, Try.ntmps85
    go_wp2_with fail
    go_quiet (fail)
    go_wp2_with fail
    refine (rwrong_any B s a e 11 _ (H.out.drewN _)).mono ?_
    rintro r w1 ⟨rfl, h1, t1⟩
    go_wp2_with fail
    go_end0
    exact ⟨rfl, by unfold misL; rw [if_pos (by have := HA.out; omega)]; exact h1, (Turn.drewN _ _ _).trans t1⟩

theorem rmore_any (B : Nat) (s : ByteArray) (a : Nat) (e : Int) (w : World) (h : RdAt w B s a e) :
    Calls Try.prog 61 #[.pointer (some ⟨B, 0, none⟩)] w fun r w' => r = .returned (.bool (decide (e = 0) && decide (a < s.size))) ∧ ∃ n, w' = w.drewN n := by
  obtain ⟨c0, c1, c2, f1, f2⟩ := h.seen
  clear h
  by_cases he : e = 0
  · subst he
    by_cases ha : a < s.size
    · have hd : decide (a < s.size) = true := by simpa using ha
      rw [show (decide ((0 : Int) = 0) && decide (a < s.size)) = true by simp [ha]]
      clear ha
      go_enter Try.func61, Try.ntmps61
      go_wp2_with fail
      go_quiet (fail)
      go_wp2_with fail
      go_ret
      exact ⟨rfl, _, rfl⟩
    · have hd : decide (a < s.size) = false := by simpa using ha
      rw [show (decide ((0 : Int) = 0) && decide (a < s.size)) = false by simp [ha]]
      clear ha
      go_enter Try.func61, Try.ntmps61
      go_wp2_with fail
      go_quiet (fail)
      go_wp2_with fail
      go_ret
      exact ⟨rfl, _, rfl⟩
  · have hb : (e == 0) = false := by simpa using he
    simp only [he, decide_false, Bool.false_and]
    clear he
    go_enter Try.func61, Try.ntmps61
    go_wp2_with fail
    go_quiet (fail)
    go_wp2_with fail
    go_ret
    exact ⟨rfl, _, rfl⟩

theorem rdigit_any (c : UInt8) (w : World) : Calls Try.prog 84 #[.int .u8 (c.toNat : Int)] w fun r w' => r = .returned (.bool (isC (c.toNat : Int) 1)) ∧ w' = w := by
  unfold isC
  simp only [if_true]
  by_cases h1 : 48 ≤ (c.toNat : Int) <;> by_cases h2 : (c.toNat : Int) ≤ 57
  all_goals
    go_enter Try.func84, Try.ntmps84
    go_wp2_with fail
    go_ret
    simp [h1, h2]

theorem rident_any (c : UInt8) (w : World) : Calls Try.prog 68 #[.int .u8 (c.toNat : Int)] w fun r w' => r = .returned (.bool (isId c)) ∧ w' = w := by
  have hd := rdigit_any c w
  have e0 : (c == 45) = decide ((c.toNat : Int) = 45) := by
    rw [Bool.eq_iff_iff]
    simp only [beq_iff_eq, decide_eq_true_eq]
    constructor
    · rintro rfl; rfl
    · intro h; exact UInt8.toNat_inj.1 (by have : c.toNat = 45 := by omega
                                           rw [this]; rfl)
  have hi : isId c = (decide ((c.toNat : Int) = 45) || ((decide (97 ≤ (c.toNat : Int)) && decide ((c.toNat : Int) ≤ 122)) || (decide (65 ≤ (c.toNat : Int)) && decide ((c.toNat : Int) ≤ 90)) || (decide (48 ≤ (c.toNat : Int)) && decide ((c.toNat : Int) ≤ 57)))) := by
    unfold isId; rw [e0]; rfl
  have hc : isC (c.toNat : Int) 1 = (decide (48 ≤ (c.toNat : Int)) && decide ((c.toNat : Int) ≤ 57)) := rfl
  rw [hi]
  rw [hc] at hd
  have HD := hide hd
  clear hd hi hc e0
  generalize (c.toNat : Int) = n at *
  by_cases h1 : 48 ≤ n <;> by_cases h2 : n ≤ 57 <;> by_cases h3 : 97 ≤ n <;> by_cases h4 : n ≤ 122 <;> by_cases h5 : 65 ≤ n <;> by_cases h6 : n ≤ 90 <;> by_cases h7 : n = 45
  all_goals first
    | (exfalso; omega)
    | (have hb : (n == 45) = decide (n = 45) := by by_cases h : n = 45 <;> simp [h]
       simp only [h1, h2, h3, h4, h5, h6, h7, decide_true, decide_false] at HD hb ⊢
       go_enter Try.func68, Try.ntmps68
       go_wp2_with fail
       refine HD.out.mono ?_
       rintro r w' ⟨rfl, rfl⟩
       go_wp2_with fail
       go_ret
       simp <;> omega)

end Go.Proofs.Ytkngmgdcnplkgaa
