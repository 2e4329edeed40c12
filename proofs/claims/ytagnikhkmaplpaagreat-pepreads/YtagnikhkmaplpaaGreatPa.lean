/-
  Walks: the reader's small parts.
-/
import Derived.Test.YtagnikhkmaplpaaGreatGen
import Derived.Lib.Strings
namespace Go.Proofs.YtagnikhkmaplpaaGreat
open Go.RowKit Go.Shelf
set_option linter.unusedVariables false

/-- The reader lies so: its text and its place. -/
def RdAt (W : World) (B : Nat) (s : ByteArray) (a : Nat) : Prop := W.heap[B]? = some (.cells #[.string s, .int .i64 (a : Int)] 40 (0, 0))
theorem RdAt.seen {W : World} {B : Nat} {s : ByteArray} {a : Nat} (h : RdAt W B s a) : W.cell? ⟨B, 0, none⟩ = some (.string s) ∧ W.cell? ⟨B, 1, none⟩ = some (.int .i64 (a : Int)) ∧ W.frozen? ⟨B, 1, none⟩ = false :=
  ⟨cell_at 0 h rfl, cell_at 1 h rfl, one_free 1 h⟩
theorem RdAt.lt {W : World} {B : Nat} {s : ByteArray} {a : Nat} (h : RdAt W B s a) : B < W.heap.size := (Array.getElem?_eq_some_iff.1 h).1
theorem RdAt.drewN {W : World} {B : Nat} {s : ByteArray} {a : Nat} (h : RdAt W B s a) (n : Nat) : RdAt (W.drewN n) B s a := by unfold RdAt; rw [heap_drewN]; exact h
theorem RdAt.place {W : World} {B : Nat} {s : ByteArray} {a : Nat} (h : RdAt W B s a) (x : Nat) : RdAt (W.setCell ⟨B, 1, none⟩ (.int .i64 (x : Int))) B s x := set_lies 1 (.int .i64 (x : Int)) h
theorem RdAt.below {W W' : World} {B : Nat} {s : ByteArray} {a : Nat} (h : RdAt W B s a) (hb : Below W.heap.size W W') : RdAt W' B s a := (hb.block B h.lt).trans h

/-- One of the three marks. -/
def isMark (c : UInt8) : Bool := c == 45 || c == 95 || c == 46
/-- The place behind a mark, if one stands. -/
def markL (l : List UInt8) (a : Nat) : Nat := if (l[a]?.map isMark).getD false then a + 1 else a

theorem rest_any (B : Nat) (s : ByteArray) (a : Nat) (w : World) (h : RdAt w B s a) (ha : a ≤ s.size) :
    Calls Tryz.prog 87 #[.pointer (some ⟨B, 0, none⟩)] w fun r w' => r = .returned (.string (ofL (s.data.toList.drop a))) ∧ ∃ n, w' = w.drewN n := by
  obtain ⟨c0, c1, f1⟩ := h.seen
  clear h
  have h0 : (0 : Int) ≤ (a : Int) := Int.natCast_nonneg _
  have h1 : (a : Int) ≤ (s.size : Int) := by omega
  go_enter Tryz.func87, Tryz.ntmps87
  go_wp2_with fail
  go_quiet (fail)
  go_wp2_with fail
  go_ret
  exact ⟨ret_s (by rw [extract_end]), _, rfl⟩

set_option maxHeartbeats 400000 in
theorem Misfit_any (s : ByteArray) (a : Nat) (w : World) :
    Calls Tryz.prog 90 #[.string s, .int .i64 (a : Int)] w fun e w' => e = .returned (.int .i64 (misL s.size a)) ∧ w' = w := by
  by_cases h : a = s.size
  · have hb : ((a : Int) == (s.size : Int)) = true := by simp; omega
    have HM : Hid (misL s.size a = 11) := if_pos h
    clear h
    go_enter Tryz.func90, Tryz.ntmps90
    go_wp2_with fail
    go_ret
    exact ⟨by rw [HM.out]; rfl, rfl⟩
  · have hb : ((a : Int) == (s.size : Int)) = false := by simp; omega
    have HM : Hid (misL s.size a = 10) := if_neg h
    clear h
    go_enter Tryz.func90, Tryz.ntmps90
    go_wp2_with fail
    go_ret
    exact ⟨by rw [HM.out]; rfl, rfl⟩

theorem misfit_any (B : Nat) (s : ByteArray) (a : Nat) (w : World) (h : RdAt w B s a) :
    Calls Tryz.prog 57 #[.pointer (some ⟨B, 0, none⟩)] w fun r w' => r = .returned (.int .i64 (misL s.size a)) ∧ ∃ n, w' = w.drewN n := by
  obtain ⟨c0, c1, f1⟩ := h.seen
  clear h
  have CM := hide (Misfit_any s a)
  go_enter Tryz.func57, Tryz.ntmps57
  go_wp2_with fail
  go_quiet ((go_at_call 90; exact Calls.quiet_of_same (CM.out _)))
  go_wp2_with fail
  go_ret
  exact ⟨rfl, _, rfl⟩

set_option maxHeartbeats 400000 in
theorem isDigits_any (s : ByteArray) (w : World) (hs : s.size ≤ maxLen) :
    Calls Tryz.prog 75 #[.string s] w fun e w' => e = .returned (.bool (digB s.data.toList)) ∧ w' = w := by
  by_cases hp : 0 < s.size
  · have hb := eqE s hp
    have hI : runI s.data.toList 0 1 = (runL 1 s.data.toList : Int) := by have := runI_in s 0 1 (by omega); simpa using this
    have HI := hide hI
    have HE := hide (emp s hp)
    clear hI
    go_enter Tryz.func75, Tryz.ntmps75
    go_wp2_with fail
    refine (Run_any _ _ _ _ hs).mono ?_
    rintro e w' ⟨rfl, rfl⟩
    go_wp2_with fail
    go_ret
    refine ⟨ret_b ?_, rfl⟩
    rw [digB, HE.out, HI.out, len_data]
    simp
    rw [Bool.eq_iff_iff]
    simp
    omega
  · have := size0 s hp
    subst this
    go_enter Tryz.func75, Tryz.ntmps75
    go_wp2_with fail
    go_ret
    exact ⟨rfl, rfl⟩

/-- A part without noughts ahead, if it is a number. -/
def plainL (t : List UInt8) : List UInt8 := if digB t then trimL t else t
theorem plain_any (s : ByteArray) (w : World) (hs : s.size ≤ maxLen) :
    Calls Tryz.prog 80 #[.string s] w fun e w' => e = .returned (.string (ofL (plainL s.data.toList))) ∧ w' = w := by
  have D := hide (isDigits_any s w hs)
  unfold plainL
  cases hd : digB s.data.toList
  · rw [hd] at D
    rw [if_neg (by simp)]
    go_enter Tryz.func80, Tryz.ntmps80
    go_wp2_with fail
    refine D.out.mono ?_
    rintro e w' ⟨rfl, hw⟩
    rw [hw]
    clear hw w'
    go_wp2_with fail
    go_ret
    exact ⟨ret_s (ofL_self s).symm, rfl⟩
  · rw [hd] at D
    rw [if_pos rfl]
    go_enter Tryz.func80, Tryz.ntmps80
    go_wp2_with fail
    refine D.out.mono ?_
    rintro e w' ⟨rfl, hw⟩
    rw [hw]
    clear hw w'
    go_wp2_with fail
    refine (Trim_any _ _ hs).mono ?_
    rintro e w' ⟨rfl, hw⟩
    rw [hw]
    clear hw w'
    go_wp2_with fail
    go_ret
    exact ⟨rfl, rfl⟩

end Go.Proofs.YtagnikhkmaplpaaGreat
