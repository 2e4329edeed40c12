/-
  Walks: where spans begin and end.
-/
import Derived.Test.YtmpegkcleajhhaaDoorDg
import Derived.IntWalk
namespace Go.Proofs.YtmpegkcleajhhaaDoor
open Go.RowKit Go.Shelf
set_option linter.unusedVariables false

def maxI : Int := 9223372036854775807
/-- The edge of a number. -/
def edgL (s : List Sp) (i : Nat) : Int := (flatE s).getD i maxI
theorem edg_out (s : List Sp) (i : Nat) (h : 2 * s.length ≤ i) : edgL s i = 9223372036854775807 := by
  unfold edgL
  rw [List.getD_eq_getElem?_getD, List.getElem?_eq_none (by rw [flat_len]; exact h)]
  rfl
theorem edg_even (s : List Sp) (q : Nat) (h : q < s.length) : edgL s (2 * q) = s[q].1 := by
  unfold edgL
  rw [List.getD_eq_getElem?_getD, (flat_at s q s[q] (List.getElem?_eq_getElem h)).1]
  rfl
theorem edg_odd (s : List Sp) (q : Nat) (h : q < s.length) : edgL s (2 * q + 1) = s[q].2 := by
  unfold edgL
  rw [List.getD_eq_getElem?_getD, (flat_at s q s[q] (List.getElem?_eq_getElem h)).2]
  rfl

set_option maxRecDepth 100000 in
set_option maxHeartbeats 1000000 in
theorem edge_any (v : Value) (s : List Sp) (i : Nat) (w : World) (hA : Spans w v s) (hl : s.length ≤ 1000000000000) (hi : i ≤ 1000000000000000) :
    Calls Tryd.prog 61 #[v, .int .i64 i] w fun e w' => e = .returned (.int .i64 (edgL s i)) ∧ Below w.heap.size w w' := by
  obtain ⟨aa, ca, rfl, hra⟩ := hA
  by_cases h : 2 * s.length ≤ i
  · have h' : ¬ (i : Int) < 2 * (s.length : Int) := by omega
    have HE := hide (edg_out s i h)
    go_enter Tryd.func61, Tryd.ntmps61
    go_wp2_with fail
    go_ret
    exact ⟨ret_i HE.out.symm, Below.refl _ _⟩
  · have h' : (i : Int) < 2 * (s.length : Int) := by omega
    have hql : i / 2 < s.length := by omega
    have hql' : (i : Int) / 2 < (s.length : Int) := by omega
    obtain ⟨b, off, rfl, hlb, hc⟩ : ∃ b off, aa = some ⟨b, off, none⟩ ∧ b < w.heap.size ∧ SRow w b off s := by
      rcases hra with h0 | h0
      · rw [h0] at hql; simp at hql
      · exact h0
    obtain ⟨c0, c1⟩ := hc (i / 2) hql
    have HE0 := hide (edg_even s (i / 2) hql)
    have HE1 := hide (edg_odd s (i / 2) hql)
    clear hc hra
    generalize s[i / 2] = p at *
    obtain ⟨x0, x1⟩ := p
    dsimp only at c0 c1 HE0 HE1
    have hB : Below w.heap.size w (w.alloc (.cells #[.int .i64 x0, .int .i64 x1] 45)) := (Below.refl _ w).alloc (Nat.le_refl _) _
    by_cases hr : i % 2 = 0
    · have hr' : (i : Int) % 2 = 0 := by omega
      have hr2 : ((i : Int) % 2 == 0) = true := by simp; omega
      have HX : Hid (edgL s i = x0) := by show _ = _; rw [← HE0.out]; congr 1; omega
      clear HE0 HE1
      go_enter Tryd.func61, Tryd.ntmps61
      go_wp2_with fail
      go_ret
      exact ⟨ret_i HX.out.symm, hB⟩
    · have hr' : (i : Int) % 2 = 1 := by omega
      have hr2 : ((i : Int) % 2 == 0) = false := by simp; omega
      have HX : Hid (edgL s i = x1) := by show _ = _; rw [← HE1.out]; congr 1; omega
      clear HE0 HE1
      go_enter Tryd.func61, Tryd.ntmps61
      go_wp2_with fail
      go_ret
      exact ⟨ret_i HX.out.symm, hB⟩

end Go.Proofs.YtmpegkcleajhhaaDoor
