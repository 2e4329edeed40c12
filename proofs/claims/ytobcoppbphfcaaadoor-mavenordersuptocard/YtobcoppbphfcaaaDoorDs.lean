/-
  Walks: the document's look at two rows of tokens.
-/
import Derived.Test.YtobcoppbphfcaaaDoorDn
namespace Go.Proofs.YtobcoppbphfcaaaDoor
open Go.RowKit Go.Shelf
set_option linter.unusedVariables false

set_option maxRecDepth 100000 in
set_option maxHeartbeats 2000000 in
theorem RSame_true (va vb : Value) (xs : List Tok) (w : World) (hA : Toks w va xs) (hB : Toks w vb xs) (hl : xs.length ≤ 1000000000000) :
    Calls Tryd.prog 10 #[va, vb] w fun e w' => e = .returned (.bool true) ∧ Below w.heap.size w w' := by
  obtain ⟨aa, ca, rfl, hra⟩ := hA
  obtain ⟨ab, cb, rfl, hrb⟩ := hB
  have HA := hide hra
  have HB := hide hrb
  clear hra hrb
  have hne : ((xs.length : Int) != (xs.length : Int)) = false := by simp
  go_enter Tryd.func10, Tryd.ntmps10
  go_wp2_with fail
  go_loopw [5] (fun i wr => ∃ k : Nat, k ≤ xs.length ∧ i = .int .i64 k ∧ Below w.heap.size w wr) (fun i _ => xs.length - (intOf i).toNat)
  case atStart => exact ⟨0, by omega, rfl, Below.refl _ _⟩
  case round =>
    obtain ⟨k, hk, rfl, hBw⟩ := hrel
    by_cases hlt : k < xs.length
    · have hlt' : (k : Int) < (xs.length : Int) := by omega
      obtain ⟨b, off, rfl, hlb, hc⟩ : ∃ b off, aa = some ⟨b, off, none⟩ ∧ b < w.heap.size ∧ TRow w b off xs := by
        rcases HA.out with h0 | h0
        · rw [h0] at hlt; simp at hlt
        · exact h0
      obtain ⟨b', off', rfl, hlb', hc'⟩ : ∃ b off, ab = some ⟨b, off, none⟩ ∧ b < w.heap.size ∧ TRow w b off xs := by
        rcases HB.out with h0 | h0
        · rw [h0] at hlt; simp at hlt
        · exact h0
      obtain ⟨c0, c1, c2⟩ := (hc.of_block (hBw.block b hlb)) k hlt
      obtain ⟨d0, d1, d2⟩ := (hc'.of_block (hBw.block b' hlb')) k hlt
      generalize xs[k] = t at *
      clear hc hc'
      go_wp2_with fail
      go_quiet (fail)
      have hB2 : Below w.heap.size w (wr.drewN nq) := hBw.trans (below_drewN _ _ _)
      clear c0 c1 c2 d0 d1 d2
      generalize wr.drewN nq = W2 at *
      go_wp2_with fail
      go_roundw
      case rel => exact ⟨k + 1, by omega, by go_num, hB2⟩
      case measure => simp [intOf]; omega
    · have hlt' : ¬ (k : Int) < (xs.length : Int) := by omega
      go_wp2_with fail
      go_ret
      exact ⟨rfl, hBw⟩

end Go.Proofs.YtobcoppbphfcaaaDoor
