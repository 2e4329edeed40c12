/-
  Walks: two rows of tokens compared; whether tokens are a version's; their order.
-/
import Derived.Test.YtpedljmpobhimaaGreatDoorFa
namespace Go.Proofs.YtpedljmpobhimaaGreatDoor
open Go.RowKit Go.Shelf
set_option linter.unusedVariables false

theorem toks_at {W : World} {a : Option Addr} {n cap : Nat} {ts : List Tok} (h : Toks W (.slice a n cap) ts) (hne : 0 < ts.length) : ∃ b off, a = some ⟨b, off, none⟩ ∧ b < W.heap.size ∧ TRow W b off ts := by
  obtain ⟨a', cap', hv, h0 | ⟨b, off, ha, hlt, hc⟩⟩ := h
  · subst h0; simp at hne
  · cases hv
    exact ⟨b, off, ha, hlt, hc⟩
theorem toks_n {W : World} {a : Option Addr} {n cap : Nat} {ts : List Tok} (h : Toks W (.slice a n cap) ts) : ts.length = n := by
  obtain ⟨a', cap', hv, _⟩ := h
  cases hv; rfl

/-- Are tokens a version's? -/
def fitB (ts : List Tok) : Bool := ts.all isTokB && decide (trimT ts = ts)

/-- The order of tokens, nought where one of the rows is no version's. -/
def ordF (xs ys : List Tok) : Int := if fitB xs && fitB ys then ordL xs ys else 0

end Go.Proofs.YtpedljmpobhimaaGreatDoor
