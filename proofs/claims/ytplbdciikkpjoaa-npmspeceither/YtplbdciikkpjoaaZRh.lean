/-
  The document's answer: lists and versions that are the same, texts of versions.
-/
import Derived.Test.YtplbdciikkpjoaaZRg
import Derived.Test.YtplbdciikkpjoaaZPlainR
import Derived.Test.YtplbdciikkpjoaaZGa
namespace Go.Proofs.Ytplbdciikkpjoaa
open Go.RowKit Go.Shelf
set_option linter.unusedVariables false

theorem cat_ofL (a b : List UInt8) : ofL a ++ ofL b = ofL (a ++ b) := by
  apply ba_ext
  rw [ofL_data]
  simp [ofL]

theorem Txt.drewN {W : World} {v : Value} {ts : List (List UInt8)} (h : Txt W v ts) (n : Nat) : Txt (W.drewN n) v ts := h.below (below_drewN _ _ _)

theorem joinL_len (ts : List (List UInt8)) : (joinL ts).length ≤ lenI ts := by
  cases ts with
  | nil => simp [joinL, lenI]
  | cons t r =>
    have hd : ∀ us : List (List UInt8), (dotted us).length = lenI us := by
      intro us
      induction us with
      | nil => rfl
      | cons u v ih => simp only [dotted, List.flatMap_cons, List.length_append, List.length_cons, lenI] at ih ⊢; omega
    simp only [joinL, List.length_append, lenI, hd]
    omega
theorem lenI_take_le (ts : List (List UInt8)) : ∀ k, lenI (ts.take k) ≤ lenI ts := by
  induction ts with
  | nil => intro k; simp
  | cons t r ih =>
    intro k
    cases k with
    | zero => simp [lenI]
    | succ k => simp only [List.take_succ_cons, lenI]; have := ih k; omega

theorem cat_step (a b : ByteArray) : ∃ c : ByteArray, a ++ b = c ∧ c.size = a.size + b.size ∧ c.data.toList = a.data.toList ++ b.data.toList :=
  ⟨_, rfl, by simp, by simp⟩
end Go.Proofs.Ytplbdciikkpjoaa
