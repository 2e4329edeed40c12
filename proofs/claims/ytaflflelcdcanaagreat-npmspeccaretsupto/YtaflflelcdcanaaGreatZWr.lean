/-
  The document's answer: the version with one part raised. · The walk of SemverWrites.
-/
import Derived.Test.YtaflflelcdcanaaGreatZFf
import Derived.Test.YtaflflelcdcanaaGreatZFe
import Derived.Test.YtaflflelcdcanaaGreatZBa
import Derived.Deep.RegionHeld3
namespace Go.Proofs.YtaflflelcdcanaaGreat
open Go.RowKit Go.Shelf
set_option linter.unusedVariables false

theorem rnext_ofL (a : List UInt8) (w : World) (ha : a.length ≤ 9223372036854775805) :
    Calls Tryz.prog 155 #[.string (ofL a)] w fun e w' => e = .returned (.string (ofL (nextL a))) ∧ Below w.heap.size w w' := by
  have := RNext_any (ofL a) w (by rw [ofL_size]; exact ha)
  rw [ofL_data] at this
  exact this
theorem rais_len (x : SemL) (p : Int) (h : lenS x ≤ 64) : lenS (rais x p) ≤ 1048576 := by
  have n1 := nextL_len x.maj
  have n2 := nextL_len x.min
  have n3 := nextL_len x.pat
  unfold lenS at h
  unfold rais
  split
  · simp only [lenS, lenI, List.length_cons, List.length_nil]; omega
  · split
    · simp only [lenS, lenI, List.length_cons, List.length_nil]; omega
    · simp only [lenS, lenI]; omega

end Go.Proofs.YtaflflelcdcanaaGreat

namespace Go.Proofs.YtaflflelcdcanaaGreat
open Go.RowKit Go.Shelf
set_option linter.unusedVariables false

theorem nextW_short (x : SemL) (p : Int) (h1 : x.maj.length ≤ 140737488355328) (h2 : x.min.length ≤ 140737488355328) (h3 : x.pat.length ≤ 140737488355328) : ShortS (nextW x p) := by
  have hn : ShortS semN := ⟨by simp [semN], by simp [semN], by simp [semN], ⟨by simp [semN], by simp [semN]⟩, ⟨by simp [semN], by simp [semN]⟩⟩
  unfold nextW
  split
  · split
    · split
      · exact rais_short x p h1 h2 h3
      · exact hn
    · exact hn
  · exact hn

end Go.Proofs.YtaflflelcdcanaaGreat
