/-
  Walks: the document's Parse.
-/
import Derived.Test.YtmcabgjcppnihaaDya
import Derived.Test.YtmcabgjcppnihaaDyb
import Derived.Test.YtmcabgjcppnihaaDyc
import Derived.Test.YtmcabgjcppnihaaDyd
namespace Go.Proofs.Ytmcabgjcppnihaa
open Go.RowKit Go.Shelf
set_option linter.unusedVariables false

set_option maxRecDepth 100000 in
set_option maxHeartbeats 1000000 in
theorem RParse_long (s : ByteArray) (w : World) (hl : 64 < s.size) :
    Calls Try.prog 9 #[.string s] w fun e w' => e = .returned (PResV s.data.toList) ∧ Below w.heap.size w w' := by
  have HP : Hid _ := pres_err (show parseL s.data.toList = .error (12, 64) by unfold parseL; rw [if_pos (by rw [len_data]; exact hl)])
  have hl' : (64 : Int) < (s.size : Int) := by omega
  go_enter Try.func9, Try.ntmps9
  go_wp2_with fail
  refine fin9 _ _ w.heap.size (w.heap.size + 1) ⟨#[]⟩ ⟨#[]⟩ ⟨#[]⟩ false 12 64 rfl rfl ?_ ?_ ?_
  · rw [Below.heap_alloc _ _ _ (by simp)]
    exact World.alloc_heap_new w _
  · have := World.alloc_heap_new (w.alloc (.cells #[.string ⟨#[]⟩, .string ⟨#[]⟩, .string ⟨#[]⟩, .bool false] 23)) (.cells #[.int .i64 12, .int .i64 64] 26)
    rwa [World.size_alloc] at this
  · exact ⟨by rw [HP.out]; rfl, ((Below.refl _ w).alloc (Nat.le_refl _) _).alloc (by simp) _⟩

theorem RParse_any (s : ByteArray) (w : World) :
    Calls Try.prog 9 #[.string s] w fun e w' => e = .returned (PResV s.data.toList) ∧ Below w.heap.size w w' := by
  by_cases hl0 : 64 < s.size
  · exact RParse_long s w hl0
  have hl : ¬ 64 < s.data.toList.length := by rw [len_data]; exact hl0
  have key : ∀ X : Prop, (verE s.data.toList = epS s.data.toList → X) → (relB s.data.toList = true → relE s.data.toList = verE s.data.toList + 1 → X) → (relB s.data.toList = true → relE s.data.toList ≠ verE s.data.toList + 1 → relE s.data.toList < s.data.toList.length → X) →
      (relB s.data.toList = true → relE s.data.toList ≠ verE s.data.toList + 1 → ¬ relE s.data.toList < s.data.toList.length → X) → (relB s.data.toList = false → verE s.data.toList ≠ epS s.data.toList → verE s.data.toList < s.data.toList.length → X) → (verE s.data.toList ≠ epS s.data.toList → ¬ verE s.data.toList < s.data.toList.length → X) → X := by
    intro X k0 k1 k2 k3 k4 k5
    by_cases g1 : verE s.data.toList = epS s.data.toList
    · exact k0 g1
    by_cases g2 : verE s.data.toList < s.data.toList.length
    · cases gr : relB s.data.toList
      · exact k4 gr g1 g2
      by_cases g3 : relE s.data.toList = verE s.data.toList + 1
      · exact k1 gr g3
      by_cases g4 : relE s.data.toList < s.data.toList.length
      · exact k2 gr g3 g4
      · exact k3 gr g3 g4
    · exact k5 g1 g2
  by_cases hr0 : runL 1 s.data.toList = 0
  · exact key _ (RParse_F00 s w hl hr0) (RParse_F01 s w hl hr0) (RParse_F02 s w hl hr0) (RParse_F03 s w hl hr0) (RParse_F04 s w hl hr0) (RParse_F05 s w hl hr0)
  have hr : 0 < runL 1 s.data.toList := by omega
  by_cases hr1 : runL 1 s.data.toList < s.size
  · by_cases hx : (s[runL 1 s.data.toList].toNat : Int) = 58
    · exact key _ (RParse_T0 s w hl hr hr1 hx) (RParse_T1 s w hl hr hr1 hx) (RParse_T2 s w hl hr hr1 hx) (RParse_T3 s w hl hr hr1 hx) (RParse_T4 s w hl hr hr1 hx) (RParse_T5 s w hl hr hr1 hx)
    · exact key _ (RParse_F20 s w hl hr hr1 hx) (RParse_F21 s w hl hr hr1 hx) (RParse_F22 s w hl hr hr1 hx) (RParse_F23 s w hl hr hr1 hx) (RParse_F24 s w hl hr hr1 hx) (RParse_F25 s w hl hr hr1 hx)
  · exact key _ (RParse_F10 s w hl hr hr1) (RParse_F11 s w hl hr hr1) (RParse_F12 s w hl hr hr1) (RParse_F13 s w hl hr hr1) (RParse_F14 s w hl hr hr1) (RParse_F15 s w hl hr hr1)

end Go.Proofs.Ytmcabgjcppnihaa
