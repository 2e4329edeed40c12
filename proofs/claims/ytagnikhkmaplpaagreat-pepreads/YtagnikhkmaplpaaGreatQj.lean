/-
  Walks: the word of a pre-release's letter; what the texts of versions are made of.
-/
import Derived.Test.YtagnikhkmaplpaaGreatQi
import Derived.Test.YtagnikhkmaplpaaGreatPu
namespace Go.Proofs.YtagnikhkmaplpaaGreat
open Go.RowKit Go.Shelf
set_option linter.unusedVariables false

set_option maxRecDepth 100000 in
set_option maxHeartbeats 400000 in
theorem preWord_98 (w : World) : Calls Tryz.prog 47 #[.int .u8 98] w fun e w' => e = .returned (.string ⟨#[98]⟩) ∧ Below w.heap.size w w' := by
  have bb := (Below.refl _ w).alloc (Nat.le_refl _) (.cells #[.int .u8 98] 5)
  have hy : Bys (w.alloc (.cells #[.int .u8 98] 5)) w.heap.size [98] := by
    have e := World.alloc_heap_new w (.cells #[.int .u8 98] 5)
    refine ⟨fun i hi => ?_, fun i hi => one_free i e⟩
    match i, hi with
    | 0, _ => exact cell_at 0 e rfl
  have hback := hy.back (P := Tryz.prog) 66 9 5 1 Tryz.underlying66 Tryz.underlying5 Tryz.underlying9
  have hlen : ([98] : List UInt8).length = 1 := rfl
  rw [hlen] at hback
  go_enter Tryz.func47, Tryz.ntmps47
  go_wp2_with fail
  go_ret
  exact ⟨rfl, bb⟩

set_option maxRecDepth 100000 in
set_option maxHeartbeats 400000 in
theorem preWord_114 (w : World) : Calls Tryz.prog 47 #[.int .u8 114] w fun e w' => e = .returned (.string ⟨#[114, 99]⟩) ∧ Below w.heap.size w w' := by
  go_enter Tryz.func47, Tryz.ntmps47
  go_wp2_with fail
  go_ret
  exact ⟨rfl, Below.refl _ _⟩
theorem preWord_any (c : Int) (h : c = 97 ∨ c = 98 ∨ c = 114) (w : World) : Calls Tryz.prog 47 #[.int .u8 c] w fun e w' => e = .returned (.string (ofL (preW c))) ∧ Below w.heap.size w w' := by
  rcases h with rfl | rfl | rfl
  · exact preWord_97 w
  · exact preWord_98 w
  · exact preWord_114 w
theorem preW_len (c : Int) : (preW c).length ≤ 2 := by unfold preW; (repeat' split) <;> simp
theorem catB (T lit : ByteArray) (r : List UInt8) : ∃ t1 t2 : ByteArray, lit ++ ofL r = t1 ∧ T ++ t1 = t2 ∧ t1.size = lit.size + r.length ∧ t2.size = T.size + (lit.size + r.length) ∧ t2.data.toList = T.data.toList ++ (lit.data.toList ++ r) := by
  obtain ⟨t1, e1, s1, d1⟩ := cat_step lit (ofL r)
  obtain ⟨t2, e2, s2, d2⟩ := cat_step T t1
  refine ⟨t1, t2, e1, e2, ?_, ?_, ?_⟩
  · rw [s1, ofL_size]
  · rw [s2, s1, ofL_size]
  · rw [d2, d1, ofL_data]

end Go.Proofs.YtagnikhkmaplpaaGreat
