/-
  Walks: the program's Sort: texts read, sorted by what they say, and told.
-/
import Derived.Test.YthojcidbhojlhaaSk
import Derived.Test.YthojcidbhojlhaaDi
namespace Go.Proofs.Ythojcidbhojlhaa
open Go.RowKit Go.Shelf
set_option linter.unusedVariables false

/-- A text with what it says, cell by cell. -/
def rdE : Cel (List UInt8) where
  c0 l := ofL l
  c1 l := match parseL l with | .ok v => ofL v.ep | .error _ => ⟨#[]⟩
  c2 l := match parseL l with | .ok v => ofL v.up | .error _ => ⟨#[]⟩
  c3 l := match parseL l with | .ok v => ofL v.rev | .error _ => ⟨#[]⟩
  c4 l := match parseL l with | .ok _ => true | .error _ => false
theorem rdE_val (l : List UInt8) : rdE.val l = readV l := by
  unfold Cel.val readV rdE
  dsimp only
  cases parseL l <;> rfl
theorem turn_alloc {B : Nat} {w W : World} (h : Turn B w W) (o : Obj) : Turn B w (W.alloc o) := h.alloc o

set_option maxRecDepth 100000 in
set_option maxHeartbeats 1000000 in
/-- The comparing closure. -/
theorem cmpG_any (w0 : World) (B Bo : Nat) (hBo : Bo ≠ B) (ho : Boxed w0 Bo 35 (.func (.func 46) #[] #[])) : CmpG rdE cmpT (.pointer (some ⟨Bo, 0, none⟩)) w0 B := by
  intro W hW x y
  have ho' : Boxed W Bo 35 (.func (.func 46) #[] #[]) := (hW.block Bo ho.lt hBo).trans ho
  have lo := ho'.lt
  have CR := fun w => compareR_any x y w
  rw [← rdE_val, ← rdE_val] at CR
  unfold Cel.val at CR ⊢
  have CR := hide CR
  have co := ho'.cell
  have lo1 : Bo < W.heap.size + 1 := by omega
  have b0 := hide (((Below.refl _ W).alloc (Nat.le_refl _) (.cells #[.string (rdE.c0 x), .string (rdE.c1 x), .string (rdE.c2 x), .string (rdE.c3 x), .bool (rdE.c4 x)] 72)).alloc (by simp) (.cells #[.string (rdE.c0 y), .string (rdE.c1 y), .string (rdE.c2 y), .string (rdE.c3 y), .bool (rdE.c4 y)] 72))
  clear ho ho'
  go_enter Try.func64, Try.ntmps64
  go_wp2_with fail
  refine (CR.out _).mono ?_
  rintro e w1 ⟨rfl, b1⟩
  go_wp2_with fail
  go_ret
  exact ⟨rfl, b0.out.trans (b1.mono b0.out.size)⟩

end Go.Proofs.Ythojcidbhojlhaa
