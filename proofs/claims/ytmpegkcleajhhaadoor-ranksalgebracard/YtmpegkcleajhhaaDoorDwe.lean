/-
  Walks: sets of ranks are a Boolean algebra: the law at fit sets.
-/
import Derived.Test.YtmpegkcleajhhaaDoorDwo
namespace Go.Proofs.YtmpegkcleajhhaaDoor.RanksAlgebraP
open Go.RowKit Go.Shelf Go
set_option linter.unusedVariables false
set_option maxRecDepth 100000

set_option maxHeartbeats 4000000 in
theorem core (n : Int) (aa ab ac : Option Addr) (la lb lc ca cb cc : Nat) (fa fb fc : Int → Bool) (w : World) (hA : SetV n w (.slice aa la ca) fa) (hB : SetV n w (.slice ab lb cb) fb) (hC : SetV n w (.slice ac lc cc) fc) (hT : Tab w)
    (F1 : ∀ W, Below w.heap.size w W → Calls Tryd.prog 8 #[.int .i64 n, .slice aa la ca] W fun e w' => e = .returned (.bool true) ∧ Below W.heap.size W w')
    (F2 : ∀ W, Below w.heap.size w W → Calls Tryd.prog 8 #[.int .i64 n, .slice ab lb cb] W fun e w' => e = .returned (.bool true) ∧ Below W.heap.size W w')
    (F3 : ∀ W, Below w.heap.size w W → Calls Tryd.prog 8 #[.int .i64 n, .slice ac lc cc] W fun e w' => e = .returned (.bool true) ∧ Below W.heap.size W w') (h0 : 0 ≤ n) (h1 : n ≤ 65536) (hok : OkRun (opsAt 3 (Tryd.f5.body.getD .skip)) 174 order []) :
    Calls Tryd.prog 5 #[.int .i64 n, .slice aa la ca, .slice ab lb cb, .slice ac lc cc] w fun e w' => e = .returned (.bool true) ∧ Below w.heap.size w w' := by
  have hia := hide hA.inside
  have hib := hide hB.inside
  have hic := hide hC.inside
  have F1 := hide F1
  have F2 := hide F2
  have F3 := hide F3
  have hT := hide hT
  have h0 := hide h0
  have h1 := hide h1
  have hok := hide hok
  have b0 : Below w.heap.size w (w.alloc (.cells #[.int .i64 n] 3)) := (Below.refl _ w).alloc (Nat.le_refl _) _
  have bx0 : Boxed (w.alloc (.cells #[.int .i64 n] 3)) w.heap.size 3 (.int .i64 n) := World.alloc_heap_new w _
  have xa := hide (hA.below b0)
  have xb := hide (hB.below b0)
  have xc := hide (hC.below b0)
  clear hA hB hC
  go_enter Tryd.func5, Tryd.ntmps5
  go_wp2_with fail
  generalize w.alloc (.cells #[.int .i64 n] 3) = w0 at *
  refine (F1.out _ b0).mono ?_
  rintro e w1 ⟨rfl, k1⟩
  have b1 : Below w.heap.size w w1 := b0.trans (k1.mono b0.size)
  have bx1 := boxed_below bx0 k1
  have xa := hide (xa.out.below k1)
  have xb := hide (xb.out.below k1)
  have xc := hide (xc.out.below k1)
  have cn1 := bx1.cell
  clear k1 b0 bx0
  try dsimp only
  go_wp2_with fail
  refine (F2.out _ b1).mono ?_
  rintro e w2 ⟨rfl, k2⟩
  have b2 : Below w.heap.size w w2 := b1.trans (k2.mono b1.size)
  have bx2 := boxed_below bx1 k2
  have xa := hide (xa.out.below k2)
  have xb := hide (xb.out.below k2)
  have xc := hide (xc.out.below k2)
  have cn2 := bx2.cell
  clear k2 b1 bx1 cn1
  try dsimp only
  go_wp2_with fail
  refine (F3.out _ b2).mono ?_
  rintro e w3 ⟨rfl, k3⟩
  have b3 : Below w.heap.size w w3 := b2.trans (k3.mono b2.size)
  have bx3 := boxed_below bx2 k3
  have xa := hide (xa.out.below k3)
  have xb := hide (xb.out.below k3)
  have xc := hide (xc.out.below k3)
  clear k3 b2 bx2 cn2
  try dsimp only
  go_wp2_with fail
  have hD3 : Below w3.heap.size w3 w3.drew := below_drewN _ w3 1
  obtain ⟨s, hs, h8⟩ := run_out
  refine wp_region_noPanic ?_
  refine wp_region_held_drew (ops := (opsAt 3 (Tryd.f5.body.getD .skip))) (S := SB n w.heap.size) rfl (boxed_below bx3 hD3).cell (fun _ => ?_)
  rw [ops_size]
  refine (show wpAnyH _ _ _ _ _ 174 (LLr 174 []) _ _ from order_len ▸ run_sound hT.out h0.out h1.out hia.out hib.out hic.out no_select (fun _ _ _ _ _ h => (h : False).elim) hok.out start s _ _ hs ?_ ?_)
  · refine ⟨rfl, rfl, ?_, b3.trans (hD3.mono b3.size), boxed_below bx3 hD3⟩
    intro d x hx
    unfold start at hx
    simp only [look] at hx
    split at hx
    · rename_i h; subst h; cases hx; exact ⟨_, rfl, (xa.out.below hD3)⟩
    split at hx
    · rename_i h; subst h; cases hx; exact ⟨_, rfl, (xb.out.below hD3)⟩
    split at hx
    · rename_i h; subst h; cases hx; exact ⟨_, rfl, (xc.out.below hD3)⟩
    split at hx
    · rename_i h; subst h; cases hx; exact ⟨_, rfl, rfl⟩
    split at hx
    · rename_i h; subst h; cases hx; exact ⟨_, rfl, rfl⟩
    split at hx
    · rename_i h; subst h; cases hx; exact ⟨_, rfl, rfl⟩
    split at hx
    · rename_i h; subst h; cases hx; exact ⟨_, rfl, rfl⟩
    cases hx
  · intro a' w' hi
    obtain ⟨v, hv, hr⟩ := hi.slots 8 _ h8
    cases hr
    have b4 := hi.below
    have hz := hi.size
    have hf := hi.defers
    obtain ⟨tm, df⟩ := a'
    dsimp only at hv hz hf
    subst hf
    clear hi hs h8 xa xb xc hT h0 h1 hia hib hic
    refine NoPanic.normal ?_
    go_wp2_with fail
    go_ret
    exact ⟨congrArg Ending.returned (by show tm.getD 8 undef = _; rw [Array.getD_eq_getD_getElem?, hv]; rfl), b4⟩

end Go.Proofs.YtmpegkcleajhhaaDoor.RanksAlgebraP
