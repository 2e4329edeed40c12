/-
  Walks: a version, or none, with blanks around; which of two is ahead.
-/
import Derived.Test.YtpedljmpobhimaaDoorHc
namespace Go.Proofs.YtpedljmpobhimaaDoor
open Go.RowKit Go.Shelf
set_option linter.unusedVariables false

theorem ahead_any (s t : ByteArray) (k : Bool) (w : World) (hk : Kn w) :
    Calls Tryd.prog 34 #[.string s, .string t, .bool k] w fun e w' => e = .returned (.bool (aheadL s.data.toList t.data.toList k)) ∧ Below w.heap.size w w' := by
  have CC := hide (CompareT_any s t w hk)
  have hX : aheadL s.data.toList t.data.toList k = (decide (cmpT s.data.toList t.data.toList < 0) || (decide (cmpT s.data.toList t.data.toList = 0) && k)) := rfl
  generalize aheadL s.data.toList t.data.toList k = X at *
  generalize cmpT s.data.toList t.data.toList = C at *
  by_cases h1 : C < 0
  · rw [decide_eq_true h1] at hX
    subst hX
    go_enter Tryd.func34, Tryd.ntmps34
    go_wp2_with fail
    refine CC.out.mono ?_
    rintro e w' ⟨rfl, b1⟩
    go_wp2_with fail
    go_ret
    exact ⟨rfl, b1⟩
  · by_cases h2 : C = 0
    · rw [decide_eq_false h1, decide_eq_true h2] at hX
      subst hX h2
      go_enter Tryd.func34, Tryd.ntmps34
      go_wp2_with fail
      refine CC.out.mono ?_
      rintro e w' ⟨rfl, b1⟩
      go_wp2_with fail
      go_ret
      exact ⟨by simp, b1⟩
    · rw [decide_eq_false h1, decide_eq_false h2] at hX
      have h2' : (C == 0) = false := by simpa using h2
      clear h2
      subst hX
      go_enter Tryd.func34, Tryd.ntmps34
      go_wp2_with fail
      refine CC.out.mono ?_
      rintro e w' ⟨rfl, b1⟩
      go_wp2_with fail
      go_ret
      exact ⟨by simp; omega, b1⟩

/-- A range as a value. -/
def mV (m : Mr) : Value := .agg #[.bool m.hasLo, .string (ofL m.lo), .bool m.loIn, .bool m.hasHi, .string (ofL m.hi), .bool m.hiIn]

set_option maxHeartbeats 1000000 in
theorem rises_any (m : Mr) (w : World) (hk : Kn w) :
    Calls Tryd.prog 43 #[mV m] w fun e w' => e = .returned (.bool (risesL m)) ∧ Below w.heap.size w w' := by
  obtain ⟨hl, lo, li, hh, hi, hin⟩ := m
  have AH := hide (fun (k : Bool) W (hW : Kn W) => (by have := ahead_any (ofL lo) (ofL hi) k W hW; rw [ofL_data, ofL_data] at this; exact this : Calls Tryd.prog 34 #[.string (ofL lo), .string (ofL hi), .bool k] W fun e w' => e = .returned (.bool (aheadL lo hi k)) ∧ Below W.heap.size W w'))
  have b0 := hide (fun o => (Below.refl _ w).alloc (Nat.le_refl _) o)
  have HK := hide hk
  clear hk
  unfold mV risesL
  dsimp only
  cases hl
  · go_enter Tryd.func43, Tryd.ntmps43
    go_wp2_with fail
    go_ret
    exact ⟨rfl, b0.out _⟩
  · cases hh
    · go_enter Tryd.func43, Tryd.ntmps43
      go_wp2_with fail
      go_ret
      exact ⟨rfl, b0.out _⟩
    · cases li <;> cases hin
      all_goals
        go_enter Tryd.func43, Tryd.ntmps43
        go_wp2_with fail
        refine (AH.out _ _ (HK.out.alloc _)).mono ?_
        rintro e w' ⟨rfl, b1⟩
        go_wp2_with fail
        go_ret
        exact ⟨by simp, (b0.out _).trans (b1.mono (b0.out _).size)⟩

set_option maxHeartbeats 1000000 in
theorem parted_any (b m : Mr) (w : World) (hk : Kn w) :
    Calls Tryd.prog 22 #[mV b, mV m] w fun e w' => e = .returned (.bool (partedL b m)) ∧ Below w.heap.size w w' := by
  obtain ⟨bl, blo, bli, bh, bhi, bhin⟩ := b
  obtain ⟨hl, lo, li, hh, hi, hin⟩ := m
  have AH := hide (fun (k : Bool) W (hW : Kn W) => (by have := ahead_any (ofL bhi) (ofL lo) k W hW; rw [ofL_data, ofL_data] at this; exact this : Calls Tryd.prog 34 #[.string (ofL bhi), .string (ofL lo), .bool k] W fun e w' => e = .returned (.bool (aheadL bhi lo k)) ∧ Below W.heap.size W w'))
  have b0 := hide (fun o p => ((Below.refl _ w).alloc (Nat.le_refl _) o).alloc (by simp) p)
  have HK := hide hk
  clear hk
  unfold mV partedL
  dsimp only
  cases bh
  · go_enter Tryd.func22, Tryd.ntmps22
    go_wp2_with fail
    go_ret
    exact ⟨rfl, b0.out _ _⟩
  · cases hl
    · go_enter Tryd.func22, Tryd.ntmps22
      go_wp2_with fail
      go_ret
      exact ⟨rfl, b0.out _ _⟩
    · cases bhin <;> cases li
      all_goals
        go_enter Tryd.func22, Tryd.ntmps22
        go_wp2_with fail
        refine (AH.out _ _ ((HK.out.alloc _).alloc _)).mono ?_
        rintro e w' ⟨rfl, b1⟩
        go_wp2_with fail
        go_ret
        exact ⟨by simp, (b0.out _ _).trans (b1.mono (b0.out _ _).size)⟩

set_option maxHeartbeats 2000000 in
theorem liesIn_any (v : ByteArray) (m : Mr) (w : World) (hk : Kn w) :
    Calls Tryd.prog 39 #[.string v, mV m] w fun e w' => e = .returned (.bool (liesL v.data.toList m)) ∧ Below w.heap.size w w' := by
  obtain ⟨hl, lo, li, hh, hi, hin⟩ := m
  have A1 := hide (fun W (hW : Kn W) => (by have := ahead_any (ofL lo) v li W hW; rw [ofL_data] at this; exact this : Calls Tryd.prog 34 #[.string (ofL lo), .string v, .bool li] W fun e w' => e = .returned (.bool (aheadL lo v.data.toList li)) ∧ Below W.heap.size W w'))
  have A2 := hide (fun W (hW : Kn W) => (by have := ahead_any v (ofL hi) hin W hW; rw [ofL_data] at this; exact this : Calls Tryd.prog 34 #[.string v, .string (ofL hi), .bool hin] W fun e w' => e = .returned (.bool (aheadL v.data.toList hi hin)) ∧ Below W.heap.size W w'))
  have a0 : Below w.heap.size w (w.alloc (.cells #[.bool hl, .string (ofL lo), .bool li, .bool hh, .string (ofL hi), .bool hin] 37)) := (Below.refl _ w).alloc (Nat.le_refl _) _
  have n0 := World.alloc_heap_new w (.cells #[.bool hl, .string (ofL lo), .bool li, .bool hh, .string (ofL hi), .bool hin] 37)
  have hk0 := hk.alloc (.cells #[.bool hl, .string (ofL lo), .bool li, .bool hh, .string (ofL hi), .bool hin] 37)
  have B0 := hide a0
  have N0 := hide n0
  have HK := hide hk0
  clear hk a0 n0 hk0
  unfold mV liesL
  dsimp only
  generalize aheadL lo v.data.toList li = X1 at *
  generalize aheadL v.data.toList hi hin = X2 at *
  cases hl
  · cases hh
    · go_enter Tryd.func39, Tryd.ntmps39
      go_wp2_with fail
      go_ret
      exact ⟨rfl, B0.out⟩
    · go_enter Tryd.func39, Tryd.ntmps39
      go_wp2_with fail
      refine (A2.out _ HK.out).mono ?_
      rintro e w' ⟨rfl, b1⟩
      go_wp2_with fail
      go_ret
      exact ⟨by simp, B0.out.trans (b1.mono B0.out.size)⟩
  · cases X1
    · go_enter Tryd.func39, Tryd.ntmps39
      go_wp2_with fail
      refine (A1.out _ HK.out).mono ?_
      rintro e w' ⟨rfl, b1⟩
      go_wp2_with fail
      go_ret
      exact ⟨by simp, B0.out.trans (b1.mono B0.out.size)⟩
    · cases hh
      · go_enter Tryd.func39, Tryd.ntmps39
        go_wp2_with fail
        refine (A1.out _ HK.out).mono ?_
        rintro e w' ⟨rfl, b1⟩
        have e1 := (b1.block w.heap.size (by simp)).trans N0.out
        have r3 := cell_at 3 e1 rfl
        have hb := hide (B0.out.trans (b1.mono B0.out.size))
        clear b1 e1
        go_wp2_with fail
        go_ret
        exact ⟨by simp, hb.out⟩
      · go_enter Tryd.func39, Tryd.ntmps39
        go_wp2_with fail
        refine (A1.out _ HK.out).mono ?_
        rintro e w1 ⟨rfl, b1⟩
        have e1 := (b1.block w.heap.size (by simp)).trans N0.out
        have r3 := cell_at 3 e1 rfl
        have r4 := cell_at 4 e1 rfl
        have r5 := cell_at 5 e1 rfl
        have hb := hide (B0.out.trans (b1.mono B0.out.size))
        have hk1 := hide (HK.out.below HK.out.pos b1)
        clear b1 e1
        go_wp2_with fail
        refine (A2.out _ hk1.out).mono ?_
        rintro e w2 ⟨rfl, b2⟩
        go_wp2_with fail
        go_ret
        exact ⟨by simp, hb.out.trans (b2.mono hb.out.size)⟩

end Go.Proofs.YtpedljmpobhimaaDoor
