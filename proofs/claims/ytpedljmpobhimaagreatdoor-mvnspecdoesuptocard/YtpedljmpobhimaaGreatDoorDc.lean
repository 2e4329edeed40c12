/-
  Walks: a token out of its bytes.
-/
import Derived.Test.YtpedljmpobhimaaGreatDoorDb
namespace Go.Proofs.YtpedljmpobhimaaGreatDoor
open Go.RowKit Go.Shelf
set_option linter.unusedVariables false

/-- A token's three cells. -/
theorem three_lies {W : World} {B : Nat} {x0 x1 x2 : Value} (a b c : Value) (h : W.heap[B]? = some (.cells #[x0, x1, x2] 91 (0, 0))) :
    (((W.setCell ⟨B, 0, none⟩ a).setCell ⟨B, 1, none⟩ b).setCell ⟨B, 2, none⟩ c).heap[B]? = some (.cells #[a, b, c] 91 (0, 0)) := by
  have h0 : (W.setCell ⟨B, 0, none⟩ a).heap[B]? = some (.cells #[a, x1, x2] 91 (0, 0)) := set_lies 0 a h
  generalize W.setCell ⟨B, 0, none⟩ a = W0 at *
  have h1 : (W0.setCell ⟨B, 1, none⟩ b).heap[B]? = some (.cells #[a, b, x2] 91 (0, 0)) := set_lies 1 b h0
  exact set_lies 2 c h1
theorem three_below {n B : Nat} (W : World) (h : n ≤ B) (a b c : Value) : Below n W (((W.setCell ⟨B, 0, none⟩ a).setCell ⟨B, 1, none⟩ b).setCell ⟨B, 2, none⟩ c) :=
  (((Below.refl n W).setCell (p := ⟨B, 0, none⟩) h a).setCell (p := ⟨B, 1, none⟩) h b).setCell (p := ⟨B, 2, none⟩) h c
theorem fin51 {R : Ending → World → Prop} (tmps : Array Value) (W : World) (B : Nat) (a b c : Value)
    (h2 : tmps.getD 4 undef = .pointer (some ⟨B, 0, none⟩)) (e1 : W.heap[B]? = some (.cells #[a, b, c] 91 (0, 0)))
    (hR : R (.returned (.agg #[a, b, c])) W) :
    bodyPost Tryz.prog Tryz.f97 R .ret { tmps := tmps, defers := [] } W := by
  have r0 := cell_at 0 e1 rfl
  have r1 := cell_at 1 e1 rfl
  have r2 := cell_at 2 e1 rfl
  rw [Array.getD_eq_getD_getElem?] at h2
  refine ⟨rfl, _, ?_, hR⟩
  simp [results, Tryz.results97, go_sem, h2, r0, r1, r2]
  try rfl

set_option maxRecDepth 100000 in
set_option maxHeartbeats 1000000 in
theorem token_any (s : ByteArray) (turns : Bool) (w : World) (hs : s.size ≤ 64) :
    Calls Tryz.prog 97 #[.string s, .bool turns] w fun e w' => e = .returned (tokV (tokL false s.data.toList turns)) ∧ Below w.heap.size w w' := by
  have eR := World.alloc_heap_new w (.cells #[.bool false, .bool false, .string ⟨#[]⟩] 91)
  have b0 : Below w.heap.size w (w.alloc (.cells #[.bool false, .bool false, .string ⟨#[]⟩] 91)) := (Below.refl _ w).alloc (Nat.le_refl _) _
  by_cases h0 : 0 < s.size
  · have hne := eqE s h0
    have hne' : s.toList.isEmpty = false := by rw [toL]; exact emp s h0
    have HN : Hid (numB s.data.toList = isC (s[0].toNat : Int) 1) := by
      show _ = _
      have := drop_at s 0 h0
      rw [List.drop_zero] at this
      rw [this]; rfl
    cases h1 : isC (s[0].toNat : Int) 1
    · have HV : Hid (tokV (tokL false s.data.toList turns) = .agg #[.bool false, .bool false, .string (ofL (qualL (s.data.toList.map lowC) turns))]) := by
        show _ = _
        unfold tokL tokV
        rw [HN.out, h1]; rfl
      have CL := hide (fun w => Lower_any s w (by unfold maxLen; omega))
      have CQ := fun w => qualifier_any (ofL (s.data.toList.map lowC)) turns w
      rw [ofL_data] at CQ
      have CQ := hide CQ
      generalize tokV (tokL false s.data.toList turns) = TV at *
      generalize ofL (qualL (s.data.toList.map lowC) turns) = Q at *
      generalize ofL (s.data.toList.map lowC) = L at *
      go_enter Tryz.func97, Tryz.ntmps97
      go_wp2_with fail
      refine (Is_any _ _ _).mono ?_
      rintro e w' ⟨rfl, hw'⟩
      rw [hw']; clear hw' w'
      go_wp2_with fail
      refine (CL.out _).mono ?_
      rintro e w1 ⟨rfl, b1⟩
      have eR1 := (b1.block w.heap.size (by simp)).trans eR
      have bw := b0.trans (b1.mono (by simp))
      clear b1
      go_wp2_with fail
      refine (CQ.out _).mono ?_
      rintro e w' ⟨rfl, hw'⟩
      rw [hw']; clear hw' w'
      have z0 := one_free 0 eR1
      have z1 := one_free 1 eR1
      have z2 := one_free 2 eR1
      have r0 := cell_at 0 eR1 rfl
      have r1 := cell_at 1 eR1 rfl
      have r2 := cell_at 2 eR1 rfl
      go_wp2_with fail
      exact fin51 _ _ w.heap.size _ _ _ rfl (three_lies _ _ _ eR1) ⟨by rw [HV.out], bw.trans (three_below _ (Nat.le_refl _) _ _ _)⟩
    · have HV : Hid (tokV (tokL false s.data.toList turns) = .agg #[.bool false, .bool true, .string (ofL (trimL s.data.toList))]) := by
        show _ = _
        unfold tokL tokV
        rw [HN.out, h1]; rfl
      have CT := hide (fun w => Trim_any s w (by unfold maxLen; omega))
      generalize tokV (tokL false s.data.toList turns) = TV at *
      generalize ofL (trimL s.data.toList) = L at *
      go_enter Tryz.func97, Tryz.ntmps97
      go_wp2_with fail
      refine (Is_any _ _ _).mono ?_
      rintro e w' ⟨rfl, hw'⟩
      rw [hw']; clear hw' w'
      go_wp2_with fail
      refine (CT.out _).mono ?_
      rintro e w' ⟨rfl, hw'⟩
      rw [hw']; clear hw' w'
      go_wp2_with fail
      exact fin51 _ _ w.heap.size _ _ _ rfl (World.alloc_heap_new w _) ⟨by rw [HV.out], (Below.refl _ w).alloc (Nat.le_refl _) _⟩
  · obtain rfl := size0 s h0
    have CT := hide (fun w => Trim_any ⟨#[]⟩ w (by unfold maxLen; simp [ByteArray.size]))
    have HV : Hid (tokV (tokL false (⟨#[]⟩ : ByteArray).data.toList turns) = .agg #[.bool false, .bool true, .string (ofL (trimL (⟨#[]⟩ : ByteArray).data.toList))]) := rfl
    generalize tokV (tokL false (⟨#[]⟩ : ByteArray).data.toList turns) = TV at *
    generalize ofL (trimL (⟨#[]⟩ : ByteArray).data.toList) = L at *
    clear h0 hs
    go_enter Tryz.func97, Tryz.ntmps97
    go_wp2_with fail
    refine (CT.out _).mono ?_
    rintro e w' ⟨rfl, hw'⟩
    rw [hw']; clear hw' w'
    go_wp2_with fail
    exact fin51 _ _ w.heap.size _ _ _ rfl (World.alloc_heap_new w _) ⟨by rw [HV.out], (Below.refl _ w).alloc (Nat.le_refl _) _⟩

end Go.Proofs.YtpedljmpobhimaaGreatDoor
