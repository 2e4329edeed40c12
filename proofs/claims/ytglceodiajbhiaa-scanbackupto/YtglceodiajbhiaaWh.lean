/-
  Walks: lines, by the document's answer.
-/
import Derived.Test.YtglceodiajbhiaaWg
import Derived.Test.YtglceodiajbhiaaPlainD
namespace Go.Proofs.Ytglceodiajbhiaa
open Go.RowKit
set_option linter.unusedVariables false

set_option maxHeartbeats 2000000 in
theorem RLines_any (s : ByteArray) (w : World) (hs : s.size ≤ 4000000000000) :
    Calls Try.prog 27 #[.string s] w fun e w' => ∃ v, e = .returned v ∧ w'.ownsRow w.heap.size 41 3 v (linesL s.data.toList).length (lnCells s (linesL s.data.toList)) ∧ Below w.heap.size w w' := by
  obtain ⟨i0, hi, hz0, hz1, hz2⟩ := info_parts Try.info41
  go_enter Try.func27, Try.ntmps27
  go_wp2_with fail
  go_loopw [3, 4, 5] (fun v x y wr => ∃ (a : Nat) (ps : List (Nat × Nat × Nat)), a ≤ s.size + 1 ∧ ps.length ≤ a ∧ x = .int .i64 ((ps.length + 1 : Nat) : Int) ∧ y = .int .i64 a ∧ wr.ownsRow w.heap.size 41 3 v ps.length (lnCells s ps) ∧ Below w.heap.size w wr ∧
      Hid (linesL s.data.toList = ps ++ if a ≤ s.size then lns s.data.toList s.size (cutsA 10 (s.data.toList.drop a) a a) (ps.length + 1) else [])) (fun _ _ y _ => s.size + 1 - (intOf y).toNat)
  case atStart => exact ⟨0, [], by omega, by simp, rfl, rfl, World.ownsRow_nil _ _ _ _, Below.refl _ _, by simp [Hid, linesL, cuts]⟩
  case round =>
    obtain ⟨a, ps, ha, hpl, rfl, rfl, hown, hbel, HR⟩ := hrel
    by_cases hlt : a < s.size
    · go_wp2_with fail
      go_loop [6] (fun e => ∃ j : Nat, a ≤ j ∧ j ≤ s.size ∧ e = .int .i64 j ∧ Hid (cutsA 10 (s.data.toList.drop a) a a = cutsA 10 (s.data.toList.drop j) a j)) (fun e => s.size - (intOf e).toNat)
      case atStart => exact ⟨a, Nat.le_refl _, by omega, rfl, rfl⟩
      case round =>
        obtain ⟨j, hj, hjn, rfl, HJ⟩ := hrel
        by_cases hjl : j < s.size
        · by_cases hc : s[j] = 10
          · have hb10 : ((s[j].toNat : Int) != 10) = false := by rw [hc]; decide
            have HX : Hid _ := cutsA_hit 10 s a j hjl hc
            clear hc
            by_cases haj : a < j
            · obtain ⟨y, rfl⟩ : ∃ y, j = y + 1 := ⟨j - 1, by omega⟩
              have hy : y < s.size := by omega
              by_cases hcr : s[y] = 13
              · have hb : ((s[y].toNat : Int) == 13) = true := by rw [hcr]; decide
                have HZ : Hid (crEnd s.data.toList a (y + 1) = y) := by
                  show _ = _
                  rw [crEnd, if_pos ⟨haj, by rw [Nat.add_sub_cancel, getD_at s y hy]; exact hcr⟩]; rfl
                clear hcr
                go_wp2_with (at_builtin; refine wpList_append_own _ rfl _ _ 35 rfl w.heap.size 41 i0 (.agg #[.string .empty, .int .i64 0, .int .i64 0]) 3 32 Try.underlying35 hi hz0 hz1 hz2 rfl (by decide) _ _ _ rfl (hown.alloc _) ⟨wr.heap.size, 0, none⟩ 1 1 [.string (s.extract a y), .int .i64 (a : Int), .int .i64 ((ps.length : Int) + 1)] rfl rfl (cell_three_new _ _ _ _ _) (three_one _ _ _) (by unfold maxLen; omega) (by omega) (by have := hbel.size; simp; omega) ?_; intro v' w1 hown' hgrow hnn)
                have hbel' := below_grow hown hbel hgrow
                have hown2 : w1.ownsRow w.heap.size 41 3 v' (ps ++ [(a, y, ps.length + 1)]).length (lnCells s (ps ++ [(a, y, ps.length + 1)])) := by
                  rw [lnCells_snoc, List.length_append]; exact hown'
                go_roundw
                case rel => exact ⟨y + 1 + 1, ps ++ [(a, y, ps.length + 1)], by omega, by simp; omega, by simp, by go_num, hown2, hbel', by
        have e1 := HR.out
        rw [if_pos (by omega), HJ.out, HX.out, lns_mid _ _ _ _ _ _ (by omega), HZ.out] at e1
        show _ = _
        rw [e1, if_pos (by omega), List.append_assoc, List.length_append]
        rfl⟩
                case measure => simp [intOf]; omega
              · have hb : ((s[y].toNat : Int) == 13) = false := by
                  have : s[y].toNat ≠ 13 := fun e => hcr (UInt8.toNat_inj.1 e)
                  simp; omega
                have HZ : Hid (crEnd s.data.toList a (y + 1) = y + 1) := by
                  show _ = _
                  rw [crEnd, if_neg (fun g => hcr (by have := g.2; rwa [Nat.add_sub_cancel, getD_at s y hy] at this))]
                clear hcr
                go_wp2_with (at_builtin; refine wpList_append_own _ rfl _ _ 35 rfl w.heap.size 41 i0 (.agg #[.string .empty, .int .i64 0, .int .i64 0]) 3 32 Try.underlying35 hi hz0 hz1 hz2 rfl (by decide) _ _ _ rfl (hown.alloc _) ⟨wr.heap.size, 0, none⟩ 1 1 [.string (s.extract a (y + 1)), .int .i64 (a : Int), .int .i64 ((ps.length : Int) + 1)] rfl rfl (cell_three_new _ _ _ _ _) (three_one _ _ _) (by unfold maxLen; omega) (by omega) (by have := hbel.size; simp; omega) ?_; intro v' w1 hown' hgrow hnn)
                have hbel' := below_grow hown hbel hgrow
                have hown2 : w1.ownsRow w.heap.size 41 3 v' (ps ++ [(a, (y + 1), ps.length + 1)]).length (lnCells s (ps ++ [(a, (y + 1), ps.length + 1)])) := by
                  rw [lnCells_snoc, List.length_append]; exact hown'
                go_roundw
                case rel => exact ⟨y + 1 + 1, ps ++ [(a, (y + 1), ps.length + 1)], by omega, by simp; omega, by simp, by go_num, hown2, hbel', by
        have e1 := HR.out
        rw [if_pos (by omega), HJ.out, HX.out, lns_mid _ _ _ _ _ _ (by omega), HZ.out] at e1
        show _ = _
        rw [e1, if_pos (by omega), List.append_assoc, List.length_append]
        rfl⟩
                case measure => simp [intOf]; omega
            · have HZ : Hid (crEnd s.data.toList a j = j) := by
                show _ = _
                rw [crEnd, if_neg (fun g => haj g.1)]
              go_wp2_with (at_builtin; refine wpList_append_own _ rfl _ _ 35 rfl w.heap.size 41 i0 (.agg #[.string .empty, .int .i64 0, .int .i64 0]) 3 32 Try.underlying35 hi hz0 hz1 hz2 rfl (by decide) _ _ _ rfl (hown.alloc _) ⟨wr.heap.size, 0, none⟩ 1 1 [.string (s.extract a j), .int .i64 (a : Int), .int .i64 ((ps.length : Int) + 1)] rfl rfl (cell_three_new _ _ _ _ _) (three_one _ _ _) (by unfold maxLen; omega) (by omega) (by have := hbel.size; simp; omega) ?_; intro v' w1 hown' hgrow hnn)
              have hbel' := below_grow hown hbel hgrow
              have hown2 : w1.ownsRow w.heap.size 41 3 v' (ps ++ [(a, j, ps.length + 1)]).length (lnCells s (ps ++ [(a, j, ps.length + 1)])) := by
                rw [lnCells_snoc, List.length_append]; exact hown'
              go_roundw
              case rel => exact ⟨j + 1, ps ++ [(a, j, ps.length + 1)], by omega, by simp; omega, by simp, by go_num, hown2, hbel', by
        have e1 := HR.out
        rw [if_pos (by omega), HJ.out, HX.out, lns_mid _ _ _ _ _ _ (by omega), HZ.out] at e1
        show _ = _
        rw [e1, if_pos (by omega), List.append_assoc, List.length_append]
        rfl⟩
              case measure => simp [intOf]; omega
          · have hb10 : ((s[j].toNat : Int) != 10) = true := by
              have : s[j].toNat ≠ 10 := fun e => hc (UInt8.toNat_inj.1 e)
              simp; omega
            have HX : Hid _ := cutsA_miss 10 s a j hjl hc
            clear hc
            go_wp2_with fail
            go_round
            case rel => exact ⟨j + 1, by omega, by omega, by go_num, HJ.out.trans HX.out⟩
            case measure => simp [intOf]; omega
        · have HX : Hid _ := cutsA_end 10 s a j (by omega)
          by_cases haj : a < j
          · obtain ⟨y, rfl⟩ : ∃ y, j = y + 1 := ⟨j - 1, by omega⟩
            have hy : y < s.size := by omega
            by_cases hcr : s[y] = 13
            · have hb : ((s[y].toNat : Int) == 13) = true := by rw [hcr]; decide
              have HZ : Hid (crEnd s.data.toList a (y + 1) = y) := by
                show _ = _
                rw [crEnd, if_pos ⟨haj, by rw [Nat.add_sub_cancel, getD_at s y hy]; exact hcr⟩]; rfl
              clear hcr
              go_wp2_with (at_builtin; refine wpList_append_own _ rfl _ _ 35 rfl w.heap.size 41 i0 (.agg #[.string .empty, .int .i64 0, .int .i64 0]) 3 32 Try.underlying35 hi hz0 hz1 hz2 rfl (by decide) _ _ _ rfl (hown.alloc _) ⟨wr.heap.size, 0, none⟩ 1 1 [.string (s.extract a y), .int .i64 (a : Int), .int .i64 ((ps.length : Int) + 1)] rfl rfl (cell_three_new _ _ _ _ _) (three_one _ _ _) (by unfold maxLen; omega) (by omega) (by have := hbel.size; simp; omega) ?_; intro v' w1 hown' hgrow hnn)
              have hbel' := below_grow hown hbel hgrow
              have hown2 : w1.ownsRow w.heap.size 41 3 v' (ps ++ [(a, y, ps.length + 1)]).length (lnCells s (ps ++ [(a, y, ps.length + 1)])) := by
                rw [lnCells_snoc, List.length_append]; exact hown'
              go_roundw
              case rel => exact ⟨y + 1 + 1, ps ++ [(a, y, ps.length + 1)], by omega, by simp; omega, by simp, by go_num, hown2, hbel', by
        have e1 := HR.out
        rw [if_pos (by omega), HJ.out, HX.out, lns_mid _ _ _ _ _ _ (by omega), HZ.out, lns] at e1
        show _ = _
        rw [e1, if_neg (by omega), List.append_nil]⟩
              case measure => simp [intOf]; omega
            · have hb : ((s[y].toNat : Int) == 13) = false := by
                have : s[y].toNat ≠ 13 := fun e => hcr (UInt8.toNat_inj.1 e)
                simp; omega
              have HZ : Hid (crEnd s.data.toList a (y + 1) = y + 1) := by
                show _ = _
                rw [crEnd, if_neg (fun g => hcr (by have := g.2; rwa [Nat.add_sub_cancel, getD_at s y hy] at this))]
              clear hcr
              go_wp2_with (at_builtin; refine wpList_append_own _ rfl _ _ 35 rfl w.heap.size 41 i0 (.agg #[.string .empty, .int .i64 0, .int .i64 0]) 3 32 Try.underlying35 hi hz0 hz1 hz2 rfl (by decide) _ _ _ rfl (hown.alloc _) ⟨wr.heap.size, 0, none⟩ 1 1 [.string (s.extract a (y + 1)), .int .i64 (a : Int), .int .i64 ((ps.length : Int) + 1)] rfl rfl (cell_three_new _ _ _ _ _) (three_one _ _ _) (by unfold maxLen; omega) (by omega) (by have := hbel.size; simp; omega) ?_; intro v' w1 hown' hgrow hnn)
              have hbel' := below_grow hown hbel hgrow
              have hown2 : w1.ownsRow w.heap.size 41 3 v' (ps ++ [(a, (y + 1), ps.length + 1)]).length (lnCells s (ps ++ [(a, (y + 1), ps.length + 1)])) := by
                rw [lnCells_snoc, List.length_append]; exact hown'
              go_roundw
              case rel => exact ⟨y + 1 + 1, ps ++ [(a, (y + 1), ps.length + 1)], by omega, by simp; omega, by simp, by go_num, hown2, hbel', by
        have e1 := HR.out
        rw [if_pos (by omega), HJ.out, HX.out, lns_mid _ _ _ _ _ _ (by omega), HZ.out, lns] at e1
        show _ = _
        rw [e1, if_neg (by omega), List.append_nil]⟩
              case measure => simp [intOf]; omega
          · exact (haj (by omega)).elim
    · have HE : Hid (linesL s.data.toList = ps) := by
        have e := HR.out
        by_cases h2 : a ≤ s.size
        · have e2 : a = s.size := by omega
          rw [if_pos h2, cutsA_end 10 s a a (by omega), e2, lns_stop, List.append_nil] at e
          exact e
        · rw [if_neg h2, List.append_nil] at e
          exact e
      go_wp2_with fail
      go_ret
      exact ⟨_, rfl, by rw [HE.out]; exact hown, hbel⟩

end Go.Proofs.Ytglceodiajbhiaa
