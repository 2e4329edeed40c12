/-
  Walks: pieces, by the document's answer.
-/
import Derived.Test.YtglceodiajbhiaaWf
import Derived.Test.YtglceodiajbhiaaPlainC
import Derived.Maps.AppendAt
namespace Go.Proofs.Ytglceodiajbhiaa
open Go.RowKit
set_option linter.unusedVariables false

theorem Try.info41 : (Try.prog.info? 41).map (fun i => (i.zero, i.size, i.bytes)) = some (some (.agg #[.string .empty, .int .i64 0, .int .i64 0]), 3, 32) := by kernel_rfl

theorem cell_three_new (w : World) (e : TypeId) (x y z : Value) : ∀ j u, [x, y, z][j]? = some u → (w.alloc (.cells #[x, y, z] e)).cell? ((⟨w.heap.size, 0, none⟩ : Addr).add j) = some u := by
  intro j u hj
  have h := fun j => World.cell?_alloc_mark w #[x, y, z] e (0, 0) j
  match j, hj with
  | 0, hj => simp at hj; subst hj; exact h 0
  | 1, hj => simp at hj; subst hj; exact h 1
  | 2, hj => simp at hj; subst hj; exact h 2

/-- Behind an append onto a row of the call's own: nothing old has turned. -/
theorem below_grow {w wr w1 : World} {v : Value} {n : Nat} {xs : List Value} {o : Obj} (hown : wr.ownsRow w.heap.size 41 3 v n xs) (hbel : Below w.heap.size w wr) (hg : (wr.alloc o).grownBy w1 v.ownBlock) : Below w.heap.size w w1 :=
  Below.grown (hbel.alloc hbel.size o) hg (by have := hbel.size; simp; omega) (fun j hj => (hown.lt _ hj).1)

theorem three_one (x : ByteArray) (a b : Int) : ∀ u ∈ [Value.string x, .int .i64 a, .int .i64 b], u.oneCell' = true := by
  intro u hu
  simp at hu
  rcases hu with rfl | rfl | rfl <;> rfl

set_option maxHeartbeats 1000000 in
theorem RSplit_any (s : ByteArray) (sep : UInt8) (w : World) (hs : s.size ≤ 4000000000000) :
    Calls Try.prog 29 #[.string s, .int .u8 (sep.toNat : Int)] w fun e w' => ∃ v, e = .returned v ∧ w'.ownsRow w.heap.size 41 3 v (cuts sep s.data.toList).length (cutCells s (cuts sep s.data.toList)) ∧ Below w.heap.size w w' := by
  obtain ⟨i0, hi, hz0, hz1, hz2⟩ := info_parts Try.info41
  go_enter Try.func29, Try.ntmps29
  go_wp2_with fail
  go_loopw [5, 6, 7] (fun v y i wr => ∃ (k a : Nat) (ps : List (Nat × Nat)), k ≤ s.size + 1 ∧ a ≤ k ∧ i = .int .i64 k ∧ y = .int .i64 a ∧ ps.length ≤ k ∧ wr.ownsRow w.heap.size 41 3 v ps.length (cutCells s ps) ∧ Below w.heap.size w wr ∧
      Hid (cuts sep s.data.toList = ps ++ if k ≤ s.size then cutsA sep (s.data.toList.drop k) a k else [])) (fun _ _ i _ => s.size + 1 - (intOf i).toNat)
  case atStart => exact ⟨0, 0, [], by omega, by omega, rfl, rfl, by simp, World.ownsRow_nil _ _ _ _, Below.refl _ _, by simp [Hid, cuts]⟩
  case round =>
    obtain ⟨k, a, ps, hk, hak, rfl, rfl, hpl, hown, hbel, HR⟩ := hrel
    by_cases hlt : k < s.size
    · have hne : ((k : Int) == (s.size : Int)) = false := by simp; omega
      by_cases hc : s[k] = sep
      · have hb : ((s[k].toNat : Int) == (sep.toNat : Int)) = true := by rw [hc]; simp
        have HX : Hid _ := cutsA_hit sep s a k hlt hc
        clear hc
        go_wp2_with (at_builtin; refine wpList_append_own _ rfl _ _ 35 rfl w.heap.size 41 i0 (.agg #[.string .empty, .int .i64 0, .int .i64 0]) 3 32 Try.underlying35 hi hz0 hz1 hz2 rfl (by decide) _ _ _ rfl (hown.alloc _) ⟨wr.heap.size, 0, none⟩ 1 1 [.string (s.extract a k), .int .i64 (a : Int), .int .i64 0] rfl rfl (cell_three_new _ _ _ _ _) (three_one _ _ _) (by unfold maxLen; omega) (by omega) (by have := hbel.size; simp; omega) ?_; intro v' w1 hown' hgrow hnn)
        have hbel' := below_grow hown hbel hgrow
        rw [← cutCells_snoc] at hown'
        go_roundw
        case rel => exact ⟨k + 1, k + 1, ps ++ [(a, k)], by omega, by omega, by go_num, by go_num, by simp; omega, by rw [List.length_append]; exact hown', hbel', by
          have e := HR.out
          rw [if_pos (by omega), HX.out] at e
          show _ = _
          rw [e, if_pos (by omega), List.append_assoc]
          rfl⟩
        case measure => simp [intOf]; omega
      · have hb : ((s[k].toNat : Int) == (sep.toNat : Int)) = false := by
          have : s[k].toNat ≠ sep.toNat := fun e => hc (UInt8.toNat_inj.1 e)
          simp; omega
        have HX : Hid _ := cutsA_miss sep s a k hlt hc
        clear hc
        go_wp2_with fail
        go_roundw
        case rel => exact ⟨k + 1, a, ps, by omega, by omega, by go_num, rfl, by omega, hown, hbel, by
          have e := HR.out
          rw [if_pos (by omega), HX.out] at e
          show _ = _
          rw [e, if_pos (by omega)]⟩
        case measure => simp [intOf]; omega
    · by_cases heq : k = s.size
      · have hee : ((k : Int) == (s.size : Int)) = true := by simp; omega
        have HX : Hid _ := cutsA_end sep s a k (by omega)
        have hle : k ≤ s.size := by omega
        have HQ : Hid (s.size = k) := heq.symm
        clear heq
        go_wp2_with (at_builtin; refine wpList_append_own _ rfl _ _ 35 rfl w.heap.size 41 i0 (.agg #[.string .empty, .int .i64 0, .int .i64 0]) 3 32 Try.underlying35 hi hz0 hz1 hz2 rfl (by decide) _ _ _ rfl (hown.alloc _) ⟨wr.heap.size, 0, none⟩ 1 1 [.string (s.extract a k), .int .i64 (a : Int), .int .i64 0] rfl rfl (cell_three_new _ _ _ _ _) (three_one _ _ _) (by unfold maxLen; omega) (by omega) (by have := hbel.size; simp; omega) ?_; intro v' w1 hown' hgrow hnn)
        have hbel' := below_grow hown hbel hgrow
        rw [← cutCells_snoc] at hown'
        go_roundw
        case rel => exact ⟨k + 1, k + 1, ps ++ [(a, k)], by omega, by omega, by go_num, by go_num, by simp; omega, by rw [List.length_append]; exact hown', hbel', by
          have e := HR.out
          rw [if_pos (by omega), HX.out] at e
          show _ = _
          rw [e, if_neg (by omega), List.append_nil]⟩
        case measure => simp [intOf]; omega
      · have HE : Hid (cuts sep s.data.toList = ps) := by
          have e := HR.out
          rw [if_neg (by omega), List.append_nil] at e
          exact e
        go_wp2_with fail
        go_ret
        exact ⟨_, rfl, by rw [HE.out]; exact hown, hbel⟩

end Go.Proofs.Ytglceodiajbhiaa
