/-
  Walks: the iterator over identifiers, for every loop body that keeps the two boxes that it reads.
-/
import Derived.Test.YtkngmgdcnplkgaaSa
import Derived.RangeFuncNested
import Derived.RangeFuncBound
import Derived.RangeFuncCalls
import Derived.RangeFuncLeaves
import Derived.Shelf.Abstract
import Derived.Shelf.RegionOpen
import Derived.OwnWalkIn
import Derived.TacticsInMore
import Derived.LoopNIn
import Derived.LoopIn
import Derived.Sort.QuietIn
namespace Go.Proofs.Ytkngmgdcnplkgaa
open Go.RowKit Go.Shelf
set_option linter.unusedVariables false

attribute [local go_sem] Oper.semAt_some

/-- What a round that goes on keeps: two blocks. -/
def Two (b c : Nat) (W W' : World) : Prop := W'.heap[b]? = W.heap[b]? ∧ W'.heap[c]? = W.heap[c]?
theorem Two.refl (b c : Nat) (W : World) : Two b c W W := ⟨rfl, rfl⟩
theorem Two.trans {b c : Nat} {A B C : World} (h : Two b c A B) (k : Two b c B C) : Two b c A C := ⟨k.1.trans h.1, k.2.trans h.2⟩
theorem Two.boxed {b c : Nat} {W W' : World} (h : Two b c W W') {t u : TypeId} {x y : Value} (hb : Boxed W b t x) (hc : Boxed W c u y) : Boxed W' b t x ∧ Boxed W' c u y := ⟨h.1.trans hb, h.2.trans hc⟩

set_option maxRecDepth 100000 in
set_option maxHeartbeats 2000000 in
theorem ids1_in (n : Nat) (hn : 1 ≤ n) (l Ba Bs : Nat) (s : ByteArray) (a : Nat) (ha : a ≤ s.size) (hs : s.size ≤ 4000000000000) (J Jx : List (Nat × Nat) → World → Prop) (B0 : Nat) (hJ : AbidesFrom B0 J)
    (hY : ∀ pre x W, J pre W → pre.length < (segs s.data.toList a).length → YieldAt Fence.wide (n - 1) Try.prog l #[.string (s.extract x.1 x.2), .int .i64 (x.2 : Int)] W fun e W' =>
      (e = .returned (.bool true) ∧ J (pre ++ [x]) W' ∧ Two Ba Bs W W') ∨ (e = .returned (.bool false) ∧ Jx (pre ++ [x]) W'))
    (W : World) (hBa : Boxed W Ba 3 (.int .i64 (a : Int))) (hBs : Boxed W Bs 9 (.string s)) (h0 : J [] W) :
    CallsIn Fence.wide n Try.prog 55 #[.func (.yield l) #[] #[], .pointer (some ⟨Ba, 0, none⟩), .pointer (some ⟨Bs, 0, none⟩)] W fun e W' => (∃ v, e = .returned v) ∧
      ((∃ ys, ys = segs s.data.toList a ∧ J ys W') ∨ (∃ pre, pre <+: segs s.data.toList a ∧ Jx pre W')) := by
  have cA0 := hBa.cell
  refine callsIn_of_wp Try.func55 rfl trivial ?_ rfl
  simp only [Try.ntmps55, List.size_toArray, List.length_cons, List.length_nil, Nat.reduceAdd, Nat.reduceSub, Array.replicate_succ, Array.replicate_zero, List.push_toArray, List.append_toArray, List.nil_append, List.cons_append]
  gi_wp2
  gi_loopw [4] (fun i wr => ∃ (k : Nat) (pre : List (Nat × Nat)), k ≤ s.size ∧ i = .int .i64 k ∧ J pre wr ∧ Boxed wr Ba 3 (.int .i64 (a : Int)) ∧ Boxed wr Bs 9 (.string s) ∧
      Hid (segs s.data.toList a = pre ++ segs s.data.toList k))
    (fun i _ => s.size - (intOf i).toNat)
  case atStart => exact ⟨a, [], ha, rfl, h0, hBa, hBs, rfl⟩
  case round =>
    obtain ⟨k, pre, hk, rfl, hJs, bA, bS, HR⟩ := hrel
    have cS := bS.cell
    have hle := idL_drop_le s k hk
    have C := identifierEnd_any s k wr (by omega) hk
    have hD := segs_dot s.data.toList k _ rfl
    have hL := segs_last s.data.toList k _ rfl
    have hke : k ≤ k + idL (s.data.toList.drop k) := by omega
    generalize k + idL (s.data.toList.drop k) = e at *
    have HC := hide C
    clear C
    by_cases hlt : e < s.size
    · have hne : ((e : Int) == (s.size : Int)) = false := by simp; omega
      rw [at_some s e hlt] at hD hL
      by_cases hc : s[e] = 46
      · have hb : ((s[e].toNat : Int) != 46) = false := by rw [hc]; rfl
        have HX := hide (hD (by rw [hc]))
        clear hc hD hL
        obtain ⟨fn, tmps, assign, body, hy, hR⟩ := hY pre (k, e) wr hJs (by rw [HR.out, HX.out]; simp)
        dsimp only at hy
        gi_wp2_with (refine ⟨trivial, ?_⟩; gi_at_call 56; refine (callsIn_wide.2 HC.out).mono ?_; rintro e w' ⟨rfl, hw'⟩; rw [hw']; clear hw' w')
        refine hR.mono ?_
        rintro e' W3 (⟨rfl, hJ3, hk3⟩ | ⟨rfl, hJx3⟩)
        · obtain ⟨bA3, bS3⟩ := hk3.boxed bA bS
          clear cS
          have cS := bS3.cell
          gi_wp2
          go_roundw
          case rel => exact ⟨e + 1, pre ++ [(k, e)], by omega, by go_num, hJ3, bA3, bS3, by rw [HR.out, HX.out]; simp [Hid]⟩
          case measure => simp [intOf]; omega
        · gi_wp2
          refine bodyPost_ret (results_none rfl _ _ _) rfl ?_
          exact ⟨⟨_, rfl⟩, .inr ⟨pre ++ [(k, e)], by rw [HR.out, HX.out]; exact ⟨_, by simp; rfl⟩, hJx3⟩⟩
      · have hb : ((s[e].toNat : Int) != 46) = true := by have := ne_byte (k := 46) (by omega) hc; simpa [bne] using this
        have HX := hide (hL (by simpa using hc))
        clear hc hD hL
        obtain ⟨fn, tmps, assign, body, hy, hR⟩ := hY pre (k, e) wr hJs (by rw [HR.out, HX.out]; simp)
        dsimp only at hy
        gi_wp2_with (refine ⟨trivial, ?_⟩; gi_at_call 56; refine (callsIn_wide.2 HC.out).mono ?_; rintro e w' ⟨rfl, hw'⟩; rw [hw']; clear hw' w')
        refine hR.mono ?_
        rintro e' W3 (⟨rfl, hJ3, hk3⟩ | ⟨rfl, hJx3⟩)
        · obtain ⟨bA3, bS3⟩ := hk3.boxed bA bS
          clear cS
          have cS := bS3.cell
          gi_wp2
          refine bodyPost_ret (results_none rfl _ _ _) rfl ?_
          exact ⟨⟨_, rfl⟩, .inl ⟨pre ++ [(k, e)], by rw [HR.out, HX.out], hJ3⟩⟩
        · gi_wp2
          refine bodyPost_ret (results_none rfl _ _ _) rfl ?_
          exact ⟨⟨_, rfl⟩, .inr ⟨pre ++ [(k, e)], by rw [HR.out, HX.out]; exact List.prefix_refl _, hJx3⟩⟩
    · have hne : ((e : Int) == (s.size : Int)) = true := by simp; omega
      rw [at_none s e hlt] at hD hL
      have HX := hide (hL (by simp))
      clear hD hL
      obtain ⟨fn, tmps, assign, body, hy, hR⟩ := hY pre (k, e) wr hJs (by rw [HR.out, HX.out]; simp)
      dsimp only at hy
      gi_wp2_with (refine ⟨trivial, ?_⟩; gi_at_call 56; refine (callsIn_wide.2 HC.out).mono ?_; rintro e w' ⟨rfl, hw'⟩; rw [hw']; clear hw' w')
      refine hR.mono ?_
      rintro e' W3 (⟨rfl, hJ3, hk3⟩ | ⟨rfl, hJx3⟩)
      · obtain ⟨bA3, bS3⟩ := hk3.boxed bA bS
        clear cS
        have cS := bS3.cell
        gi_wp2
        refine bodyPost_ret (results_none rfl _ _ _) rfl ?_
        exact ⟨⟨_, rfl⟩, .inl ⟨pre ++ [(k, e)], by rw [HR.out, HX.out], hJ3⟩⟩
      · gi_wp2
        refine bodyPost_ret (results_none rfl _ _ _) rfl ?_
        exact ⟨⟨_, rfl⟩, .inr ⟨pre ++ [(k, e)], by rw [HR.out, HX.out]; exact List.prefix_refl _, hJx3⟩⟩

theorem ids_stops (n : Nat) (hn : 1 ≤ n) (Ba Bs : Nat) (s : ByteArray) (a : Nat) (ha : a ≤ s.size) (hs : s.size ≤ 4000000000000) (w : World) (hBa : Boxed w Ba 3 (.int .i64 (a : Int))) (hBs : Boxed w Bs 9 (.string s)) :
    SeqStopsK Fence.wide n Try.prog 55 #[.pointer (some ⟨Ba, 0, none⟩), .pointer (some ⟨Bs, 0, none⟩)] (fun x : Nat × Nat => #[Value.string (s.extract x.1 x.2), .int .i64 (x.2 : Int)]) (Two Ba Bs) (fun ys => ys = segs s.data.toList a) (fun pre => pre <+: segs s.data.toList a) (segs s.data.toList a).length w := fun l J Jx W hW hJ _ hY h0 =>
  ids1_in n hn l Ba Bs s a ha hs J Jx W.heap.size hJ hY W ((hW.block Ba hBa.lt).trans hBa) ((hW.block Bs hBs.lt).trans hBs) h0

set_option maxHeartbeats 400000 in
theorem identifiers_any (s : ByteArray) (a : Int) (w : World) :
    Calls Try.prog 30 #[.string s, .int .i64 a] w fun e w' => e = .returned (.func (.func 55) #[] #[.pointer (some ⟨w.heap.size + 1, 0, none⟩), .pointer (some ⟨w.heap.size, 0, none⟩)]) ∧ w' = (w.alloc (.cells #[.string s] 9)).alloc (.cells #[.int .i64 a] 3) := by
  go_enter Try.func30, Try.ntmps30
  go_wp2
  go_ret
  exact ⟨rfl, rfl⟩

theorem two_b {b c : Nat} {w : World} (hb : b < w.heap.size) (hc : c < w.heap.size) : ∀ (W : World) (l : Nat) (o o' : Obj), w.heap.size ≤ l → W.heap[l]? = some o → o.isCells = false → o.isWalk = false → Two b c W (W.putObj l o') :=
  fun W l o o' hl _ _ _ => ⟨World.putObj_heap_other (by omega), World.putObj_heap_other (by omega)⟩

end Go.Proofs.Ytkngmgdcnplkgaa
