/-
  Walks: the iterator that tries words one behind the other.
-/
import Derived.Test.YtagnikhkmaplpaaGreatPc
import Derived.RangeFuncNested
import Derived.RangeFuncBound
import Derived.RangeFuncCalls
import Derived.RangeFuncLeaves
import Derived.Shelf.Abstract
import Derived.Shelf.RegionOpen
import Derived.OwnWalkIn
import Derived.TacticsInMore
import Derived.LoopNIn
import Derived.LoopIn
import Derived.Sort.QuietIn
namespace Go.Proofs.YtagnikhkmaplpaaGreat
open Go.RowKit Go.Shelf
set_option linter.unusedVariables false

attribute [local go_sem] Oper.semAt_some

/-- What a round that goes on keeps: two blocks. -/
def Two (b c : Nat) (W W' : World) : Prop := W'.heap[b]? = W.heap[b]? ∧ W'.heap[c]? = W.heap[c]?
theorem Two.refl (b c : Nat) (W : World) : Two b c W W := ⟨rfl, rfl⟩
theorem Two.trans {b c : Nat} {A B C : World} (h : Two b c A B) (k : Two b c B C) : Two b c A C := ⟨k.1.trans h.1, k.2.trans h.2⟩
theorem two_b {b c : Nat} {w : World} (hb : b < w.heap.size) (hc : c < w.heap.size) : ∀ (W : World) (l : Nat) (o o' : Obj), w.heap.size ≤ l → W.heap[l]? = some o → o.isCells = false → o.isWalk = false → Two b c W (W.putObj l o') :=
  fun W l o o' hl _ _ _ => ⟨World.putObj_heap_other (by omega), World.putObj_heap_other (by omega)⟩

/-- Words in a block. -/
def WordsAt (W : World) (A : Nat) (ws : List (List UInt8)) : Prop := W.heap[A]? = some (.cells (ws.map fun x => Value.string (ofL x)).toArray 9 (0, 0))
theorem WordsAt.cell {W : World} {A : Nat} {ws : List (List UInt8)} (h : WordsAt W A ws) (i : Nat) (hi : i < ws.length) : W.cell? ⟨A, i, none⟩ = some (.string (ofL ws[i])) :=
  cell_at i h (by simp [hi])

set_option maxRecDepth 100000 in
set_option maxHeartbeats 2000000 in
theorem tries1_in (n : Nat) (hn : 1 ≤ n) (l Bw Br A c : Nat) (r : ByteArray) (hr : r.size ≤ 64) (ws : List (List UInt8)) (hws : ws.length ≤ 64) (hwl : ∀ x ∈ ws, x.length ≤ 64) (J Jx : List (List UInt8) → World → Prop) (B0 : Nat) (hJ : AbidesFrom B0 J)
    (hY : ∀ pre x W, J pre W → pre.length < ws.length → YieldAt Fence.wide (n - 1) Tryz.prog l #[.string (ofL x), .bool (pfxB r.data.toList x)] W fun e W' =>
      (e = .returned (.bool true) ∧ J (pre ++ [x]) W' ∧ Two Br A W W') ∨ (e = .returned (.bool false) ∧ Jx (pre ++ [x]) W'))
    (W : World) (hBw : Boxed W Bw 22 (.slice (some ⟨A, 0, none⟩) ws.length c)) (hBr : Boxed W Br 9 (.string r)) (hA : WordsAt W A ws) (h0 : J [] W) :
    CallsIn Fence.wide n Tryz.prog 117 #[.func (.yield l) #[] #[], .pointer (some ⟨Bw, 0, none⟩), .pointer (some ⟨Br, 0, none⟩)] W fun e W' => (∃ v, e = .returned v) ∧
      ((∃ ys, ys = ws ∧ J ys W') ∨ (∃ pre, pre <+: ws ∧ Jx pre W')) := by
  have cA0 := hBw.cell
  refine callsIn_of_wp Tryz.func117 rfl trivial ?_ rfl
  simp only [Tryz.ntmps117, List.size_toArray, List.length_cons, List.length_nil, Nat.reduceAdd, Nat.reduceSub, Array.replicate_succ, Array.replicate_zero, List.push_toArray, List.append_toArray, List.nil_append, List.cons_append]
  gi_wp2
  gi_loopw [8] (fun i wr => ∃ (k : Nat), k ≤ ws.length ∧ i = .int .i64 k ∧ J (ws.take k) wr ∧ Boxed wr Br 9 (.string r) ∧ WordsAt wr A ws)
    (fun i _ => ws.length - (intOf i).toNat)
  case atStart => exact ⟨0, by omega, rfl, h0, hBr, hA⟩
  case round =>
    obtain ⟨k, hk, rfl, hJs, bR, hAs⟩ := hrel
    have cR := bR.cell
    by_cases hlt : k < ws.length
    · have cW := hAs.cell k hlt
      have hlt' : (k : Int) < (ws.length : Int) := by omega
      have hk0 : (0 : Int) ≤ (k : Int) := by omega
      have hxl := hwl ws[k] (List.getElem_mem hlt)
      have HT := hide (show ws.take (k + 1) = ws.take k ++ [ws[k]] from by rw [List.take_succ_eq_append_getElem hlt])
      obtain ⟨fn, tmps, assign, body, hy, hR⟩ := hY (ws.take k) ws[k] wr hJs (by rw [List.length_take]; omega)
      have HC := hide (HasPrefix_any r (ofL ws[k]) wr (by unfold maxLen; omega) (by rw [ofL_size]; unfold maxLen; omega))
      rw [ofL_data] at HC
      generalize ws[k] = x at *
      gi_wp2_with (refine ⟨trivial, ?_⟩; gi_at_call 86; refine (callsIn_wide.2 HC.out).mono ?_; rintro e w' ⟨rfl, hw'⟩; rw [hw']; clear hw' w')
      refine hR.mono ?_
      rintro e' W3 (⟨rfl, hJ3, hk3⟩ | ⟨rfl, hJx3⟩)
      · rw [← HT.out] at hJ3
        gi_wp2
        go_roundw
        case rel => exact ⟨k + 1, by omega, by go_num, hJ3, hk3.1.trans bR, hk3.2.trans hAs⟩
        case measure => simp [intOf]; omega
      · rw [← HT.out] at hJx3
        gi_wp2
        refine bodyPost_ret (results_none rfl _ _ _) rfl ?_
        exact ⟨⟨_, rfl⟩, .inr ⟨ws.take (k + 1), List.take_prefix _ _, hJx3⟩⟩
    · obtain rfl : k = ws.length := by omega
      rw [List.take_length] at hJs
      gi_wp2
      go_end0
      exact ⟨⟨_, rfl⟩, .inl ⟨ws, rfl, hJs⟩⟩

theorem tries_stops (n : Nat) (hn : 1 ≤ n) (Bw Br A c : Nat) (r : ByteArray) (hr : r.size ≤ 64) (ws : List (List UInt8)) (hws : ws.length ≤ 64) (hwl : ∀ x ∈ ws, x.length ≤ 64) (w : World) (hBw : Boxed w Bw 22 (.slice (some ⟨A, 0, none⟩) ws.length c)) (hBr : Boxed w Br 9 (.string r)) (hA : WordsAt w A ws) :
    SeqStopsK Fence.wide n Tryz.prog 117 #[.pointer (some ⟨Bw, 0, none⟩), .pointer (some ⟨Br, 0, none⟩)] (fun x : List UInt8 => #[Value.string (ofL x), .bool (pfxB r.data.toList x)]) (Two Br A) (fun ys => ys = ws) (fun pre => pre <+: ws) ws.length w := fun l J Jx W hW hJ _ hY h0 =>
  tries1_in n hn l Bw Br A c r hr ws hws hwl J Jx W.heap.size hJ hY W ((hW.block Bw hBw.lt).trans hBw) ((hW.block Br hBr.lt).trans hBr) ((hW.block A (Array.getElem?_eq_some_iff.1 hA).1).trans hA) h0

theorem tries_any (r : ByteArray) (v : Value) (w : World) (a : Option Addr) (n c : Nat) (hv : v = .slice a n c) :
    Calls Tryz.prog 109 #[.string r, v] w fun e w' => e = .returned (.func (.func 117) #[] #[.pointer (some ⟨w.heap.size + 1, 0, none⟩), .pointer (some ⟨w.heap.size, 0, none⟩)]) ∧ w' = (w.alloc (.cells #[.string r] 9)).alloc (.cells #[v] 22) := by
  subst hv
  go_enter Tryz.func109, Tryz.ntmps109
  go_wp2
  go_ret
  exact ⟨rfl, rfl⟩

end Go.Proofs.YtagnikhkmaplpaaGreat
