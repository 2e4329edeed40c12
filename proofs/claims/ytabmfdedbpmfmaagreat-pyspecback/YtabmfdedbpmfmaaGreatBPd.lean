/-
  Walks: a sign that is skipped, the epoch. · Walks: the iterator that tries words one behind the other.
-/
import Derived.Test.YtabmfdedbpmfmaaGreatBPb
import Derived.RangeFuncNested
import Derived.RangeFuncBound
import Derived.RangeFuncCalls
import Derived.RangeFuncLeaves
import Derived.Shelf.Abstract
import Derived.Shelf.RegionOpen
import Derived.OwnWalkIn
import Derived.TacticsInMore
import Derived.LoopNIn
import Derived.LoopIn
import Derived.Sort.QuietIn
namespace Go.Proofs.YtabmfdedbpmfmaaGreat
open Go.RowKit Go.Shelf
set_option linter.unusedVariables false

def skipP (l : List UInt8) (a : Nat) (p : List UInt8) : Nat := if pfxB (l.drop a) p then a + p.length else a
theorem skip_le (l : List UInt8) (a : Nat) (p : List UInt8) (h : a ≤ l.length) : a ≤ skipP l a p ∧ skipP l a p ≤ l.length := by
  unfold skipP
  split
  · rename_i hp
    have := (List.isPrefixOf_iff_prefix.1 hp).length_le
    rw [List.length_drop] at this
    omega
  · omega

set_option maxHeartbeats 1000000 in
theorem skip_any (B : Nat) (s p : ByteArray) (a : Nat) (w : World) (h : RdAt w B s a) (ha : a ≤ s.size) (hs : s.size ≤ 64) (hp : p.size ≤ 64) :
    Calls Tryz.prog 120 #[.pointer (some ⟨B, 0, none⟩), .string p] w fun r w' => r = .returned (.bool (pfxB (s.data.toList.drop a) p.data.toList)) ∧ RdAt w' B s (skipP s.data.toList a p.data.toList) ∧ Turn B w w' := by
  have R1 := hide (rest_any B s a w h ha)
  have H := hide h
  have P1 := hide (fun W => HasPrefix_any (ofL (s.data.toList.drop a)) p W (by rw [ofL_size, List.length_drop, len_data]; unfold maxLen; omega) (by unfold maxLen; omega))
  rw [ofL_data] at P1
  have HS : Hid (skipP s.data.toList a p.data.toList = if pfxB (s.data.toList.drop a) p.data.toList then a + p.size else a) := by show _ = _; unfold skipP; rw [len_data]
  generalize skipP s.data.toList a p.data.toList = X at *
  generalize pfxB (s.data.toList.drop a) p.data.toList = D at *
  generalize ofL (s.data.toList.drop a) = T at *
  obtain ⟨c0, c1, f1⟩ := h.seen
  clear h
  cases D
  · have hX := HS.out.trans (if_neg (by simp))
    subst hX
    go_enter Tryz.func120, Tryz.ntmps120
    go_wp2_with fail
    refine R1.out.mono ?_
    rintro r w1 ⟨rfl, n1, rfl⟩
    go_wp2_with fail
    refine (P1.out _).mono ?_
    rintro r w2 ⟨rfl, rfl⟩
    go_wp2_with fail
    go_ret
    exact ⟨rfl, H.out.drewN _, Turn.drewN _ _ _⟩
  · have hX := HS.out.trans (if_pos rfl)
    subst hX
    go_enter Tryz.func120, Tryz.ntmps120
    go_wp2_with fail
    refine R1.out.mono ?_
    rintro r w1 ⟨rfl, n1, rfl⟩
    go_wp2_with fail
    refine (P1.out _).mono ?_
    rintro r w2 ⟨rfl, rfl⟩
    go_wp2_with fail
    go_ret
    exact ⟨rfl, (H.out.drewN _).place (a + p.size), (Turn.drewN _ _ _).trans (Turn.set _ _ _ _)⟩

def epoB (l : List UInt8) (a : Nat) : Bool := hasB (l.drop a) && digB (cutB (l.drop a))
def epoT (l : List UInt8) (a : Nat) : List UInt8 := if epoB l a then trimL (cutB (l.drop a)) else [48]
def epoP (l : List UInt8) (a : Nat) : Nat := if epoB l a then a + ((cutB (l.drop a)).length + 1) else a
theorem epo_le (l : List UInt8) (a : Nat) (h : a ≤ l.length) : a ≤ epoP l a ∧ epoP l a ≤ l.length := by
  unfold epoP
  split
  · rename_i he
    unfold epoB hasB at he
    simp only [Bool.and_eq_true, decide_eq_true_eq] at he
    have hge := Lib.indexByte_ge (l.drop a) 33
    obtain ⟨i, hi⟩ := Int.eq_ofNat_of_zero_le (show 0 ≤ Lib.indexByte (l.drop a) 33 by have := he.1; omega)
    obtain ⟨h1, h2⟩ := cutB_some _ i hi
    rw [h1, List.length_take]
    rw [List.length_drop] at h2 ⊢
    omega
  · omega
theorem cutB_len (l : List UInt8) : (cutB l).length ≤ l.length := (List.takeWhile_prefix _).length_le

set_option maxHeartbeats 1000000 in
theorem epoch_any (B : Nat) (s : ByteArray) (a : Nat) (w : World) (h : RdAt w B s a) (ha : a ≤ s.size) (hs : s.size ≤ 64) :
    Calls Tryz.prog 121 #[.pointer (some ⟨B, 0, none⟩)] w fun r w' => r = .returned (.string (ofL (epoT s.data.toList a))) ∧ RdAt w' B s (epoP s.data.toList a) ∧ Turn B w w' := by
  have hB := h.lt
  have R1 := hide (rest_any B s a w h ha)
  have H := hide h
  have hcl := cutB_len (s.data.toList.drop a)
  rw [List.length_drop, len_data] at hcl
  have C1 := hide (fun W => CutS_bang (ofL (s.data.toList.drop a)) W (by rw [ofL_size, List.length_drop, len_data]; omega))
  rw [ofL_data] at C1
  have D1 := hide (fun W => isDigits_any (ofL (cutB (s.data.toList.drop a))) W (by rw [ofL_size]; unfold maxLen; omega))
  rw [ofL_data] at D1
  have T1 := hide (fun W => Trim_any (ofL (cutB (s.data.toList.drop a))) W (by rw [ofL_size]; unfold maxLen; omega))
  rw [ofL_data] at T1
  have HB : Hid (epoB s.data.toList a = (hasB (s.data.toList.drop a) && digB (cutB (s.data.toList.drop a)))) := rfl
  have HT : Hid (epoT s.data.toList a = if epoB s.data.toList a then trimL (cutB (s.data.toList.drop a)) else [48]) := rfl
  have HP : Hid (epoP s.data.toList a = if epoB s.data.toList a then a + ((cutB (s.data.toList.drop a)).length + 1) else a) := rfl
  have hsz := ofL_size (cutB (s.data.toList.drop a))
  generalize epoT s.data.toList a = ET at *
  generalize epoP s.data.toList a = EP at *
  generalize epoB s.data.toList a = EB at *
  generalize hasB (s.data.toList.drop a) = hb at *
  generalize digB (cutB (s.data.toList.drop a)) = db at *
  generalize trimL (cutB (s.data.toList.drop a)) = TT at *
  generalize ofL (cutB (s.data.toList.drop a)) = CC at *
  generalize (cutB (s.data.toList.drop a)).length = cl at *
  generalize ofL (s.data.toList.drop a) = RR at *
  clear h
  cases hb
  · have he : EB = false := HB.out
    have hT := HT.out
    have hP := HP.out
    rw [he, if_neg (by simp)] at hT hP
    subst hT
    subst hP
    go_enter Tryz.func121, Tryz.ntmps121
    go_wp2_with fail
    refine R1.out.mono ?_
    rintro r w1 ⟨rfl, n1, hw1⟩
    have H1 := hide (H.out.drewN n1)
    have t1 := Turn.drewN B w n1
    rw [← hw1] at H1 t1
    clear hw1
    go_wp2_with fail
    refine (C1.out _).mono ?_
    rintro r w2 ⟨⟨u, rfl⟩, b2⟩
    have H2 := hide (H1.out.below b2)
    have t2 := t1.trans (Turn.ofBelow b2)
    obtain ⟨c0, c1, f1⟩ := H2.out.seen

    go_wp2_with fail
    go_ret
    exact ⟨rfl, H2.out, t2⟩
  · cases db
    · have he : EB = false := HB.out
      have hT := HT.out
      have hP := HP.out
      rw [he, if_neg (by simp)] at hT hP
      subst hT
      subst hP
      go_enter Tryz.func121, Tryz.ntmps121
      go_wp2_with fail
      refine R1.out.mono ?_
      rintro r w1 ⟨rfl, n1, hw1⟩
      have H1 := hide (H.out.drewN n1)
      have t1 := Turn.drewN B w n1
      rw [← hw1] at H1 t1
      clear hw1
      go_wp2_with fail
      refine (C1.out _).mono ?_
      rintro r w2 ⟨⟨u, rfl⟩, b2⟩
      have H2 := hide (H1.out.below b2)
      have t2 := t1.trans (Turn.ofBelow b2)
      obtain ⟨c0, c1, f1⟩ := H2.out.seen

      go_wp2_with fail
      refine (D1.out _).mono ?_
      rintro r w3 ⟨rfl, hw3⟩
      rw [hw3]
      clear hw3 w3
      go_wp2_with fail
      go_ret
      exact ⟨rfl, H2.out, t2⟩
    · have he : EB = true := HB.out
      have hT := HT.out
      have hP := HP.out
      rw [he, if_pos rfl] at hT hP
      subst hP
      go_enter Tryz.func121, Tryz.ntmps121
      go_wp2_with fail
      refine R1.out.mono ?_
      rintro r w1 ⟨rfl, n1, hw1⟩
      have H1 := hide (H.out.drewN n1)
      have t1 := Turn.drewN B w n1
      rw [← hw1] at H1 t1
      clear hw1
      go_wp2_with fail
      refine (C1.out _).mono ?_
      rintro r w2 ⟨⟨u, rfl⟩, b2⟩
      have H2 := hide (H1.out.below b2)
      have t2 := t1.trans (Turn.ofBelow b2)
      obtain ⟨c0, c1, f1⟩ := H2.out.seen

      go_wp2_with fail
      refine (D1.out _).mono ?_
      rintro r w3 ⟨rfl, hw3⟩
      rw [hw3]
      clear hw3 w3
      go_wp2_with fail
      refine (T1.out _).mono ?_
      rintro r w4 ⟨rfl, hw4⟩
      rw [hw4]
      clear hw4 w4
      go_wp2_with fail
      go_ret
      exact ⟨by rw [hT]; rfl, H2.out.place (a + (cl + 1)), t2.trans (Turn.set _ _ _ _)⟩

end Go.Proofs.YtabmfdedbpmfmaaGreat

namespace Go.Proofs.YtabmfdedbpmfmaaGreat
open Go.RowKit Go.Shelf
set_option linter.unusedVariables false

attribute [local go_sem] Oper.semAt_some

def Two (b c : Nat) (W W' : World) : Prop := W'.heap[b]? = W.heap[b]? ∧ W'.heap[c]? = W.heap[c]?
theorem Two.refl (b c : Nat) (W : World) : Two b c W W := ⟨rfl, rfl⟩
theorem Two.trans {b c : Nat} {A B C : World} (h : Two b c A B) (k : Two b c B C) : Two b c A C := ⟨k.1.trans h.1, k.2.trans h.2⟩
theorem two_b {b c : Nat} {w : World} (hb : b < w.heap.size) (hc : c < w.heap.size) : ∀ (W : World) (l : Nat) (o o' : Obj), w.heap.size ≤ l → W.heap[l]? = some o → o.isCells = false → o.isWalk = false → Two b c W (W.putObj l o') :=
  fun W l o o' hl _ _ _ => ⟨World.putObj_heap_other (by omega), World.putObj_heap_other (by omega)⟩

def WordsAt (W : World) (A : Nat) (ws : List (List UInt8)) : Prop := W.heap[A]? = some (.cells (ws.map fun x => Value.string (ofL x)).toArray 9 (0, 0))
theorem WordsAt.cell {W : World} {A : Nat} {ws : List (List UInt8)} (h : WordsAt W A ws) (i : Nat) (hi : i < ws.length) : W.cell? ⟨A, i, none⟩ = some (.string (ofL ws[i])) :=
  cell_at i h (by simp [hi])

set_option maxRecDepth 100000 in
set_option maxHeartbeats 2000000 in
theorem tries1_in (n : Nat) (hn : 1 ≤ n) (l Bw Br A c : Nat) (r : ByteArray) (hr : r.size ≤ 64) (ws : List (List UInt8)) (hws : ws.length ≤ 64) (hwl : ∀ x ∈ ws, x.length ≤ 64) (J Jx : List (List UInt8) → World → Prop) (B0 : Nat) (hJ : AbidesFrom B0 J)
    (hY : ∀ pre x W, J pre W → pre.length < ws.length → YieldAt Fence.wide (n - 1) Tryz.prog l #[.string (ofL x), .bool (pfxB r.data.toList x)] W fun e W' =>
      (e = .returned (.bool true) ∧ J (pre ++ [x]) W' ∧ Two Br A W W') ∨ (e = .returned (.bool false) ∧ Jx (pre ++ [x]) W'))
    (W : World) (hBw : Boxed W Bw 37 (.slice (some ⟨A, 0, none⟩) ws.length c)) (hBr : Boxed W Br 9 (.string r)) (hA : WordsAt W A ws) (h0 : J [] W) :
    CallsIn Fence.wide n Tryz.prog 180 #[.func (.yield l) #[] #[], .pointer (some ⟨Bw, 0, none⟩), .pointer (some ⟨Br, 0, none⟩)] W fun e W' => (∃ v, e = .returned v) ∧
      ((∃ ys, ys = ws ∧ J ys W') ∨ (∃ pre, pre <+: ws ∧ Jx pre W')) := by
  have cA0 := hBw.cell
  refine callsIn_of_wp Tryz.func180 rfl trivial ?_ rfl
  simp only [Tryz.ntmps180, List.size_toArray, List.length_cons, List.length_nil, Nat.reduceAdd, Nat.reduceSub, Array.replicate_succ, Array.replicate_zero, List.push_toArray, List.append_toArray, List.nil_append, List.cons_append]
  gi_wp2
  gi_loopw [8] (fun i wr => ∃ (k : Nat), k ≤ ws.length ∧ i = .int .i64 k ∧ J (ws.take k) wr ∧ Boxed wr Br 9 (.string r) ∧ WordsAt wr A ws)
    (fun i _ => ws.length - (intOf i).toNat)
  case atStart => exact ⟨0, by omega, rfl, h0, hBr, hA⟩
  case round =>
    obtain ⟨k, hk, rfl, hJs, bR, hAs⟩ := hrel
    have cR := bR.cell
    by_cases hlt : k < ws.length
    · have cW := hAs.cell k hlt
      have hlt' : (k : Int) < (ws.length : Int) := by omega
      have hk0 : (0 : Int) ≤ (k : Int) := by omega
      have hxl := hwl ws[k] (List.getElem_mem hlt)
      have HT := hide (show ws.take (k + 1) = ws.take k ++ [ws[k]] from by rw [List.take_succ_eq_append_getElem hlt])
      obtain ⟨fn, tmps, assign, body, hy, hR⟩ := hY (ws.take k) ws[k] wr hJs (by rw [List.length_take]; omega)
      have HC := hide (HasPrefix_any r (ofL ws[k]) wr (by unfold maxLen; omega) (by rw [ofL_size]; unfold maxLen; omega))
      rw [ofL_data] at HC
      generalize ws[k] = x at *
      gi_wp2_with (refine ⟨trivial, ?_⟩; gi_at_call 139; refine (callsIn_wide.2 HC.out).mono ?_; rintro e w' ⟨rfl, hw'⟩; rw [hw']; clear hw' w')
      refine hR.mono ?_
      rintro e' W3 (⟨rfl, hJ3, hk3⟩ | ⟨rfl, hJx3⟩)
      · rw [← HT.out] at hJ3
        gi_wp2
        go_roundw
        case rel => exact ⟨k + 1, by omega, by go_num, hJ3, hk3.1.trans bR, hk3.2.trans hAs⟩
        case measure => simp [intOf]; omega
      · rw [← HT.out] at hJx3
        gi_wp2
        refine bodyPost_ret (results_none rfl _ _ _) rfl ?_
        exact ⟨⟨_, rfl⟩, .inr ⟨ws.take (k + 1), List.take_prefix _ _, hJx3⟩⟩
    · obtain rfl : k = ws.length := by omega
      rw [List.take_length] at hJs
      gi_wp2
      go_end0
      exact ⟨⟨_, rfl⟩, .inl ⟨ws, rfl, hJs⟩⟩

theorem tries_stops (n : Nat) (hn : 1 ≤ n) (Bw Br A c : Nat) (r : ByteArray) (hr : r.size ≤ 64) (ws : List (List UInt8)) (hws : ws.length ≤ 64) (hwl : ∀ x ∈ ws, x.length ≤ 64) (w : World) (hBw : Boxed w Bw 37 (.slice (some ⟨A, 0, none⟩) ws.length c)) (hBr : Boxed w Br 9 (.string r)) (hA : WordsAt w A ws) :
    SeqStopsK Fence.wide n Tryz.prog 180 #[.pointer (some ⟨Bw, 0, none⟩), .pointer (some ⟨Br, 0, none⟩)] (fun x : List UInt8 => #[Value.string (ofL x), .bool (pfxB r.data.toList x)]) (Two Br A) (fun ys => ys = ws) (fun pre => pre <+: ws) ws.length w := fun l J Jx W hW hJ _ hY h0 =>
  tries1_in n hn l Bw Br A c r hr ws hws hwl J Jx W.heap.size hJ hY W ((hW.block Bw hBw.lt).trans hBw) ((hW.block Br hBr.lt).trans hBr) ((hW.block A (Array.getElem?_eq_some_iff.1 hA).1).trans hA) h0

theorem tries_any (r : ByteArray) (v : Value) (w : World) (a : Option Addr) (n c : Nat) (hv : v = .slice a n c) :
    Calls Tryz.prog 166 #[.string r, v] w fun e w' => e = .returned (.func (.func 180) #[] #[.pointer (some ⟨w.heap.size + 1, 0, none⟩), .pointer (some ⟨w.heap.size, 0, none⟩)]) ∧ w' = (w.alloc (.cells #[.string r] 9)).alloc (.cells #[v] 37) := by
  subst hv
  go_enter Tryz.func166, Tryz.ntmps166
  go_wp2
  go_ret
  exact ⟨rfl, rfl⟩

end Go.Proofs.YtabmfdedbpmfmaaGreat
