/-
  Walks: the iterator over a row of tokens from the last one on.
-/
import Derived.Test.YtpedljmpobhimaaGreatDoorDe
namespace Go.Proofs.YtpedljmpobhimaaGreatDoor
open Go.RowKit Go.Shelf
set_option linter.unusedVariables false

attribute [local go_sem] Oper.semAt_some

/-- A row of tokens in memory, from a cell of a block on. -/
def TRow (W : World) (b off : Nat) (ts : List Tok) : Prop := ∀ i (h : i < ts.length), W.cell? ⟨b, off + i * 3, none⟩ = some (.bool ts[i].dash) ∧ W.cell? ⟨b, off + i * 3 + 1, none⟩ = some (.bool ts[i].num) ∧ W.cell? ⟨b, off + i * 3 + 2, none⟩ = some (.string (ofL ts[i].text))
theorem TRow.of_block {W W' : World} {b off : Nat} {ts : List Tok} (h : TRow W b off ts) (hb : W'.heap[b]? = W.heap[b]?) : TRow W' b off ts := by
  intro i hi
  obtain ⟨h0, h1, h2⟩ := h i hi
  refine ⟨?_, ?_, ?_⟩
  · rw [← h0]; simp only [World.cell?]; rw [hb]
  · rw [← h1]; simp only [World.cell?]; rw [hb]
  · rw [← h2]; simp only [World.cell?]; rw [hb]
/-- A slice of tokens. -/
def Toks (W : World) (v : Value) (ts : List Tok) : Prop :=
  ∃ a cap, v = .slice a ts.length cap ∧ (ts = [] ∨ ∃ b off, a = some ⟨b, off, none⟩ ∧ b < W.heap.size ∧ TRow W b off ts)
theorem Toks.below {W W' : World} {v : Value} {ts : List Tok} (h : Toks W v ts) (hb : Below W.heap.size W W') : Toks W' v ts := by
  obtain ⟨a, cap, hv, h0 | ⟨b, off, ha, hlt, hc⟩⟩ := h
  · exact ⟨a, cap, hv, .inl h0⟩
  · exact ⟨a, cap, hv, .inr ⟨b, off, ha, Nat.lt_of_lt_of_le hlt hb.size, hc.of_block (hb.block b hlt)⟩⟩

/-- The tokens from the last on, each with its place, below a place. -/
def bwN (ts : List Tok) : Nat → List (Nat × Tok)
  | 0 => []
  | k + 1 => (k, ts.getD k nilT) :: bwN ts k
def bwL (ts : List Tok) : List (Nat × Tok) := bwN ts ts.length
theorem bwN_len (ts : List Tok) : ∀ k, (bwN ts k).length = k
  | 0 => rfl
  | k + 1 => by rw [bwN, List.length_cons, bwN_len ts k]
theorem bwN_toks (ts : List Tok) : ∀ k, k ≤ ts.length → (bwN ts k).map Prod.snd = (ts.take k).reverse
  | 0, _ => by simp [bwN]
  | k + 1, h => by
    have hk : k < ts.length := h
    rw [bwN, List.map_cons, bwN_toks ts k (by omega), List.take_succ_eq_append_getElem hk, List.reverse_append]
    simp [List.getD_eq_getElem?_getD, List.getElem?_eq_getElem hk]
theorem bwL_toks (ts : List Tok) : (bwL ts).map Prod.snd = ts.reverse := by
  unfold bwL
  rw [bwN_toks ts _ (Nat.le_refl _), List.take_of_length_le (Nat.le_refl _)]

/-- Two blocks lie as they lay. -/
def Two (b c : Nat) (W W' : World) : Prop := W'.heap[b]? = W.heap[b]? ∧ W'.heap[c]? = W.heap[c]?
theorem Two.refl (b c : Nat) (W : World) : Two b c W W := ⟨rfl, rfl⟩
theorem Two.trans {b c : Nat} {A B C : World} (h : Two b c A B) (k : Two b c B C) : Two b c A C := ⟨k.1.trans h.1, k.2.trans h.2⟩
theorem two_b {b c : Nat} {w : World} (hb : b < w.heap.size) (hc : c < w.heap.size) : ∀ (W : World) (l : Nat) (o o' : Obj), w.heap.size ≤ l → W.heap[l]? = some o → o.isCells = false → o.isWalk = false → Two b c W (W.putObj l o') :=
  fun W l o o' hl _ _ _ => ⟨World.putObj_heap_other (by omega), World.putObj_heap_other (by omega)⟩

set_option maxRecDepth 100000 in
set_option maxHeartbeats 4000000 in
theorem back1_in (n : Nat) (hn : 1 ≤ n) (l Bs b off cap : Nat) (ts : List Tok) (hl : ts.length ≤ 1000000000000) (J Jx : List (Nat × Tok) → World → Prop) (B0 : Nat) (hJ : AbidesFrom B0 J)
    (hY : ∀ pre x W, J pre W → pre.length < (bwL ts).length → YieldAt Fence.wide (n - 1) Tryz.prog l #[.int .i64 (x.1 : Int), tokV x.2] W fun e W' =>
      (e = .returned (.bool true) ∧ J (pre ++ [x]) W' ∧ Two Bs b W W') ∨ (e = .returned (.bool false) ∧ Jx (pre ++ [x]) W'))
    (W : World) (a : Option Addr) (hBs : Boxed W Bs 60 (.slice a ts.length cap)) (hrow : ts = [] ∨ (a = some ⟨b, off, none⟩ ∧ TRow W b off ts)) (h0 : J [] W) :
    CallsIn Fence.wide n Tryz.prog 113 #[.func (.yield l) #[] #[], .pointer (some ⟨Bs, 0, none⟩)] W fun e W' => (∃ v, e = .returned v) ∧
      ((∃ ys : List (Nat × Tok), ys = bwL ts ∧ J ys W') ∨ (∃ pre : List (Nat × Tok), pre <+: bwL ts ∧ Jx pre W')) := by
  have cS0 := hBs.cell
  have HRW := hide hrow
  clear hrow
  refine callsIn_of_wp Tryz.func113 rfl trivial ?_ rfl
  simp only [Tryz.ntmps113, List.size_toArray, List.length_cons, List.length_nil, Nat.reduceAdd, Nat.reduceSub, Array.replicate_succ, Array.replicate_zero, List.push_toArray, List.append_toArray, List.nil_append, List.cons_append]
  gi_wp2
  clear cS0
  gi_loopw [3] (fun y wr => ∃ (k : Nat) (pre : List (Nat × Tok)), k ≤ ts.length ∧ y = .int .i64 ((k : Int) - 1) ∧ J pre wr ∧ Boxed wr Bs 60 (.slice a ts.length cap) ∧ Hid (ts = [] ∨ (a = some ⟨b, off, none⟩ ∧ TRow wr b off ts)) ∧ Hid (bwL ts = pre ++ bwN ts k))
    (fun y _ => (intOf y + 1).toNat)
  case atStart => exact ⟨ts.length, [], Nat.le_refl _, rfl, h0, hBs, HRW, rfl⟩
  case round =>
    obtain ⟨k, pre, hk, rfl, hJs, bS, HT, HR⟩ := hrel
    have cS := bS.cell
    cases k with
    | zero =>
      gi_wp2
      go_end0
      exact ⟨⟨_, rfl⟩, .inl ⟨pre, by rw [HR.out, bwN, List.append_nil], hJs⟩⟩
    | succ k =>
      have hkt : k < ts.length := hk
      have ek : ((k + 1 : Nat) : Int) - 1 = (k : Int) := by omega
      have hkI : decide (0 ≤ (k : Int)) = true := by simp
      obtain ⟨rfl, hT⟩ : a = some ⟨b, off, none⟩ ∧ TRow wr b off ts := by
        rcases HT.out with h | h
        · rw [h] at hkt; simp at hkt
        · exact h
      obtain ⟨c0, c1, c2⟩ := hT k hkt
      have HG : Hid (ts.getD k nilT = ts[k]) := by show _ = _; rw [List.getD_eq_getElem?_getD, List.getElem?_eq_getElem hkt]; rfl
      have HT0 := hide hT
      have Y0 := hY pre (k, ts[k])
      unfold tokV at Y0
      dsimp only at Y0
      have Y0 := hide Y0
      have HLT : Hid (pre.length < (bwL ts).length) := by show _ < _; rw [HR.out, bwN]; simp
      clear hT HT
      rw [ek]
      generalize ts[k] = t at *
      obtain ⟨fn, tmps, assign, body, hy, hR⟩ := Y0.out wr hJs HLT.out
      gi_wp2
      refine hR.mono ?_
      rintro e' W5 (⟨rfl, hJ5, hO⟩ | ⟨rfl, hJx5⟩)
      · have bS5 : Boxed W5 Bs 60 (.slice (some ⟨b, off, none⟩) ts.length cap) := Eq.trans hO.1 bS
        have HT5 : Hid (ts = [] ∨ (some (⟨b, off, none⟩ : Addr) = some ⟨b, off, none⟩ ∧ TRow W5 b off ts)) := .inr ⟨rfl, HT0.out.of_block hO.2⟩
        gi_wp2
        go_roundw
        case rel => exact ⟨k, pre ++ [(k, t)], by omega, by go_num, hJ5, bS5, HT5, by show _ = _; rw [HR.out, bwN, HG.out]; simp⟩
        case measure => simp [intOf]
      · gi_wp2
        refine bodyPost_ret (results_none rfl _ _ _) rfl ?_
        exact ⟨⟨_, rfl⟩, .inr ⟨pre ++ [(k, t)], by rw [HR.out, bwN, HG.out]; exact ⟨_, by simp; rfl⟩, hJx5⟩⟩

theorem back_stops (n : Nat) (hn : 1 ≤ n) (Bs b off cap : Nat) (ts : List Tok) (hl : ts.length ≤ 1000000000000) (w : World) (a : Option Addr) (hBs : Boxed w Bs 60 (.slice a ts.length cap)) (hrow : ts = [] ∨ (a = some ⟨b, off, none⟩ ∧ b < w.heap.size ∧ TRow w b off ts)) :
    SeqStopsK Fence.wide n Tryz.prog 113 #[.pointer (some ⟨Bs, 0, none⟩)] (fun x : Nat × Tok => #[.int .i64 (x.1 : Int), tokV x.2]) (Two Bs b) (fun ys => ys = bwL ts) (fun pre => pre <+: bwL ts) (bwL ts).length w := fun l J Jx W hW hJ _ hY h0 =>
  back1_in n hn l Bs b off cap ts hl J Jx W.heap.size hJ hY W a ((hW.block Bs hBs.lt).trans hBs) (hrow.imp id (fun h => ⟨h.1, h.2.2.of_block (hW.block b h.2.1)⟩)) h0

theorem back_any (a : Option Addr) (n cap : Nat) (w : World) :
    Calls Tryz.prog 99 #[.slice a n cap] w fun e w' => e = .returned (.func (.func 113) #[] #[.pointer (some ⟨w.heap.size, 0, none⟩)]) ∧ w' = w.alloc (.cells #[.slice a n cap] 60) := by
  go_enter Tryz.func99, Tryz.ntmps99
  go_wp2
  go_ret
  exact ⟨rfl, rfl⟩

end Go.Proofs.YtpedljmpobhimaaGreatDoor
