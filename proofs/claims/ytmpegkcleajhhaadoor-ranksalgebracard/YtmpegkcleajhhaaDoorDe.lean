/-
  Walks: the places that are true, as spans: the program.
-/
import Derived.Test.YtmpegkcleajhhaaDoorDd
namespace Go.Proofs.YtmpegkcleajhhaaDoor
open Go.RowKit Go.Shelf
set_option linter.unusedVariables false

/-- A slice of truths in memory. -/
def Bools (W : World) (v : Value) (l : List Bool) : Prop :=
  ∃ a cap, v = .slice a l.length cap ∧ l.length ≤ cap ∧ (a = none → cap = 0) ∧ (l = [] ∨ ∃ b off, a = some ⟨b, off, none⟩ ∧ b < W.heap.size ∧ ∀ i (h : i < l.length), W.cell? ⟨b, off + i, none⟩ = some (.bool l[i]))
theorem Bools.below {W W' : World} {v : Value} {l : List Bool} (h : Bools W v l) (hb : Below W.heap.size W W') : Bools W' v l := by
  obtain ⟨a, cap, hv, h1, h2, h0 | ⟨b, off, ha, hlt, hc⟩⟩ := h
  · exact ⟨a, cap, hv, h1, h2, .inl h0⟩
  · exact ⟨a, cap, hv, h1, h2, .inr ⟨b, off, ha, Nat.lt_of_lt_of_le hlt hb.size, fun i hi => by rw [← hc i hi]; simp only [World.cell?]; rw [hb.block b hlt]⟩⟩
theorem with_len (s : List Sp) (r : Int) : (withL s r).length ≤ s.length + 1 := by
  rcases snoc_or s with rfl | ⟨t, p, rfl⟩
  · exact Nat.le_refl _
  · rw [withL_snoc]; split <;> simp
theorem where_len (f : Nat → Bool) : ∀ k, (whereL f k).length ≤ k
  | 0 => Nat.le_refl _
  | k + 1 => by
    rw [whereL]
    have := where_len f k
    split
    · have := with_len (whereL f k) k; omega
    · omega
/-- The places of truths. -/
def atP (l : List Bool) (i : Nat) : Bool := l.getD i false
theorem where_yes {f : Nat → Bool} {k : Nat} (h : f k = true) : whereL f (k + 1) = withL (whereL f k) k := by rw [whereL, if_pos h]
theorem where_no {f : Nat → Bool} {k : Nat} (h : f k = false) : whereL f (k + 1) = whereL f k := by rw [whereL, if_neg (by simp [h])]
/-- What a set that was made leaves. -/
def SetPost (s : List Sp) (w : World) (r : Ending) (w' : World) : Prop := ∃ v, r = .returned v ∧ Spans w' v s ∧ Below w.heap.size w w'

set_option maxRecDepth 100000 in
set_option maxHeartbeats 4000000 in
theorem Where_any (v : Value) (l : List Bool) (w : World) (hA : Bools w v l) (hl : l.length ≤ 1000000000000000) :
    Calls Tryd.prog 12 #[v] w (SetPost (whereL (atP l) (cnt l.length)) w) := by
  obtain ⟨aa, ca, rfl, hcap, hnone, hra⟩ := hA
  have HA := hide hra
  have hK : cnt l.length ≤ l.length := by unfold cnt; omega
  have hK2 := cnt_le l.length
  have C := hide (fun w => counted_any l.length w)
  clear hra
  generalize cnt l.length = K at *
  have hk1 : (K : Int) ≤ (ca : Int) := by omega
  have hk2 : K ≤ ca := by omega
  go_enter Tryd.func12, Tryd.ntmps12
  go_wp2_with fail
  refine (C.out _).mono ?_
  rintro e w' ⟨rfl, hw'⟩
  rw [hw']; clear hw' w'
  have HW0 : Hid (whereL (atP l) 0 = []) := rfl
  cases aa with
  | none =>
    have hc0 := hnone rfl
    subst hc0
    obtain rfl : K = 0 := by omega
    go_wp2_with fail
    go_loopw [3, 12] (fun x y wr => x = .slice none 0 0 ∧ y = .int .i64 0 ∧ wr = w) (fun _ _ _ => 0)
    case atStart => exact ⟨rfl, rfl, rfl⟩
    case round =>
      obtain ⟨rfl, rfl, rfl⟩ := hrel
      go_wp2_with fail
      go_ret
      exact ⟨_, rfl, Spans.nil _, Below.refl _ _⟩
  | some a =>
    go_wp2_with fail
    go_loopw [3, 12] (fun x y wr => ∃ k : Nat, k ≤ K ∧ y = .int .i64 k ∧ wr.ownsRow w.heap.size 45 2 x (whereL (atP l) k).length (flatS (whereL (atP l) k)) ∧ Below w.heap.size w wr) (fun _ y _ => K - (intOf y).toNat)
    case atStart => exact ⟨0, by omega, rfl, World.ownsRow_nil _ _ _ _, Below.refl _ _⟩
    case round =>
      obtain ⟨k, hk, rfl, hO, hBw⟩ := hrel
      by_cases hlt : k < K
      · have hlt' : (k : Int) < (K : Int) := by omega
        have hll : k < l.length := by omega
        obtain ⟨b, off, hab, hlb, hc⟩ : ∃ b off, some a = some ⟨b, off, none⟩ ∧ b < w.heap.size ∧ ∀ i (h : i < l.length), w.cell? ⟨b, off + i, none⟩ = some (.bool l[i]) := by
          rcases HA.out with h0 | h0
          · rw [h0] at hll; simp at hll
          · exact h0
        cases hab
        have c0 : wr.cell? ⟨b, off + k, none⟩ = some (.bool l[k]) := by rw [← hc k hll]; simp only [World.cell?]; rw [hBw.block b hlb]
        clear hc
        have hf : atP l k = l[k] := by unfold atP; simp [hll]
        have hW := where_len (atP l) k
        cases hx : l[k] with
        | true =>
          rw [hx] at c0 hf
          have HN := hide (where_yes hf)
          have CW := hide (with_any w.heap.size _ (whereL (atP l) k) k wr hO hBw.size (by omega) (by omega))
          clear hx hf
          go_wp2_with fail
          refine CW.out.mono ?_
          rintro e w2 ⟨v2, rfl, own2, b2⟩
          go_wp2_with fail
          go_roundw
          case rel => exact ⟨k + 1, by omega, by go_num, by rw [HN.out]; exact own2, hBw.trans b2⟩
          case measure => simp [intOf]; omega
        | false =>
          rw [hx] at c0 hf
          have HN := hide (where_no hf)
          clear hx hf
          go_wp2_with fail
          go_roundw
          case rel => exact ⟨k + 1, by omega, by go_num, by rw [HN.out]; exact hO, hBw⟩
          case measure => simp [intOf]; omega
      · have hlt' : ¬ (k : Int) < (K : Int) := by omega
        obtain rfl : k = K := by omega
        go_wp2_with fail
        go_ret
        exact ⟨_, rfl, own_spans hO, hBw⟩

end Go.Proofs.YtmpegkcleajhhaaDoor
