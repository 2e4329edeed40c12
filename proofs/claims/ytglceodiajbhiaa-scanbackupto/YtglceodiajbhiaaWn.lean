/-
  Walks: two rows of pieces are held against each other.
-/
import Derived.Test.YtglceodiajbhiaaWm
import Derived.BigQuiet
import Derived.Deep.QuietTactic
namespace Go.Proofs.Ytglceodiajbhiaa
open Go.RowKit
set_option linter.unusedVariables false

/-- The cells of pieces. -/
def tri (ts : List (ByteArray × Int × Int)) : List Value := ts.flatMap fun p => [.string p.1, .int .i64 p.2.1, .int .i64 p.2.2]
theorem tri_at (ts : List (ByteArray × Int × Int)) : ∀ (k : Nat) (h : k < ts.length), (tri ts)[k * 3]? = some (.string ts[k].1) ∧ (tri ts)[k * 3 + 1]? = some (.int .i64 ts[k].2.1) ∧ (tri ts)[k * 3 + 2]? = some (.int .i64 ts[k].2.2) := by
  induction ts with
  | nil => intro k h; simp at h
  | cons p r ih =>
    intro k h
    cases k with
    | zero => simp [tri]
    | succ k =>
      have hk := ih k (by simpa using h)
      have e : tri (p :: r) = [.string p.1, .int .i64 p.2.1, .int .i64 p.2.2] ++ tri r := rfl
      rw [e]
      have e1 : (k + 1) * 3 = 3 + k * 3 := by omega
      rw [e1, show 3 + k * 3 + 1 = 3 + (k * 3 + 1) from by omega, show 3 + k * 3 + 2 = 3 + (k * 3 + 2) from by omega]
      refine ⟨?_, ?_, ?_⟩
      · rw [List.getElem?_append_right (by simp)]; simpa using hk.1
      · rw [List.getElem?_append_right (by simp)]; simpa using hk.2.1
      · rw [List.getElem?_append_right (by simp)]; simpa using hk.2.2
theorem cut_tri (s : ByteArray) (cs : List (Nat × Nat)) : cutCells s cs = tri (cs.map fun p => (s.extract p.1 p.2, (p.1 : Int), 0)) := by
  unfold cutCells tri
  rw [List.flatMap_map]
theorem ln_tri (s : ByteArray) (ls : List (Nat × Nat × Nat)) : lnCells s ls = tri (ls.map fun p => (s.extract p.1 p.2.1, (p.1 : Int), (p.2.2 : Int))) := by
  unfold lnCells tri
  rw [List.flatMap_map]

/-- A row of pieces in memory. -/
def Pcs (W : World) (v : Value) (ts : List (ByteArray × Int × Int)) : Prop := ∃ base, W.ownsRow base 41 3 v ts.length (tri ts)
theorem Pcs.cells {W : World} {g cap : Nat} {ts : List (ByteArray × Int × Int)} (h : Pcs W (.slice (some ⟨g, 0, none⟩) ts.length cap) ts) (k : Nat) (hk : k < ts.length) :
    W.cell? ⟨g, k * 3, none⟩ = some (.string ts[k].1) ∧ W.cell? ⟨g, k * 3 + 1, none⟩ = some (.int .i64 ts[k].2.1) ∧ W.cell? ⟨g, k * 3 + 2, none⟩ = some (.int .i64 ts[k].2.2) := by
  obtain ⟨base, hr⟩ := h
  have ht := tri_at ts k hk
  exact ⟨(hr.cellAt (k * 3) (show k * 3 < ts.length * 3 by omega)).trans ht.1, (hr.cellAt (k * 3 + 1) (show k * 3 + 1 < ts.length * 3 by omega)).trans ht.2.1, (hr.cellAt (k * 3 + 2) (show k * 3 + 2 < ts.length * 3 by omega)).trans ht.2.2⟩
theorem Pcs.below {W W' : World} {v : Value} {ts : List (ByteArray × Int × Int)} (h : Pcs W v ts) (hb : Below W.heap.size W W') : Pcs W' v ts := by
  obtain ⟨base, hr⟩ := h
  refine ⟨base, hr.1, ?_⟩
  rcases hr.2 with h2 | ⟨g, cap, cur, hv, hg, hh, r⟩
  · exact .inl h2
  · exact .inr ⟨g, cap, cur, hv, hg, by rw [hb.block g (Array.getElem?_eq_some_iff.1 hh).1]; exact hh, r⟩
theorem Pcs.slice {W : World} {v : Value} {ts : List (ByteArray × Int × Int)} (h : Pcs W v ts) : ∃ ao cap, v = .slice ao ts.length cap := by
  obtain ⟨base, hr⟩ := h
  exact row_slice hr
theorem Pcs.some {W : World} {v : Value} {ts : List (ByteArray × Int × Int)} (h : Pcs W v ts) (hne : 0 < ts.length) : ∃ g cap, v = .slice (some ⟨g, 0, none⟩) ts.length cap ∧ g < W.heap.size := by
  obtain ⟨base, hr⟩ := h
  rcases hr.2 with ⟨_, h0⟩ | ⟨g, cap, cur, hv, hg, hh, r⟩
  · omega
  · exact ⟨g, cap, hv, (Array.getElem?_eq_some_iff.1 hh).1⟩

theorem Try.cells41 : Try.prog.cellsOf 41 = 3 := by kernel_rfl

set_option maxHeartbeats 1000000 in
theorem pcs_any (va vb : Value) (ts : List (ByteArray × Int × Int)) (w : World) (hl : ts.length ≤ 4000000000001) (ha : Pcs w va ts) (hb : Pcs w vb ts) :
    Calls Try.prog 25 #[va, vb] w fun e w' => e = .returned (.bool true) ∧ Below w.heap.size w w' := by
  rcases Nat.eq_zero_or_pos ts.length with h0 | hp
  · obtain ⟨a1, c1, rfl⟩ := ha.slice
    obtain ⟨a2, c2, rfl⟩ := hb.slice
    rw [h0]
    go_enter Try.func25, Try.ntmps25
    go_wp2_with fail
    refine wp_loop_rounds 1 ?_
    rw [rounds_succ]
    go_wp2
    go_ret
    exact ⟨rfl, Below.refl _ _⟩
  · obtain ⟨g1, c1, rfl, hg1⟩ := ha.some hp
    obtain ⟨g2, c2, rfl, hg2⟩ := hb.some hp
    have HA := hide ha
    have HB := hide hb
    clear ha hb
    have c41 := Try.cells41
    have hnn : ((ts.length : Int) != (ts.length : Int)) = false := by simp
    go_enter Try.func25, Try.ntmps25
    go_wp2_with fail
    go_loopw [13] (fun i wr => ∃ k : Nat, k ≤ ts.length ∧ i = .int .i64 k ∧ Below w.heap.size w wr) (fun i _ => ts.length - (intOf i).toNat)
    case atStart => exact ⟨0, by omega, rfl, Below.refl _ _⟩
    case round =>
      obtain ⟨k, hk, rfl, hbel⟩ := hrel
      by_cases hlt : k < ts.length
      · obtain ⟨p1, p2, p3⟩ := (HA.out.below hbel).cells k hlt
        obtain ⟨q1, q2, q3⟩ := (HB.out.below hbel).cells k hlt
        generalize ts[k] = t at *
        have hlt' : (k : Int) < (ts.length : Int) := by omega
        have hk0 : (0 : Int) ≤ (k : Int) := by omega
        go_wp2_with fail
        go_quiet (fail)
        go_wp2_with fail
        go_roundw
        case rel => exact ⟨k + 1, by omega, by go_num, below_drewN hbel nq⟩
        case measure => simp [intOf]; omega
      · go_wp2_with fail
        go_ret
        exact ⟨rfl, hbel⟩

end Go.Proofs.Ytglceodiajbhiaa
