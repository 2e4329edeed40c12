/-
  Walks: the ranks of qualifiers, the order of tokens and of rows of them.
-/
import Derived.Test.YtpedljmpobhimaaGreatDoorDj
namespace Go.Proofs.YtpedljmpobhimaaGreatDoor
open Go.RowKit Go.Shelf
set_option linter.unusedVariables false

/-- The known qualifiers, as they lie. -/
def knA : List Value := [.string ⟨#[97, 108, 112, 104, 97]⟩, .string ⟨#[98, 101, 116, 97]⟩, .string ⟨#[109, 105, 108, 101, 115, 116, 111, 110, 101]⟩, .string ⟨#[114, 99]⟩, .string ⟨#[115, 110, 97, 112, 115, 104, 111, 116]⟩, .string ⟨#[]⟩, .string ⟨#[115, 112]⟩]
/-- The variable lies as the program lays it. -/
structure Kn (W : World) : Prop where
  pos : 1 < W.heap.size
  cell : ∀ i v, knA[i]? = some v → W.cell? ⟨1, i, none⟩ = some v
theorem Kn.block {W W' : World} (h : Kn W) (hs : W.heap.size ≤ W'.heap.size) (hb : W'.heap[1]? = W.heap[1]?) : Kn W' :=
  ⟨Nat.lt_of_lt_of_le h.pos hs, fun i v hv => by rw [← h.cell i v hv]; simp only [World.cell?]; rw [hb]⟩
theorem Kn.below {W W' : World} {n : Nat} (h : Kn W) (hn : 1 < n) (hb : Below n W W') : Kn W' := h.block hb.size (hb.block 1 hn)
theorem Kn.drew {W : World} (h : Kn W) : Kn W.drew := ⟨h.pos, h.cell⟩
theorem Kn.drewN {W : World} (h : Kn W) (n : Nat) : Kn (W.drewN n) := h.block (by rw [heap_drewN]; exact Nat.le_refl _) (by rw [heap_drewN])
theorem Kn.alloc {W : World} (h : Kn W) (o : Obj) : Kn (W.alloc o) := h.block (by rw [World.size_alloc]; omega) (Below.heap_alloc _ _ _ h.pos)

def knL : List (List UInt8) := [[97, 108, 112, 104, 97], [98, 101, 116, 97], [109, 105, 108, 101, 115, 116, 111, 110, 101], [114, 99], [115, 110, 97, 112, 115, 104, 111, 116], [], [115, 112]]
def rankF : Nat → List (List UInt8) → List UInt8 → Int
  | _, [], _ => 8
  | i, x :: r, q => if (q == x) = true then (i : Int) + 1 else rankF (i + 1) r q
theorem rank_F (q : List UInt8) : rankL q = rankF 0 knL q := by
  unfold rankL knL
  simp only [rankF, beq_iff_eq]
  rfl

theorem ix0 (w : World) : (Instr.index 146 (.agg #[.string ⟨#[97, 108, 112, 104, 97]⟩, .string ⟨#[98, 101, 116, 97]⟩, .string ⟨#[109, 105, 108, 101, 115, 116, 111, 110, 101]⟩, .string ⟨#[114, 99]⟩, .string ⟨#[115, 110, 97, 112, 115, 104, 111, 116]⟩, .string ⟨#[]⟩, .string ⟨#[115, 112]⟩]) (.int .i64 0)).run Tryz.prog w = .ok (.string ⟨#[97, 108, 112, 104, 97]⟩) w := by kernel_rfl
theorem ix1 (w : World) : (Instr.index 146 (.agg #[.string ⟨#[97, 108, 112, 104, 97]⟩, .string ⟨#[98, 101, 116, 97]⟩, .string ⟨#[109, 105, 108, 101, 115, 116, 111, 110, 101]⟩, .string ⟨#[114, 99]⟩, .string ⟨#[115, 110, 97, 112, 115, 104, 111, 116]⟩, .string ⟨#[]⟩, .string ⟨#[115, 112]⟩]) (.int .i64 1)).run Tryz.prog w = .ok (.string ⟨#[98, 101, 116, 97]⟩) w := by kernel_rfl
theorem ix2 (w : World) : (Instr.index 146 (.agg #[.string ⟨#[97, 108, 112, 104, 97]⟩, .string ⟨#[98, 101, 116, 97]⟩, .string ⟨#[109, 105, 108, 101, 115, 116, 111, 110, 101]⟩, .string ⟨#[114, 99]⟩, .string ⟨#[115, 110, 97, 112, 115, 104, 111, 116]⟩, .string ⟨#[]⟩, .string ⟨#[115, 112]⟩]) (.int .i64 2)).run Tryz.prog w = .ok (.string ⟨#[109, 105, 108, 101, 115, 116, 111, 110, 101]⟩) w := by kernel_rfl
theorem ix3 (w : World) : (Instr.index 146 (.agg #[.string ⟨#[97, 108, 112, 104, 97]⟩, .string ⟨#[98, 101, 116, 97]⟩, .string ⟨#[109, 105, 108, 101, 115, 116, 111, 110, 101]⟩, .string ⟨#[114, 99]⟩, .string ⟨#[115, 110, 97, 112, 115, 104, 111, 116]⟩, .string ⟨#[]⟩, .string ⟨#[115, 112]⟩]) (.int .i64 3)).run Tryz.prog w = .ok (.string ⟨#[114, 99]⟩) w := by kernel_rfl
theorem ix4 (w : World) : (Instr.index 146 (.agg #[.string ⟨#[97, 108, 112, 104, 97]⟩, .string ⟨#[98, 101, 116, 97]⟩, .string ⟨#[109, 105, 108, 101, 115, 116, 111, 110, 101]⟩, .string ⟨#[114, 99]⟩, .string ⟨#[115, 110, 97, 112, 115, 104, 111, 116]⟩, .string ⟨#[]⟩, .string ⟨#[115, 112]⟩]) (.int .i64 4)).run Tryz.prog w = .ok (.string ⟨#[115, 110, 97, 112, 115, 104, 111, 116]⟩) w := by kernel_rfl
theorem ix5 (w : World) : (Instr.index 146 (.agg #[.string ⟨#[97, 108, 112, 104, 97]⟩, .string ⟨#[98, 101, 116, 97]⟩, .string ⟨#[109, 105, 108, 101, 115, 116, 111, 110, 101]⟩, .string ⟨#[114, 99]⟩, .string ⟨#[115, 110, 97, 112, 115, 104, 111, 116]⟩, .string ⟨#[]⟩, .string ⟨#[115, 112]⟩]) (.int .i64 5)).run Tryz.prog w = .ok (.string ⟨#[]⟩) w := by kernel_rfl
theorem ix6 (w : World) : (Instr.index 146 (.agg #[.string ⟨#[97, 108, 112, 104, 97]⟩, .string ⟨#[98, 101, 116, 97]⟩, .string ⟨#[109, 105, 108, 101, 115, 116, 111, 110, 101]⟩, .string ⟨#[114, 99]⟩, .string ⟨#[115, 110, 97, 112, 115, 104, 111, 116]⟩, .string ⟨#[]⟩, .string ⟨#[115, 112]⟩]) (.int .i64 6)).run Tryz.prog w = .ok (.string ⟨#[115, 112]⟩) w := by kernel_rfl

set_option maxRecDepth 100000 in
set_option maxHeartbeats 2000000 in
theorem Rank_any (s : ByteArray) (w : World) (hk : Kn w) :
    Calls Tryz.prog 125 #[.string s] w fun e w' => e = .returned (.int .i64 (rankL s.data.toList)) ∧ w' = w := by
  have g0 := hk.cell 0 _ rfl
  have g1 := hk.cell 1 _ rfl
  have g2 := hk.cell 2 _ rfl
  have g3 := hk.cell 3 _ rfl
  have g4 := hk.cell 4 _ rfl
  have g5 := hk.cell 5 _ rfl
  have g6 := hk.cell 6 _ rfl
  have HR0 := hide (rank_F s.data.toList)
  rw [← toL] at HR0 ⊢
  generalize rankL s.toList = R at *
  clear hk
  go_enter Tryz.func125, Tryz.ntmps125
  go_wp2_with fail
  go_loop [6] (fun i => ∃ k : Nat, k ≤ 7 ∧ i = .int .i64 k ∧ Hid (R = rankF k (knL.drop k) s.toList)) (fun i => 7 - (intOf i).toNat)
  case atStart => exact ⟨0, by omega, rfl, HR0⟩
  case round =>
    obtain ⟨k, hk, rfl, HR⟩ := hrel
    have hc : k = 0 ∨ k = 1 ∨ k = 2 ∨ k = 3 ∨ k = 4 ∨ k = 5 ∨ k = 6 ∨ k = 7 := by omega
    rcases hc with rfl | rfl | rfl | rfl | rfl | rfl | rfl | rfl
    · have ix := ix0
      cases hb : (s.toList == [97, 108, 112, 104, 97])
      · have HX : Hid (R = rankF 1 (knL.drop 1) s.toList) := by show _ = _; rw [HR.out]; simp only [knL, List.drop, rankF, hb]; rfl
        go_wp2_with fail
        go_round
        case rel => exact ⟨1, by omega, rfl, HX⟩
        case measure => decide
      · have HX : Hid (R = 1) := by show _ = _; rw [HR.out]; simp only [knL, List.drop, rankF, hb]; rfl
        go_wp2_with fail
        go_ret
        exact ⟨ret_i HX.out.symm, rfl⟩
    · have ix := ix1
      cases hb : (s.toList == [98, 101, 116, 97])
      · have HX : Hid (R = rankF 2 (knL.drop 2) s.toList) := by show _ = _; rw [HR.out]; simp only [knL, List.drop, rankF, hb]; rfl
        go_wp2_with fail
        go_round
        case rel => exact ⟨2, by omega, rfl, HX⟩
        case measure => decide
      · have HX : Hid (R = 2) := by show _ = _; rw [HR.out]; simp only [knL, List.drop, rankF, hb]; rfl
        go_wp2_with fail
        go_ret
        exact ⟨ret_i HX.out.symm, rfl⟩
    · have ix := ix2
      cases hb : (s.toList == [109, 105, 108, 101, 115, 116, 111, 110, 101])
      · have HX : Hid (R = rankF 3 (knL.drop 3) s.toList) := by show _ = _; rw [HR.out]; simp only [knL, List.drop, rankF, hb]; rfl
        go_wp2_with fail
        go_round
        case rel => exact ⟨3, by omega, rfl, HX⟩
        case measure => decide
      · have HX : Hid (R = 3) := by show _ = _; rw [HR.out]; simp only [knL, List.drop, rankF, hb]; rfl
        go_wp2_with fail
        go_ret
        exact ⟨ret_i HX.out.symm, rfl⟩
    · have ix := ix3
      cases hb : (s.toList == [114, 99])
      · have HX : Hid (R = rankF 4 (knL.drop 4) s.toList) := by show _ = _; rw [HR.out]; simp only [knL, List.drop, rankF, hb]; rfl
        go_wp2_with fail
        go_round
        case rel => exact ⟨4, by omega, rfl, HX⟩
        case measure => decide
      · have HX : Hid (R = 4) := by show _ = _; rw [HR.out]; simp only [knL, List.drop, rankF, hb]; rfl
        go_wp2_with fail
        go_ret
        exact ⟨ret_i HX.out.symm, rfl⟩
    · have ix := ix4
      cases hb : (s.toList == [115, 110, 97, 112, 115, 104, 111, 116])
      · have HX : Hid (R = rankF 5 (knL.drop 5) s.toList) := by show _ = _; rw [HR.out]; simp only [knL, List.drop, rankF, hb]; rfl
        go_wp2_with fail
        go_round
        case rel => exact ⟨5, by omega, rfl, HX⟩
        case measure => decide
      · have HX : Hid (R = 5) := by show _ = _; rw [HR.out]; simp only [knL, List.drop, rankF, hb]; rfl
        go_wp2_with fail
        go_ret
        exact ⟨ret_i HX.out.symm, rfl⟩
    · have ix := ix5
      cases hb : s.toList.isEmpty
      · have HX : Hid (R = rankF 6 (knL.drop 6) s.toList) := by show _ = _; rw [HR.out]; simp only [knL, List.drop, rankF, List.beq_nil_eq, hb]; rfl
        go_wp2_with fail
        go_round
        case rel => exact ⟨6, by omega, rfl, HX⟩
        case measure => decide
      · have HX : Hid (R = 6) := by show _ = _; rw [HR.out]; simp only [knL, List.drop, rankF, List.beq_nil_eq, hb]; rfl
        go_wp2_with fail
        go_ret
        exact ⟨ret_i HX.out.symm, rfl⟩
    · have ix := ix6
      cases hb : (s.toList == [115, 112])
      · have HX : Hid (R = rankF 7 (knL.drop 7) s.toList) := by show _ = _; rw [HR.out]; simp only [knL, List.drop, rankF, hb]; rfl
        go_wp2_with fail
        go_round
        case rel => exact ⟨7, by omega, rfl, HX⟩
        case measure => decide
      · have HX : Hid (R = 7) := by show _ = _; rw [HR.out]; simp only [knL, List.drop, rankF, hb]; rfl
        go_wp2_with fail
        go_ret
        exact ⟨ret_i HX.out.symm, rfl⟩
    · go_wp2_with fail
      go_ret
      exact ⟨ret_i (by rw [HR.out]; rfl), rfl⟩

end Go.Proofs.YtpedljmpobhimaaGreatDoor
