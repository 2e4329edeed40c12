/-
  Walks: the document's Tokens, Rank and Snapshot.
-/
import Derived.Test.YtpedljmpobhimaaGreatDoorEe
import Derived.Test.YtpedljmpobhimaaGreatDoorDk
namespace Go.Proofs.YtpedljmpobhimaaGreatDoor
open Go.RowKit Go.Shelf
set_option linter.unusedVariables false

theorem fin9 {R : Ending → World → Prop} (tmps : Array Value) (W : World) (B : Nat) (v e p : Value) (h1 : tmps.getD 2 undef = v) (h2 : tmps.getD 3 undef = .pointer (some ⟨B, 0, none⟩)) (e1 : W.heap[B]? = some (.cells #[e, p] 27 (0, 0)))
    (hR : R (.returned (.tuple #[v, .agg #[e, p]])) W) :
    bodyPost Tryz.prog Tryz.f39 R .ret { tmps := tmps, defers := [] } W := by
  have r0 := cell_at 0 e1 rfl
  have r1 := cell_at 1 e1 rfl
  rw [Array.getD_eq_getD_getElem?] at h1 h2
  refine ⟨rfl, _, ?_, hR⟩
  simp [results, Tryz.results39, go_sem, h1, h2, r0, r1]
  try rfl

theorem beq_swap (a b : List UInt8) : (a == b) = (b == a) := by
  rw [Bool.eq_iff_iff, beq_iff_eq, beq_iff_eq]
  exact eq_comm
/-- What the document's Tokens leaves. -/
def RTPost (l : List UInt8) (w : World) (r : Ending) (w' : World) : Prop := (∃ x, toksL l = .error x ∧ r = .returned (.tuple #[.slice none 0 0, .agg #[.int .i64 x.1, .int .i64 (x.2 : Int)]]) ∧ Below w.heap.size w w') ∨
  (∃ ts ao cv, toksL l = .ok ts ∧ r = .returned (.tuple #[.slice ao ts.length cv, .agg #[.int .i64 0, .int .i64 0]]) ∧ Toks w' (.slice ao ts.length cv) ts ∧ Below w.heap.size w w')

set_option maxRecDepth 100000 in
set_option maxHeartbeats 1000000 in
theorem RTokens_any (s : ByteArray) (w : World) : Calls Tryz.prog 39 #[.string s] w (RTPost s.data.toList w) := by
  have C := hide (fun w => Rtokens_any s w)
  have eN := World.alloc_heap_new w (.cells #[.int .i64 0, .int .i64 0] 27)
  have b0 : Below w.heap.size w (w.alloc (.cells #[.int .i64 0, .int .i64 0] 27)) := (Below.refl _ w).alloc (Nat.le_refl _) _
  go_enter Tryz.func39, Tryz.ntmps39
  go_wp2_with fail
  refine (C.out _).mono ?_
  rintro e w1 (⟨x, hx, rfl, b1⟩ | ⟨ts, ao, cv, hx, rfl, hT, b1⟩)
  · have e1 := (b1.block w.heap.size (by simp)).trans eN
    have c0 := cell_at 0 e1 rfl
    have c1 := cell_at 1 e1 rfl
    have f0 := one_free 0 e1
    have f1 := one_free 1 e1
    have HX := hide hx
    have bw := b0.trans (b1.mono b0.size)
    clear hx
    go_wp2_with fail
    refine fin9 _ _ w.heap.size _ _ _ rfl rfl (set_lies 1 _ (set_lies 0 _ e1)) (.inl ⟨x, HX.out, rfl, ?_⟩)
    exact (bw.setCell (p := ⟨w.heap.size, 0, none⟩) (Nat.le_refl _) _).setCell (p := ⟨w.heap.size, 1, none⟩) (Nat.le_refl _) _
  · have e1 := (b1.block w.heap.size (by simp)).trans eN
    have c0 := cell_at 0 e1 rfl
    have c1 := cell_at 1 e1 rfl
    have f0 := one_free 0 e1
    have f1 := one_free 1 e1
    have HX := hide hx
    have HTT := hide hT
    have bw := b0.trans (b1.mono b0.size)
    clear hx hT
    go_wp2_with fail
    have e9 : ((w1.setCell ⟨w.heap.size, 0, none⟩ (.int .i64 0)).setCell ⟨w.heap.size, 1, none⟩ (.int .i64 0)).heap[w.heap.size]? = some (.cells #[.int .i64 0, .int .i64 0] 27 (0, 0)) := set_lies 1 _ (set_lies 0 _ e1)
    refine fin9 _ _ w.heap.size _ _ _ rfl rfl e9 (.inr ⟨ts, ao, cv, HX.out, rfl, ?_, ?_⟩)
    · have hsame : ∀ k, ((w1.setCell ⟨w.heap.size, 0, none⟩ (.int .i64 0)).setCell ⟨w.heap.size, 1, none⟩ (.int .i64 0)).heap[k]? = w1.heap[k]? := fun k => by
        by_cases hk : k = w.heap.size
        · rw [hk, e9, e1]
        · exact (Below.heap_setCell _ _ _ k hk).trans (Below.heap_setCell _ _ _ k hk)
      obtain ⟨a', cap', hv, h0 | ⟨b, off, ha, hlt, hc⟩⟩ := HTT.out
      · exact ⟨a', cap', hv, .inl h0⟩
      · exact ⟨a', cap', hv, .inr ⟨b, off, ha, Nat.lt_of_lt_of_le hlt ((KeepsOthers.setCell _ _ _).trans (KeepsOthers.setCell _ _ _)).size, hc.of_block (hsame b)⟩⟩
    · exact (bw.setCell (p := ⟨w.heap.size, 0, none⟩) (Nat.le_refl _) _).setCell (p := ⟨w.heap.size, 1, none⟩) (Nat.le_refl _) _

set_option maxRecDepth 100000 in
set_option maxHeartbeats 2000000 in
theorem RRank_any (s : ByteArray) (w : World) :
    Calls Tryz.prog 88 #[.string s] w fun e w' => e = .returned (.int .i64 (rankL s.data.toList)) ∧ Below w.heap.size w w' := by
  have HR0 := hide (rank_F s.data.toList)
  rw [← toL] at HR0 ⊢
  generalize rankL s.toList = R at *
  have bw : Below w.heap.size w (w.alloc (.cells #[.string ⟨#[97, 108, 112, 104, 97]⟩, .string ⟨#[98, 101, 116, 97]⟩, .string ⟨#[109, 105, 108, 101, 115, 116, 111, 110, 101]⟩, .string ⟨#[114, 99]⟩, .string ⟨#[115, 110, 97, 112, 115, 104, 111, 116]⟩, .string ⟨#[]⟩, .string ⟨#[115, 112]⟩] 9)) := (Below.refl _ w).alloc (Nat.le_refl _) _
  have eW := World.alloc_heap_new w (.cells #[.string ⟨#[97, 108, 112, 104, 97]⟩, .string ⟨#[98, 101, 116, 97]⟩, .string ⟨#[109, 105, 108, 101, 115, 116, 111, 110, 101]⟩, .string ⟨#[114, 99]⟩, .string ⟨#[115, 110, 97, 112, 115, 104, 111, 116]⟩, .string ⟨#[]⟩, .string ⟨#[115, 112]⟩] 9)
  have HBW := hide bw
  have HEW := hide eW
  clear bw eW
  go_enter Tryz.func88, Tryz.ntmps88
  go_wp2_with fail
  generalize w.alloc (.cells #[.string ⟨#[97, 108, 112, 104, 97]⟩, .string ⟨#[98, 101, 116, 97]⟩, .string ⟨#[109, 105, 108, 101, 115, 116, 111, 110, 101]⟩, .string ⟨#[114, 99]⟩, .string ⟨#[115, 110, 97, 112, 115, 104, 111, 116]⟩, .string ⟨#[]⟩, .string ⟨#[115, 112]⟩] 9) = W1 at *
  have g0 := cell_at 0 HEW.out rfl
  have g1 := cell_at 1 HEW.out rfl
  have g2 := cell_at 2 HEW.out rfl
  have g3 := cell_at 3 HEW.out rfl
  have g4 := cell_at 4 HEW.out rfl
  have g5 := cell_at 5 HEW.out rfl
  have g6 := cell_at 6 HEW.out rfl
  go_loop [4] (fun i => ∃ k : Nat, k ≤ 7 ∧ i = .int .i64 k ∧ Hid (R = rankF k (knL.drop k) s.toList)) (fun i => 7 - (intOf i).toNat)
  case atStart => exact ⟨0, by omega, rfl, HR0⟩
  case round =>
    obtain ⟨k, hk, rfl, HR⟩ := hrel
    have hc : k = 0 ∨ k = 1 ∨ k = 2 ∨ k = 3 ∨ k = 4 ∨ k = 5 ∨ k = 6 ∨ k = 7 := by omega
    rcases hc with rfl | rfl | rfl | rfl | rfl | rfl | rfl | rfl
    · cases hb : (s.toList == [97, 108, 112, 104, 97])
      · have HX : Hid (R = rankF 1 (knL.drop 1) s.toList) := by show _ = _; rw [HR.out]; simp only [knL, List.drop, rankF, hb]; rfl
        have hb2 : ([97, 108, 112, 104, 97] == s.toList) = false := by rw [beq_swap]; exact hb
        go_wp2_with fail
        go_round
        case rel => exact ⟨1, by omega, rfl, HX⟩
        case measure => decide
      · have HX : Hid (R = 1) := by show _ = _; rw [HR.out]; simp only [knL, List.drop, rankF, hb]; rfl
        have hb2 : ([97, 108, 112, 104, 97] == s.toList) = true := by rw [beq_swap]; exact hb
        go_wp2_with fail
        go_ret
        exact ⟨ret_i HX.out.symm, HBW.out⟩
    · cases hb : (s.toList == [98, 101, 116, 97])
      · have HX : Hid (R = rankF 2 (knL.drop 2) s.toList) := by show _ = _; rw [HR.out]; simp only [knL, List.drop, rankF, hb]; rfl
        have hb2 : ([98, 101, 116, 97] == s.toList) = false := by rw [beq_swap]; exact hb
        go_wp2_with fail
        go_round
        case rel => exact ⟨2, by omega, rfl, HX⟩
        case measure => decide
      · have HX : Hid (R = 2) := by show _ = _; rw [HR.out]; simp only [knL, List.drop, rankF, hb]; rfl
        have hb2 : ([98, 101, 116, 97] == s.toList) = true := by rw [beq_swap]; exact hb
        go_wp2_with fail
        go_ret
        exact ⟨ret_i HX.out.symm, HBW.out⟩
    · cases hb : (s.toList == [109, 105, 108, 101, 115, 116, 111, 110, 101])
      · have HX : Hid (R = rankF 3 (knL.drop 3) s.toList) := by show _ = _; rw [HR.out]; simp only [knL, List.drop, rankF, hb]; rfl
        have hb2 : ([109, 105, 108, 101, 115, 116, 111, 110, 101] == s.toList) = false := by rw [beq_swap]; exact hb
        go_wp2_with fail
        go_round
        case rel => exact ⟨3, by omega, rfl, HX⟩
        case measure => decide
      · have HX : Hid (R = 3) := by show _ = _; rw [HR.out]; simp only [knL, List.drop, rankF, hb]; rfl
        have hb2 : ([109, 105, 108, 101, 115, 116, 111, 110, 101] == s.toList) = true := by rw [beq_swap]; exact hb
        go_wp2_with fail
        go_ret
        exact ⟨ret_i HX.out.symm, HBW.out⟩
    · cases hb : (s.toList == [114, 99])
      · have HX : Hid (R = rankF 4 (knL.drop 4) s.toList) := by show _ = _; rw [HR.out]; simp only [knL, List.drop, rankF, hb]; rfl
        have hb2 : ([114, 99] == s.toList) = false := by rw [beq_swap]; exact hb
        go_wp2_with fail
        go_round
        case rel => exact ⟨4, by omega, rfl, HX⟩
        case measure => decide
      · have HX : Hid (R = 4) := by show _ = _; rw [HR.out]; simp only [knL, List.drop, rankF, hb]; rfl
        have hb2 : ([114, 99] == s.toList) = true := by rw [beq_swap]; exact hb
        go_wp2_with fail
        go_ret
        exact ⟨ret_i HX.out.symm, HBW.out⟩
    · cases hb : (s.toList == [115, 110, 97, 112, 115, 104, 111, 116])
      · have HX : Hid (R = rankF 5 (knL.drop 5) s.toList) := by show _ = _; rw [HR.out]; simp only [knL, List.drop, rankF, hb]; rfl
        have hb2 : ([115, 110, 97, 112, 115, 104, 111, 116] == s.toList) = false := by rw [beq_swap]; exact hb
        go_wp2_with fail
        go_round
        case rel => exact ⟨5, by omega, rfl, HX⟩
        case measure => decide
      · have HX : Hid (R = 5) := by show _ = _; rw [HR.out]; simp only [knL, List.drop, rankF, hb]; rfl
        have hb2 : ([115, 110, 97, 112, 115, 104, 111, 116] == s.toList) = true := by rw [beq_swap]; exact hb
        go_wp2_with fail
        go_ret
        exact ⟨ret_i HX.out.symm, HBW.out⟩
    · cases hb : s.toList.isEmpty
      · have HX : Hid (R = rankF 6 (knL.drop 6) s.toList) := by show _ = _; rw [HR.out]; simp only [knL, List.drop, rankF, List.beq_nil_eq, hb]; rfl
        have hb2 : ([] == s.toList) = false := by rw [beq_swap]; rw [List.beq_nil_eq]; exact hb
        go_wp2_with fail
        go_round
        case rel => exact ⟨6, by omega, rfl, HX⟩
        case measure => decide
      · have HX : Hid (R = 6) := by show _ = _; rw [HR.out]; simp only [knL, List.drop, rankF, List.beq_nil_eq, hb]; rfl
        have hb2 : ([] == s.toList) = true := by rw [beq_swap]; rw [List.beq_nil_eq]; exact hb
        go_wp2_with fail
        go_ret
        exact ⟨ret_i HX.out.symm, HBW.out⟩
    · cases hb : (s.toList == [115, 112])
      · have HX : Hid (R = rankF 7 (knL.drop 7) s.toList) := by show _ = _; rw [HR.out]; simp only [knL, List.drop, rankF, hb]; rfl
        have hb2 : ([115, 112] == s.toList) = false := by rw [beq_swap]; exact hb
        go_wp2_with fail
        go_round
        case rel => exact ⟨7, by omega, rfl, HX⟩
        case measure => decide
      · have HX : Hid (R = 7) := by show _ = _; rw [HR.out]; simp only [knL, List.drop, rankF, hb]; rfl
        have hb2 : ([115, 112] == s.toList) = true := by rw [beq_swap]; exact hb
        go_wp2_with fail
        go_ret
        exact ⟨ret_i HX.out.symm, HBW.out⟩
    · go_wp2_with fail
      go_ret
      exact ⟨ret_i (by rw [HR.out]; rfl), HBW.out⟩

end Go.Proofs.YtpedljmpobhimaaGreatDoor
