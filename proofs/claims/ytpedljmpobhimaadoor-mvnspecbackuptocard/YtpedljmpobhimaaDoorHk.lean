/-
  Walks: Parse.
-/
import Derived.Test.YtpedljmpobhimaaDoorHj
namespace Go.Proofs.YtpedljmpobhimaaDoor
open Go.RowKit Go.Shelf
set_option linter.unusedVariables false

/-- The last step of Parse. -/
theorem pa_end {w W : World} (Z : TZ w W) (s : List UInt8) (a : Option Addr) (n c : Nat) (e : Int) (p : Nat) (ms : List Mr) (P : Pa) (hP : P = ⟨e, p, s, ms⟩) (hm : MrsN (w.heap.size + 2) W (.slice a n c) ms) (tmps : Array Value)
    (h1 : tmps.getD 2 undef = .pointer (some ⟨w.heap.size, 0, none⟩)) (h2 : tmps.getD 3 undef = .pointer (some ⟨w.heap.size + 1, 0, none⟩)) :
    bodyPost Tryd.prog Tryd.f5 (PaPost P w) .ret { tmps := tmps, defers := [] } (st4 w W (.string (ofL s)) (.slice a n c) (.int .i64 e) (.int .i64 (p : Int))).drew ∧
    bodyPost Tryd.prog Tryd.f5 (PaPost P w) .ret { tmps := tmps, defers := [] } (st4 w W (.string (ofL s)) (.slice a n c) (.int .i64 e) (.int .i64 (p : Int))) := by
  subst hP
  obtain ⟨k1, k2, k3⟩ := Z.put (.string (ofL s)) (.slice a n c) (.int .i64 e) (.int .i64 (p : Int))
  refine ⟨fin6 _ _ w.heap.size (w.heap.size + 1) _ _ _ _ _ _ h1 h2 k1 k2 ⟨_, rfl, ?_, k3.trans (drew_below _ _)⟩, fin6 _ _ w.heap.size (w.heap.size + 1) _ _ _ _ _ _ h1 h2 k1 k2 ⟨_, rfl, ?_, k3⟩⟩
  · exact hm.keep (by omega) (fun b hb _ => st4_other b (by omega) (by omega))
  · exact hm.keep (by omega) (fun b hb _ => st4_other b (by omega) (by omega))

set_option maxRecDepth 100000 in
set_option maxHeartbeats 4000000 in
theorem Parse_any (s : ByteArray) (w : World) (hk : Kn w) :
    Calls Tryd.prog 5 #[.string s] w (PaPost (paL s.data.toList) w) := by
  have hX : paL s.data.toList = if 256 < s.size then ⟨12, 256, [], []⟩ else if hdIn [91, 40] (s.data.toList.drop (blN s.data.toList)) then
    (if (allF s.data.toList).err ≠ 0 then ⟨(allF s.data.toList).err, (allF s.data.toList).at', [], []⟩ else ⟨0, 0, [], (allF s.data.toList).ms⟩) else softL s.data.toList := by unfold paL; rw [len_data]
  have Z0 := hide (TZ.start hk)
  by_cases h : 256 < s.size
  · rw [if_pos h] at hX
    have HX := hide hX
    clear hX
    have h' : (256 : Int) < (s.size : Int) := by omega
    obtain ⟨f0, f1, f2, f3, c0, c1, c2, c3⟩ := Z0.out.seen
    clear h
    go_enter Tryd.func5, Tryd.ntmps5
    go_wp2_with fail
    have k := World.alloc_heap_new (w.alloc (.cells #[.string ⟨#[]⟩, .slice none 0 0] 24)) (.cells #[.int .i64 12, .int .i64 256] 28)
    rw [World.size_alloc] at k
    rw [HX.out]
    exact fin6 _ _ w.heap.size (w.heap.size + 1) ⟨#[]⟩ none 0 0 _ _ rfl rfl ((Below.heap_alloc _ _ _ (by simp)).trans (World.alloc_heap_new w _)) k ⟨_, rfl, MrsN.none _ _, ((Below.refl _ w).alloc (Nat.le_refl _) _).alloc (by simp) _⟩
  · rw [if_neg h] at hX
    have hs : s.size ≤ 256 := by omega
    have h' : ¬ (256 : Int) < (s.size : Int) := by omega
    have R1 := fun W => Run6 s 0 hs (Nat.zero_le _) 0 rfl W
    rw [List.drop_zero, Nat.zero_add] at R1
    replace R1 := hide R1
    have RG := fun W (hlt : blN s.data.toList < s.size) hW => readRanges_any s (blN s.data.toList) W hs hlt hW
    change ∀ W, _ → Kn W → Calls Tryd.prog 13 #[.string s, .int .i64 (blN s.data.toList : Int)] W (RgPost (allF s.data.toList) W) at RG
    replace RG := hide RG
    have RS := hide (fun W hW => readSoft_any s W hs hW)
    have I1 : Hid (∀ W, Calls Tryd.prog 12 #[.string s, .int .i64 (blN s.data.toList : Int), .string ⟨#[91, 40]⟩] W fun e w' => e = .returned (.bool (hdIn [91, 40] (s.data.toList.drop (blN s.data.toList)))) ∧ w' = W) := fun W => isAt_any s ⟨#[91, 40]⟩ (blN s.data.toList) W
    have HL : Hid (hdIn [91, 40] (s.data.toList.drop (blN s.data.toList)) = true → blN s.data.toList < s.size) := fun h => by have := hdIn_lt h; rwa [len_data] at this
    have HX := hide hX
    clear hX h hk
    generalize paL s.data.toList = P at *
    generalize allF s.data.toList = F at *
    generalize hSF : softL s.data.toList = S at *
    have HSM : Hid (S.ms = []) := by show _ = _; rw [← hSF]; unfold softL; split; rfl; split <;> rfl
    clear hSF
    generalize hdIn [91, 40] (s.data.toList.drop (blN s.data.toList)) = H at *
    generalize blN s.data.toList = b at *
    go_enter Tryd.func5, Tryd.ntmps5
    go_wp2_with fail
    generalize (w.alloc (.cells #[.string ⟨#[]⟩, .slice none 0 0] 24)).alloc (.cells #[.int .i64 0, .int .i64 0] 28) = W0 at *
    refine (R1.out _).mono ?_
    rintro e w1 ⟨rfl, hw1⟩
    rw [hw1]
    clear hw1 w1
    go_wp2_with fail
    refine (I1.out _).mono ?_
    rintro e w1 ⟨rfl, hw1⟩
    rw [hw1]
    clear hw1 w1
    cases H with
    | true =>
      rw [if_pos rfl] at HX
      have hlt := HL.out rfl
      clear HL RS
      go_wp2_with fail
      refine (RG.out _ hlt Z0.out.kn).mono ?_
      rintro e w3 ⟨b3, ⟨hne, rfl⟩ | ⟨h0, v, rfl, hm⟩⟩
      · rw [if_pos hne] at HX
        have Z3 := Z0.out.next b3
        have hB1 : w3.heap.size ≠ w.heap.size := by have := Z3.lt; omega
        have hB2 : w3.heap.size ≠ w.heap.size + 1 := by have := Z3.lt; omega
        have Z4 := hide (Z3.next ((Below.refl _ w3).alloc (Nat.le_refl _) (.cells #[.int .i64 F.err, .int .i64 (F.at' : Int)] 28)))
        have N4 := hide (World.alloc_heap_new w3 (.cells #[.int .i64 F.err, .int .i64 (F.at' : Int)] 28))
        clear hne Z3 b3 Z0
        go_wp2_with fail
        generalize w3.alloc (.cells #[.int .i64 F.err, .int .i64 (F.at' : Int)] 28) = W4 at *
        generalize w3.heap.size = B4 at *
        obtain ⟨f0, f1, f2, f3, c0, c1, c2, c3⟩ := Z4.out.seen
        have k0 : W4.cell? ⟨B4, 0, none⟩ = some (.int .i64 F.err) := cell_at 0 N4.out rfl
        have k1 : W4.cell? ⟨B4, 1, none⟩ = some (.int .i64 (F.at' : Int)) := cell_at 1 N4.out rfl
        go_region
        all_goals
          go_wp2_with fail
          refine And.left (pa_end Z4.out [] none 0 0 F.err F.at' [] _ HX.out (MrsN.none _ _) _ ?_ ?_) <;> rfl
      · rw [if_neg (by simpa using h0)] at HX
        have hZl := Z0.out.lt
        obtain ⟨a3, cap3, rfl, hm3⟩ := id hm
        have Z3 := Z0.out.next b3
        have hB1 : w3.heap.size ≠ w.heap.size := by have := Z3.lt; omega
        have hB2 : w3.heap.size ≠ w.heap.size + 1 := by have := Z3.lt; omega
        have Z4 := hide (Z3.next ((Below.refl _ w3).alloc (Nat.le_refl _) (.cells #[.int .i64 0, .int .i64 0] 28)))
        have N4 := hide (World.alloc_heap_new w3 (.cells #[.int .i64 0, .int .i64 0] 28))
        have HM : Hid (MrsN (w.heap.size + 2) (w3.alloc (.cells #[.int .i64 0, .int .i64 0] 28)) (.slice a3 F.ms.length cap3) F.ms) := hm.keep (by omega) (fun b _ hb => Below.heap_alloc _ _ _ hb)
        clear hm hm3 Z3 b3 Z0 hZl
        go_wp2_with fail
        generalize w3.alloc (.cells #[.int .i64 0, .int .i64 0] 28) = W4 at *
        generalize w3.heap.size = B4 at *
        obtain ⟨f0, f1, f2, f3, c0, c1, c2, c3⟩ := Z4.out.seen
        have k0 : W4.cell? ⟨B4, 0, none⟩ = some (.int .i64 0) := cell_at 0 N4.out rfl
        have k1 : W4.cell? ⟨B4, 1, none⟩ = some (.int .i64 0) := cell_at 1 N4.out rfl
        go_region
        all_goals
          go_wp2_with fail
          refine And.left (pa_end Z4.out [] _ _ _ 0 0 F.ms _ HX.out HM.out _ ?_ ?_) <;> rfl
    | false =>
      rw [if_neg (by simp)] at HX
      clear HL RG
      go_wp2_with fail
      refine (RS.out _ Z0.out.kn).mono ?_
      rintro e w3 ⟨rfl, b3⟩
      have Z3 := Z0.out.next b3
      have hB1 : w3.heap.size ≠ w.heap.size := by have := Z3.lt; omega
      have hB2 : w3.heap.size ≠ w.heap.size + 1 := by have := Z3.lt; omega
      have Z4 := hide (Z3.next ((Below.refl _ w3).alloc (Nat.le_refl _) (.cells #[.int .i64 S.err, .int .i64 (S.at' : Int)] 28)))
      have N4 := hide (World.alloc_heap_new w3 (.cells #[.int .i64 S.err, .int .i64 (S.at' : Int)] 28))
      clear Z3 b3 Z0
      go_wp2_with fail
      generalize w3.alloc (.cells #[.int .i64 S.err, .int .i64 (S.at' : Int)] 28) = W4 at *
      generalize w3.heap.size = B4 at *
      obtain ⟨f0, f1, f2, f3, c0, c1, c2, c3⟩ := Z4.out.seen
      have k0 : W4.cell? ⟨B4, 0, none⟩ = some (.int .i64 S.err) := cell_at 0 N4.out rfl
      have k1 : W4.cell? ⟨B4, 1, none⟩ = some (.int .i64 (S.at' : Int)) := cell_at 1 N4.out rfl
      go_region
      all_goals
        go_wp2_with fail
        refine And.left (pa_end Z4.out S.soft none 0 0 S.err S.at' S.ms _ HX.out (by rw [HSM.out]; exact MrsN.none _ _) _ ?_ ?_) <;> rfl

end Go.Proofs.YtpedljmpobhimaaDoor
