/-
  Walks: Parse.
-/
import Derived.Test.YtmcabgjcppnihaaDb
namespace Go.Proofs.Ytmcabgjcppnihaa
open Go.RowKit Go.Shelf
set_option linter.unusedVariables false

/-- A version as a value. -/
def verV (v : RpmL) : Value := .agg #[.string (ofL v.ep), .string (ofL v.ver), .string (ofL v.rel), .bool v.has]
def verZ : Value := .agg #[.string ⟨#[]⟩, .string ⟨#[]⟩, .string ⟨#[]⟩, .bool false]
/-- What Parse hands back. -/
def PResV (l : List UInt8) : Value :=
  match parseL l with
  | .error x => .tuple #[verZ, .agg #[.int .i64 x.1, .int .i64 (x.2 : Int)]]
  | .ok v => .tuple #[verV v, .agg #[.int .i64 0, .int .i64 0]]
theorem pres_err {l : List UInt8} {x : Int × Nat} (h : parseL l = .error x) : PResV l = .tuple #[.agg #[.string ⟨#[]⟩, .string ⟨#[]⟩, .string ⟨#[]⟩, .bool false], .agg #[.int .i64 x.1, .int .i64 (x.2 : Int)]] := by unfold PResV; rw [h]; rfl
theorem pres_ok {l : List UInt8} {v : RpmL} (h : parseL l = .ok v) : PResV l = .tuple #[.agg #[.string (ofL v.ep), .string (ofL v.ver), .string (ofL v.rel), .bool v.has], .agg #[.int .i64 0, .int .i64 0]] := by unfold PResV; rw [h]; rfl

/-- The results in their cells. -/
theorem fin8 {R : Ending → World → Prop} (tmps : Array Value) (W : World) (B C : Nat) (a b c : ByteArray) (k : Bool) (x y : Int)
    (h2 : tmps.getD 2 undef = .pointer (some ⟨B, 0, none⟩)) (h3 : tmps.getD 3 undef = .pointer (some ⟨C, 0, none⟩))
    (e1 : W.heap[B]? = some (.cells #[.string a, .string b, .string c, .bool k] 23 (0, 0))) (e2 : W.heap[C]? = some (.cells #[.int .i64 x, .int .i64 y] 26 (0, 0)))
    (hR : R (.returned (.tuple #[.agg #[.string a, .string b, .string c, .bool k], .agg #[.int .i64 x, .int .i64 y]])) W) :
    bodyPost Try.prog Try.f8 R .ret { tmps := tmps, defers := [] } W := by
  have r0 := cell_at 0 e1 rfl
  have r1 := cell_at 1 e1 rfl
  have r2 := cell_at 2 e1 rfl
  have r3 := cell_at 3 e1 rfl
  have q0 := cell_at 0 e2 rfl
  have q1 := cell_at 1 e2 rfl
  rw [Array.getD_eq_getD_getElem?] at h2 h3
  refine ⟨rfl, _, ?_, hR⟩
  simp [results, Try.results8, go_sem, h2, h3, r0, r1, r2, r3, q0, q1]
  try rfl

theorem pres_base {l : List UInt8} (h : ¬ 64 < l.length) : parseL l = if relB l then tailL l.length (verE l + 1) (relE l) ⟨epE l, seg l (epS l) (verE l), seg l (verE l + 1) (relE l), true⟩
  else tailL l.length (epS l) (verE l) ⟨epE l, seg l (epS l) (verE l), [], false⟩ := by unfold parseL; rw [if_neg h]

theorem heap3_0 (w : World) (a b c : Obj) : (((w.alloc a).alloc b).alloc c).heap[w.heap.size]? = some a := by
  rw [Below.heap_alloc _ _ _ (by simp; omega), Below.heap_alloc _ _ _ (by simp)]
  exact World.alloc_heap_new w _
theorem heap3_1 (w : World) (a b c : Obj) : (((w.alloc a).alloc b).alloc c).heap[w.heap.size + 1]? = some b := by
  rw [Below.heap_alloc _ _ _ (by simp)]
  have := World.alloc_heap_new (w.alloc a) b
  rwa [World.size_alloc] at this
theorem below3 (w : World) (a b c : Obj) : Below w.heap.size w (((w.alloc a).alloc b).alloc c) := (((Below.refl _ w).alloc (Nat.le_refl _) _).alloc (by simp) _).alloc (by simp; omega) _

set_option maxRecDepth 100000 in
set_option maxHeartbeats 1000000 in
theorem Parse_any (s : ByteArray) (w : World) :
    Calls Try.prog 8 #[.string s] w fun e w' => e = .returned (PResV s.data.toList) ∧ Below w.heap.size w w' := by
  by_cases hl : 64 < s.size
  · have HP : Hid _ := pres_err (show parseL s.data.toList = .error (12, 64) by unfold parseL; rw [if_pos (by rw [len_data]; exact hl)])
    have hl' : (64 : Int) < (s.size : Int) := by omega
    go_enter Try.func8, Try.ntmps8
    go_wp2_with fail
    refine fin8 _ _ w.heap.size (w.heap.size + 1) ⟨#[]⟩ ⟨#[]⟩ ⟨#[]⟩ false 12 64 rfl rfl ?_ ?_ ?_
    · rw [Below.heap_alloc _ _ _ (by simp)]
      exact World.alloc_heap_new w _
    · have := World.alloc_heap_new (w.alloc (.cells #[.string ⟨#[]⟩, .string ⟨#[]⟩, .string ⟨#[]⟩, .bool false] 23)) (.cells #[.int .i64 12, .int .i64 64] 26)
      rwa [World.size_alloc] at this
    · exact ⟨by rw [HP.out]; rfl, ((Below.refl _ w).alloc (Nat.le_refl _) _).alloc (by simp) _⟩
  · have hl' : ¬ (64 : Int) < (s.size : Int) := by omega
    have hb := pres_base (l := s.data.toList) (by rw [len_data]; exact hl)
    have EP := hide (fun w => Epoch_any s w (by omega))
    have h1 := epS_le s.data.toList
    have h2 := verE_le s.data.toList
    have h3 : epS s.data.toList ≤ verE s.data.toList := endR_ge _ _
    rw [len_data] at h1 h2
    have PE1 := fun w => partEnd_any s (epS s.data.toList) w (by omega) h1
    change ∀ w, Calls Try.prog 22 _ w fun e w' => e = .returned (.int .i64 (verE s.data.toList : Int)) ∧ w' = w at PE1
    have PE1 := hide PE1
    have HV := hide (extract_seg s (epS s.data.toList) (verE s.data.toList))
    have hVz : (s.extract (epS s.data.toList) (verE s.data.toList)).size = verE s.data.toList - epS s.data.toList := by rw [ByteArray.size_extract]; omega
    cases hr : relB s.data.toList
    · rw [hr, if_neg (by simp), len_data] at hb
      have hR : ¬ (epS s.data.toList < verE s.data.toList) ∨ ¬ verE s.data.toList < s.size ∨ ∃ h : verE s.data.toList < s.size, ((s[verE s.data.toList].toNat : Int) == 45) = false := by
        by_cases ha : epS s.data.toList < verE s.data.toList
        · by_cases hb : verE s.data.toList < s.size
          · refine .inr (.inr ⟨hb, ?_⟩)
            unfold relB at hr
            rw [atB_in s _ 45 hb] at hr
            simp [ha] at hr ⊢
            exact hr
          · exact .inr (.inl hb)
        · exact .inl ha
      clear hr
      rcases hR with hR | hR | ⟨hR1, hR2⟩
      · have h7 : verE s.data.toList = epS s.data.toList := by omega
        have hV : ((s.extract (epS s.data.toList) (verE s.data.toList)).toList == []) = true := by
          rw [toL, HV.out, ofL_data, h7, seg_self]; rfl
        by_cases h8 : verE s.data.toList < s.size
        · have HP : Hid _ := pres_err (show parseL s.data.toList = .error (10, verE s.data.toList) by rw [hb]; unfold tailL; rw [if_pos h8])
          clear hb h7
          generalize PResV s.data.toList = PR at *
          generalize epE s.data.toList = E0 at *
          generalize verE s.data.toList = e1 at *
          generalize epS s.data.toList = st at *
          have h8' : (e1 : Int) < (s.size : Int) := by omega
          go_enter Try.func8, Try.ntmps8
          go_wp2_with fail
          refine (EP.out _).mono ?_
          rintro e w1 ⟨rfl, rfl⟩
          go_wp2_with fail
          refine (PE1.out _).mono ?_
          rintro e w2 ⟨rfl, rfl⟩
          go_wp2_with fail
          refine fin8 _ _ w.heap.size (w.heap.size + 1) ⟨#[]⟩ ⟨#[]⟩ ⟨#[]⟩ false 10 (e1 : Int) rfl rfl (heap3_0 _ _ _ _) (heap3_1 _ _ _ _) ⟨by rw [HP.out] <;> rfl, below3 _ _ _ _⟩
        · have HP : Hid _ := pres_err (show parseL s.data.toList = .error (11, verE s.data.toList) by rw [hb]; unfold tailL; rw [if_neg h8, if_pos h7])
          have h7b : ((verE s.data.toList : Int) == (epS s.data.toList : Int)) = true := by simp; omega
          clear hb h7
          generalize PResV s.data.toList = PR at *
          generalize epE s.data.toList = E0 at *
          generalize verE s.data.toList = e1 at *
          generalize epS s.data.toList = st at *
          have h8' : ¬ (e1 : Int) < (s.size : Int) := by omega
          go_enter Try.func8, Try.ntmps8
          go_wp2_with fail
          refine (EP.out _).mono ?_
          rintro e w1 ⟨rfl, rfl⟩
          go_wp2_with fail
          refine (PE1.out _).mono ?_
          rintro e w2 ⟨rfl, rfl⟩
          go_wp2_with fail
          refine fin8 _ _ w.heap.size (w.heap.size + 1) ⟨#[]⟩ ⟨#[]⟩ ⟨#[]⟩ false 11 (e1 : Int) rfl rfl (heap3_0 _ _ _ _) (heap3_1 _ _ _ _) ⟨by rw [HP.out] <;> rfl, below3 _ _ _ _⟩
      · by_cases h7 : verE s.data.toList = epS s.data.toList
        · have hV : ((s.extract (epS s.data.toList) (verE s.data.toList)).toList == []) = true := by
            rw [toL, HV.out, ofL_data, h7, seg_self]; rfl
          have HP : Hid _ := pres_err (show parseL s.data.toList = .error (11, verE s.data.toList) by rw [hb]; unfold tailL; rw [if_neg hR, if_pos h7])
          have h7b : ((verE s.data.toList : Int) == (epS s.data.toList : Int)) = true := by simp; omega
          clear hb h7
          generalize PResV s.data.toList = PR at *
          generalize epE s.data.toList = E0 at *
          generalize verE s.data.toList = e1 at *
          generalize epS s.data.toList = st at *
          have h8' : ¬ (e1 : Int) < (s.size : Int) := by omega
          go_enter Try.func8, Try.ntmps8
          go_wp2_with fail
          refine (EP.out _).mono ?_
          rintro e w1 ⟨rfl, rfl⟩
          go_wp2_with fail
          refine (PE1.out _).mono ?_
          rintro e w2 ⟨rfl, rfl⟩
          go_wp2_with fail
          refine fin8 _ _ w.heap.size (w.heap.size + 1) ⟨#[]⟩ ⟨#[]⟩ ⟨#[]⟩ false 11 (e1 : Int) rfl rfl (heap3_0 _ _ _ _) (heap3_1 _ _ _ _) ⟨by rw [HP.out] <;> rfl, below3 _ _ _ _⟩
        · have hV : ((s.extract (epS s.data.toList) (verE s.data.toList)).toList == []) = false := eqE _ (by rw [hVz]; omega)
          have HP : Hid _ := pres_ok (show parseL s.data.toList = .ok ⟨epE s.data.toList, seg s.data.toList (epS s.data.toList) (verE s.data.toList), [], false⟩ by rw [hb]; unfold tailL; rw [if_neg hR, if_neg h7])
          dsimp only at HP
          rw [← extract_seg] at HP
          have h7b : ((verE s.data.toList : Int) == (epS s.data.toList : Int)) = false := by simp; omega
          clear hb h7
          generalize PResV s.data.toList = PR at *
          generalize epE s.data.toList = E0 at *
          generalize verE s.data.toList = e1 at *
          generalize epS s.data.toList = st at *
          have h8' : ¬ (e1 : Int) < (s.size : Int) := by omega
          go_enter Try.func8, Try.ntmps8
          go_wp2_with fail
          refine (EP.out _).mono ?_
          rintro e w1 ⟨rfl, rfl⟩
          go_wp2_with fail
          refine (PE1.out _).mono ?_
          rintro e w2 ⟨rfl, rfl⟩
          go_wp2_with fail
          refine fin8 _ _ w.heap.size (w.heap.size + 1) (ofL E0) (s.extract st e1) ⟨#[]⟩ false 0 0 rfl rfl (heap3_0 _ _ _ _) (heap3_1 _ _ _ _) ⟨by rw [HP.out] <;> rfl, below3 _ _ _ _⟩
      · by_cases h7 : verE s.data.toList = epS s.data.toList
        · have hV : ((s.extract (epS s.data.toList) (verE s.data.toList)).toList == []) = true := by
            rw [toL, HV.out, ofL_data, h7, seg_self]; rfl
          have HP : Hid _ := pres_err (show parseL s.data.toList = .error (10, verE s.data.toList) by rw [hb]; unfold tailL; rw [if_pos hR1])
          clear hb h7
          generalize PResV s.data.toList = PR at *
          generalize epE s.data.toList = E0 at *
          generalize verE s.data.toList = e1 at *
          generalize epS s.data.toList = st at *
          have h8' : (e1 : Int) < (s.size : Int) := by omega
          go_enter Try.func8, Try.ntmps8
          go_wp2_with fail
          refine (EP.out _).mono ?_
          rintro e w1 ⟨rfl, rfl⟩
          go_wp2_with fail
          refine (PE1.out _).mono ?_
          rintro e w2 ⟨rfl, rfl⟩
          go_wp2_with fail
          refine fin8 _ _ w.heap.size (w.heap.size + 1) ⟨#[]⟩ ⟨#[]⟩ ⟨#[]⟩ false 10 (e1 : Int) rfl rfl (heap3_0 _ _ _ _) (heap3_1 _ _ _ _) ⟨by rw [HP.out] <;> rfl, below3 _ _ _ _⟩
        · have hV : ((s.extract (epS s.data.toList) (verE s.data.toList)).toList == []) = false := eqE _ (by rw [hVz]; omega)
          have HP : Hid _ := pres_err (show parseL s.data.toList = .error (10, verE s.data.toList) by rw [hb]; unfold tailL; rw [if_pos hR1])
          clear hb h7
          generalize PResV s.data.toList = PR at *
          generalize epE s.data.toList = E0 at *
          generalize verE s.data.toList = e1 at *
          generalize epS s.data.toList = st at *
          have h8' : (e1 : Int) < (s.size : Int) := by omega
          go_enter Try.func8, Try.ntmps8
          go_wp2_with fail
          refine (EP.out _).mono ?_
          rintro e w1 ⟨rfl, rfl⟩
          go_wp2_with fail
          refine (PE1.out _).mono ?_
          rintro e w2 ⟨rfl, rfl⟩
          go_wp2_with fail
          refine fin8 _ _ w.heap.size (w.heap.size + 1) ⟨#[]⟩ ⟨#[]⟩ ⟨#[]⟩ false 10 (e1 : Int) rfl rfl (heap3_0 _ _ _ _) (heap3_1 _ _ _ _) ⟨by rw [HP.out] <;> rfl, below3 _ _ _ _⟩
    · rw [hr, if_pos rfl, len_data] at hb
      have h4 := relB_lt hr
      rw [len_data] at h4
      have h5 : relE s.data.toList ≤ s.size := by have := endR_le s.data.toList (verE s.data.toList + 1) (by rw [len_data]; omega); rw [len_data] at this; exact this
      have h6 : verE s.data.toList + 1 ≤ relE s.data.toList := endR_ge _ _
      have PE2 := fun w => partEnd_any s (verE s.data.toList + 1) w (by omega) (by omega)
      change ∀ w, Calls Try.prog 22 _ w fun e w' => e = .returned (.int .i64 (relE s.data.toList : Int)) ∧ w' = w at PE2
      rw [Int.natCast_add, Int.natCast_one] at PE2
      have PE2 := hide PE2
      have hr' : epS s.data.toList < verE s.data.toList ∧ (s[verE s.data.toList].toNat : Int) = 45 := by
        unfold relB at hr
        rw [Bool.and_eq_true, atB_in s _ 45 h4] at hr
        simpa using hr
      clear hr
      have hx : ((s[verE s.data.toList].toNat : Int) == 45) = true := by simpa using hr'.2
      have hV : ((s.extract (epS s.data.toList) (verE s.data.toList)).toList == []) = false := eqE _ (by rw [hVz]; have := hr'.1; omega)
      clear hr'
      by_cases h8 : relE s.data.toList < s.size
      · have HP : Hid _ := pres_err (show parseL s.data.toList = .error (10, relE s.data.toList) by rw [hb]; unfold tailL; rw [if_pos h8])
        clear hb
        generalize PResV s.data.toList = PR at *
        generalize epE s.data.toList = E0 at *
        generalize verE s.data.toList = e1 at *
        generalize epS s.data.toList = st at *
        generalize relE s.data.toList = e2 at *
        have h8' : (e2 : Int) < (s.size : Int) := by omega
        have h4' : (e1 : Int) < (s.size : Int) := by omega
        go_enter Try.func8, Try.ntmps8
        go_wp2_with fail
        refine (EP.out _).mono ?_
        rintro e w1 ⟨rfl, rfl⟩
        go_wp2_with fail
        refine (PE1.out _).mono ?_
        rintro e w2 ⟨rfl, rfl⟩
        go_wp2_with fail
        refine (PE2.out _).mono ?_
        rintro e w3 ⟨rfl, rfl⟩
        go_wp2_with fail
        refine fin8 _ _ w.heap.size (w.heap.size + 1) ⟨#[]⟩ ⟨#[]⟩ ⟨#[]⟩ false 10 (e2 : Int) rfl rfl (heap3_0 _ _ _ _) (heap3_1 _ _ _ _) ⟨by rw [HP.out] <;> rfl, below3 _ _ _ _⟩
      · have h8b : ¬ relE s.data.toList < s.size := h8
        by_cases h7 : relE s.data.toList = verE s.data.toList + 1
        · have HP : Hid _ := pres_err (show parseL s.data.toList = .error (11, relE s.data.toList) by rw [hb]; unfold tailL; rw [if_neg h8, if_pos h7])
          have h7b : ((relE s.data.toList : Int) == (verE s.data.toList : Int) + 1) = true := by simp; omega
          clear hb h7
          generalize PResV s.data.toList = PR at *
          generalize epE s.data.toList = E0 at *
          generalize verE s.data.toList = e1 at *
          generalize epS s.data.toList = st at *
          generalize relE s.data.toList = e2 at *
          have h8' : ¬ (e2 : Int) < (s.size : Int) := by omega
          have h4' : (e1 : Int) < (s.size : Int) := by omega
          go_enter Try.func8, Try.ntmps8
          go_wp2_with fail
          refine (EP.out _).mono ?_
          rintro e w1 ⟨rfl, rfl⟩
          go_wp2_with fail
          refine (PE1.out _).mono ?_
          rintro e w2 ⟨rfl, rfl⟩
          go_wp2_with fail
          refine (PE2.out _).mono ?_
          rintro e w3 ⟨rfl, rfl⟩
          go_wp2_with fail
          refine fin8 _ _ w.heap.size (w.heap.size + 1) ⟨#[]⟩ ⟨#[]⟩ ⟨#[]⟩ false 11 (e2 : Int) rfl rfl (heap3_0 _ _ _ _) (heap3_1 _ _ _ _) ⟨by rw [HP.out] <;> rfl, below3 _ _ _ _⟩
        · have HP : Hid _ := pres_ok (show parseL s.data.toList = .ok ⟨epE s.data.toList, seg s.data.toList (epS s.data.toList) (verE s.data.toList), seg s.data.toList (verE s.data.toList + 1) (relE s.data.toList), true⟩ by rw [hb]; unfold tailL; rw [if_neg h8, if_neg h7])
          dsimp only at HP
          rw [← extract_seg, ← extract_seg] at HP
          have h7b : ((relE s.data.toList : Int) == (verE s.data.toList : Int) + 1) = false := by simp; omega
          clear hb h7
          generalize PResV s.data.toList = PR at *
          generalize epE s.data.toList = E0 at *
          generalize verE s.data.toList = e1 at *
          generalize epS s.data.toList = st at *
          generalize relE s.data.toList = e2 at *
          have h8' : ¬ (e2 : Int) < (s.size : Int) := by omega
          have h4' : (e1 : Int) < (s.size : Int) := by omega
          go_enter Try.func8, Try.ntmps8
          go_wp2_with fail
          refine (EP.out _).mono ?_
          rintro e w1 ⟨rfl, rfl⟩
          go_wp2_with fail
          refine (PE1.out _).mono ?_
          rintro e w2 ⟨rfl, rfl⟩
          go_wp2_with fail
          refine (PE2.out _).mono ?_
          rintro e w3 ⟨rfl, rfl⟩
          go_wp2_with fail
          refine fin8 _ _ w.heap.size (w.heap.size + 1) (ofL E0) (s.extract st e1) (s.extract (e1 + 1) e2) true 0 0 rfl rfl (heap3_0 _ _ _ _) (heap3_1 _ _ _ _) ⟨by rw [HP.out] <;> rfl, below3 _ _ _ _⟩

end Go.Proofs.Ytmcabgjcppnihaa
