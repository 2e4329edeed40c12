/-
  Walks: the document's Parse, where other bytes stand behind digits.
-/
import Derived.Test.YtmcabgjcppnihaaDy
namespace Go.Proofs.Ytmcabgjcppnihaa
open Go.RowKit Go.Shelf
set_option linter.unusedVariables false

set_option maxRecDepth 100000 in
set_option maxHeartbeats 2000000 in
theorem RParse_F20 (s : ByteArray) (w : World) (hl : ¬ 64 < s.data.toList.length) (hr0 : 0 < runL 1 s.data.toList) (hr1 : runL 1 s.data.toList < s.size) (hx : ¬ (s[runL 1 s.data.toList].toNat : Int) = 58)
    (g1 : verE s.data.toList = epS s.data.toList) :
    Calls Try.prog 9 #[.string s] w fun e w' => e = .returned (PResV s.data.toList) ∧ Below w.heap.size w w' := by
  have HP := pres_err (parse_R0 hl g1)
  dsimp only at HP
  rw [len_data] at HP
  have HP := hide HP
  rw [len_data] at hl 
  have h1 := epS_le s.data.toList
  have h2 := verE_le s.data.toList
  have h3 : epS s.data.toList ≤ verE s.data.toList := endR_ge _ _
  rw [len_data] at h1 h2
  have R0 := hide (fun w => RRun00 s w (by omega))
  have PE1 := fun w => Rrun_any s (epS s.data.toList) w (by omega) h1
  change ∀ w, Calls Try.prog 25 _ w fun e w' => e = .returned (.int .i64 (verE s.data.toList : Int)) ∧ w' = w at PE1
  have FT := fun w => Rfault_any s (epS s.data.toList) w
  have hB : epB s.data.toList = false := by unfold epB; rw [atB_in s _ 58 hr1]; simp; intro _; exact hx
  have hS : epS s.data.toList = 0 := by unfold epS; rw [hB]; rfl
  have hE : epE s.data.toList = [48] := by unfold epE; rw [hB]; rfl
  have hxb : ((s[runL 1 s.data.toList].toNat : Int) == 58) = false := by simpa using hx
  rw [hS] at PE1 FT HP h1 h3 g1
  have FT := hide FT
  have PE1 := hide PE1
  clear hB hS hx
  generalize PResV s.data.toList = PR at *
  clear hE
  generalize verE s.data.toList = e1 at *
  generalize runL 1 s.data.toList = d at *
  have hl' : ¬ (64 : Int) < (s.size : Int) := by omega
  have hr0' : (0 : Int) < (d : Int) := by omega
  have hr1' : (d : Int) < (s.size : Int) := by omega
  have q0 : ((e1 : Int) == 0) = true := by simp; omega
  clear g1
  go_enter Try.func9, Try.ntmps9
  go_wp2_with fail
  refine (R0.out _).mono ?_
  rintro e w' ⟨rfl, rfl⟩
  go_wp2_with fail
  refine (PE1.out _).mono ?_
  rintro e w' ⟨rfl, rfl⟩
  go_wp2_with fail
  refine (FT.out _).mono ?_
  rintro e w9 ⟨rfl, b9⟩
  have pw := (PW.start w _).next b9
  clear b9
  obtain ⟨c0, c1, c2, c3, c4, c5⟩ := pw.cells
  obtain ⟨f0, f1, f2, f3, f4, f5⟩ := pw.frees
  go_wp2_with fail
  obtain ⟨W9, hW9, k1, k2, bb⟩ := pw.fin (.int .i64 _) (.int .i64 0)
  rw [← hW9]
  exact fin9 _ W9 w.heap.size (w.heap.size + 1) ⟨#[]⟩ ⟨#[]⟩ ⟨#[]⟩ false _ 0 rfl rfl k1 k2 ⟨by rw [HP.out] <;> first | rfl | simp, bb⟩

set_option maxRecDepth 100000 in
set_option maxHeartbeats 2000000 in
theorem RParse_F21 (s : ByteArray) (w : World) (hl : ¬ 64 < s.data.toList.length) (hr0 : 0 < runL 1 s.data.toList) (hr1 : runL 1 s.data.toList < s.size) (hx : ¬ (s[runL 1 s.data.toList].toNat : Int) = 58)
    (gr : relB s.data.toList = true) (g1 : relE s.data.toList = verE s.data.toList + 1) :
    Calls Try.prog 9 #[.string s] w fun e w' => e = .returned (PResV s.data.toList) ∧ Below w.heap.size w w' := by
  have HP := pres_err (parse_R1 hl gr g1)
  dsimp only at HP
  rw [len_data] at HP
  have HP := hide HP
  rw [len_data] at hl 
  have h1 := epS_le s.data.toList
  have h2 := verE_le s.data.toList
  have h3 : epS s.data.toList ≤ verE s.data.toList := endR_ge _ _
  rw [len_data] at h1 h2
  have R0 := hide (fun w => RRun00 s w (by omega))
  have PE1 := fun w => Rrun_any s (epS s.data.toList) w (by omega) h1
  change ∀ w, Calls Try.prog 25 _ w fun e w' => e = .returned (.int .i64 (verE s.data.toList : Int)) ∧ w' = w at PE1
  have FT := fun w => Rfault_any s (relE s.data.toList) w
  have h4 := relB_lt gr
  rw [len_data] at h4
  have h5 : relE s.data.toList ≤ s.size := by have := endR_le s.data.toList (verE s.data.toList + 1) (by rw [len_data]; omega); rw [len_data] at this; exact this
  have h6 : verE s.data.toList + 1 ≤ relE s.data.toList := endR_ge _ _
  have PE2 := fun w => Rrun_any s (verE s.data.toList + 1) w (by omega) (by omega)
  change ∀ w, Calls Try.prog 25 _ w fun e w' => e = .returned (.int .i64 (relE s.data.toList : Int)) ∧ w' = w at PE2
  rw [Int.natCast_add, Int.natCast_one] at PE2
  have PE2 := hide PE2
  have gr' : epS s.data.toList < verE s.data.toList ∧ (s[verE s.data.toList].toNat : Int) = 45 := by
    unfold relB at gr
    rw [Bool.and_eq_true, atB_in s _ 45 h4] at gr
    simpa using gr
  clear gr
  have yb : ((s[verE s.data.toList].toNat : Int) == 45) = true := by simpa using gr'.2
  have g0 : ¬ verE s.data.toList = epS s.data.toList := by have := gr'.1; omega
  clear gr'
  have hB : epB s.data.toList = false := by unfold epB; rw [atB_in s _ 58 hr1]; simp; intro _; exact hx
  have hS : epS s.data.toList = 0 := by unfold epS; rw [hB]; rfl
  have hE : epE s.data.toList = [48] := by unfold epE; rw [hB]; rfl
  have hxb : ((s[runL 1 s.data.toList].toNat : Int) == 58) = false := by simpa using hx
  rw [hS] at PE1 h1 h3 g0
  have FT := hide FT
  have PE1 := hide PE1
  clear hB hS hx
  generalize PResV s.data.toList = PR at *
  clear hE
  generalize relE s.data.toList = e2 at *
  generalize verE s.data.toList = e1 at *
  generalize runL 1 s.data.toList = d at *
  have hl' : ¬ (64 : Int) < (s.size : Int) := by omega
  have hr0' : (0 : Int) < (d : Int) := by omega
  have hr1' : (d : Int) < (s.size : Int) := by omega
  have q0 : ((e1 : Int) == 0) = false := by simp; omega
  have q1 : (e1 : Int) < (s.size : Int) := by omega
  have q2 : ((e2 : Int) == (e1 : Int) + 1) = true := by simp; omega
  clear g1
  go_enter Try.func9, Try.ntmps9
  go_wp2_with fail
  refine (R0.out _).mono ?_
  rintro e w' ⟨rfl, rfl⟩
  go_wp2_with fail
  refine (PE1.out _).mono ?_
  rintro e w' ⟨rfl, rfl⟩
  go_wp2_with fail
  refine (PE2.out _).mono ?_
  rintro e w' ⟨rfl, rfl⟩
  go_wp2_with fail
  refine (FT.out _).mono ?_
  rintro e w9 ⟨rfl, b9⟩
  have pw := (PW.start w _).next b9
  clear b9
  obtain ⟨c0, c1, c2, c3, c4, c5⟩ := pw.cells
  obtain ⟨f0, f1, f2, f3, f4, f5⟩ := pw.frees
  go_wp2_with fail
  obtain ⟨W9, hW9, k1, k2, bb⟩ := pw.fin (.int .i64 _) (.int .i64 (e2 : Int))
  rw [← hW9]
  exact fin9 _ W9 w.heap.size (w.heap.size + 1) ⟨#[]⟩ ⟨#[]⟩ ⟨#[]⟩ false _ (e2 : Int) rfl rfl k1 k2 ⟨by rw [HP.out] <;> first | rfl | simp, bb⟩

set_option maxRecDepth 100000 in
set_option maxHeartbeats 2000000 in
theorem RParse_F22 (s : ByteArray) (w : World) (hl : ¬ 64 < s.data.toList.length) (hr0 : 0 < runL 1 s.data.toList) (hr1 : runL 1 s.data.toList < s.size) (hx : ¬ (s[runL 1 s.data.toList].toNat : Int) = 58)
    (gr : relB s.data.toList = true) (g1 : relE s.data.toList ≠ verE s.data.toList + 1) (g2 : relE s.data.toList < s.data.toList.length) :
    Calls Try.prog 9 #[.string s] w fun e w' => e = .returned (PResV s.data.toList) ∧ Below w.heap.size w w' := by
  have HP := pres_err (parse_R2 hl gr g2)
  dsimp only at HP
  rw [len_data] at HP
  have HP := hide HP
  rw [len_data] at hl g2
  have h1 := epS_le s.data.toList
  have h2 := verE_le s.data.toList
  have h3 : epS s.data.toList ≤ verE s.data.toList := endR_ge _ _
  rw [len_data] at h1 h2
  have R0 := hide (fun w => RRun00 s w (by omega))
  have PE1 := fun w => Rrun_any s (epS s.data.toList) w (by omega) h1
  change ∀ w, Calls Try.prog 25 _ w fun e w' => e = .returned (.int .i64 (verE s.data.toList : Int)) ∧ w' = w at PE1
  have FT := fun w => Rfault_any s (relE s.data.toList) w
  have h4 := relB_lt gr
  rw [len_data] at h4
  have h5 : relE s.data.toList ≤ s.size := by have := endR_le s.data.toList (verE s.data.toList + 1) (by rw [len_data]; omega); rw [len_data] at this; exact this
  have h6 : verE s.data.toList + 1 ≤ relE s.data.toList := endR_ge _ _
  have PE2 := fun w => Rrun_any s (verE s.data.toList + 1) w (by omega) (by omega)
  change ∀ w, Calls Try.prog 25 _ w fun e w' => e = .returned (.int .i64 (relE s.data.toList : Int)) ∧ w' = w at PE2
  rw [Int.natCast_add, Int.natCast_one] at PE2
  have PE2 := hide PE2
  have gr' : epS s.data.toList < verE s.data.toList ∧ (s[verE s.data.toList].toNat : Int) = 45 := by
    unfold relB at gr
    rw [Bool.and_eq_true, atB_in s _ 45 h4] at gr
    simpa using gr
  clear gr
  have yb : ((s[verE s.data.toList].toNat : Int) == 45) = true := by simpa using gr'.2
  have g0 : ¬ verE s.data.toList = epS s.data.toList := by have := gr'.1; omega
  clear gr'
  have hB : epB s.data.toList = false := by unfold epB; rw [atB_in s _ 58 hr1]; simp; intro _; exact hx
  have hS : epS s.data.toList = 0 := by unfold epS; rw [hB]; rfl
  have hE : epE s.data.toList = [48] := by unfold epE; rw [hB]; rfl
  have hxb : ((s[runL 1 s.data.toList].toNat : Int) == 58) = false := by simpa using hx
  rw [hS] at PE1 h1 h3 g0
  have FT := hide FT
  have PE1 := hide PE1
  clear hB hS hx
  generalize PResV s.data.toList = PR at *
  clear hE
  generalize relE s.data.toList = e2 at *
  generalize verE s.data.toList = e1 at *
  generalize runL 1 s.data.toList = d at *
  have hl' : ¬ (64 : Int) < (s.size : Int) := by omega
  have hr0' : (0 : Int) < (d : Int) := by omega
  have hr1' : (d : Int) < (s.size : Int) := by omega
  have q0 : ((e1 : Int) == 0) = false := by simp; omega
  have q1 : (e1 : Int) < (s.size : Int) := by omega
  have q2 : ((e2 : Int) == (e1 : Int) + 1) = false := by simp; omega
  have q3 : (e2 : Int) < (s.size : Int) := by omega
  clear g1
  go_enter Try.func9, Try.ntmps9
  go_wp2_with fail
  refine (R0.out _).mono ?_
  rintro e w' ⟨rfl, rfl⟩
  go_wp2_with fail
  refine (PE1.out _).mono ?_
  rintro e w' ⟨rfl, rfl⟩
  go_wp2_with fail
  refine (PE2.out _).mono ?_
  rintro e w' ⟨rfl, rfl⟩
  go_wp2_with fail
  refine (FT.out _).mono ?_
  rintro e w9 ⟨rfl, b9⟩
  have pw := (PW.start w _).next b9
  clear b9
  obtain ⟨c0, c1, c2, c3, c4, c5⟩ := pw.cells
  obtain ⟨f0, f1, f2, f3, f4, f5⟩ := pw.frees
  go_wp2_with fail
  obtain ⟨W9, hW9, k1, k2, bb⟩ := pw.fin (.int .i64 _) (.int .i64 (e2 : Int))
  rw [← hW9]
  exact fin9 _ W9 w.heap.size (w.heap.size + 1) ⟨#[]⟩ ⟨#[]⟩ ⟨#[]⟩ false _ (e2 : Int) rfl rfl k1 k2 ⟨by rw [HP.out] <;> first | rfl | simp, bb⟩

set_option maxRecDepth 100000 in
set_option maxHeartbeats 2000000 in
theorem RParse_F23 (s : ByteArray) (w : World) (hl : ¬ 64 < s.data.toList.length) (hr0 : 0 < runL 1 s.data.toList) (hr1 : runL 1 s.data.toList < s.size) (hx : ¬ (s[runL 1 s.data.toList].toNat : Int) = 58)
    (gr : relB s.data.toList = true) (g1 : relE s.data.toList ≠ verE s.data.toList + 1) (g2 : ¬ relE s.data.toList < s.data.toList.length) :
    Calls Try.prog 9 #[.string s] w fun e w' => e = .returned (PResV s.data.toList) ∧ Below w.heap.size w w' := by
  have HP := pres_ok (parse_R3 hl gr g1 g2)
  dsimp only at HP
  rw [← extract_seg, ← extract_seg] at HP
  have HP := hide HP
  rw [len_data] at hl g2
  have h1 := epS_le s.data.toList
  have h2 := verE_le s.data.toList
  have h3 : epS s.data.toList ≤ verE s.data.toList := endR_ge _ _
  rw [len_data] at h1 h2
  have R0 := hide (fun w => RRun00 s w (by omega))
  have PE1 := fun w => Rrun_any s (epS s.data.toList) w (by omega) h1
  change ∀ w, Calls Try.prog 25 _ w fun e w' => e = .returned (.int .i64 (verE s.data.toList : Int)) ∧ w' = w at PE1
  have h4 := relB_lt gr
  rw [len_data] at h4
  have h5 : relE s.data.toList ≤ s.size := by have := endR_le s.data.toList (verE s.data.toList + 1) (by rw [len_data]; omega); rw [len_data] at this; exact this
  have h6 : verE s.data.toList + 1 ≤ relE s.data.toList := endR_ge _ _
  have PE2 := fun w => Rrun_any s (verE s.data.toList + 1) w (by omega) (by omega)
  change ∀ w, Calls Try.prog 25 _ w fun e w' => e = .returned (.int .i64 (relE s.data.toList : Int)) ∧ w' = w at PE2
  rw [Int.natCast_add, Int.natCast_one] at PE2
  have PE2 := hide PE2
  have gr' : epS s.data.toList < verE s.data.toList ∧ (s[verE s.data.toList].toNat : Int) = 45 := by
    unfold relB at gr
    rw [Bool.and_eq_true, atB_in s _ 45 h4] at gr
    simpa using gr
  clear gr
  have yb : ((s[verE s.data.toList].toNat : Int) == 45) = true := by simpa using gr'.2
  have g0 : ¬ verE s.data.toList = epS s.data.toList := by have := gr'.1; omega
  clear gr'
  have hB : epB s.data.toList = false := by unfold epB; rw [atB_in s _ 58 hr1]; simp; intro _; exact hx
  have hS : epS s.data.toList = 0 := by unfold epS; rw [hB]; rfl
  have hE : epE s.data.toList = [48] := by unfold epE; rw [hB]; rfl
  have hxb : ((s[runL 1 s.data.toList].toNat : Int) == 58) = false := by simpa using hx
  rw [hE] at HP
  rw [hS] at PE1 HP h1 h3 g0
  have PE1 := hide PE1
  clear hB hS hx
  generalize PResV s.data.toList = PR at *
  clear hE
  generalize relE s.data.toList = e2 at *
  generalize verE s.data.toList = e1 at *
  generalize runL 1 s.data.toList = d at *
  have hl' : ¬ (64 : Int) < (s.size : Int) := by omega
  have hr0' : (0 : Int) < (d : Int) := by omega
  have hr1' : (d : Int) < (s.size : Int) := by omega
  have q0 : ((e1 : Int) == 0) = false := by simp; omega
  have q1 : (e1 : Int) < (s.size : Int) := by omega
  have q2 : ((e2 : Int) == (e1 : Int) + 1) = false := by simp; omega
  have q3 : ¬ (e2 : Int) < (s.size : Int) := by omega
  clear g1
  go_enter Try.func9, Try.ntmps9
  go_wp2_with fail
  refine (R0.out _).mono ?_
  rintro e w' ⟨rfl, rfl⟩
  go_wp2_with fail
  refine (PE1.out _).mono ?_
  rintro e w' ⟨rfl, rfl⟩
  go_wp2_with fail
  refine (PE2.out _).mono ?_
  rintro e w' ⟨rfl, rfl⟩
  go_wp2_with fail
  exact fin9 _ _ w.heap.size (w.heap.size + 1) ⟨#[48]⟩ (s.extract 0 e1) (s.extract (e1 + 1) e2) true 0 0 rfl rfl (heap3_0 _ _ _ _) (heap3_1 _ _ _ _) ⟨by rw [HP.out] <;> rfl, below3 _ _ _ _⟩

set_option maxRecDepth 100000 in
set_option maxHeartbeats 2000000 in
theorem RParse_F24 (s : ByteArray) (w : World) (hl : ¬ 64 < s.data.toList.length) (hr0 : 0 < runL 1 s.data.toList) (hr1 : runL 1 s.data.toList < s.size) (hx : ¬ (s[runL 1 s.data.toList].toNat : Int) = 58)
    (gr : relB s.data.toList = false) (g1 : verE s.data.toList ≠ epS s.data.toList) (g2 : verE s.data.toList < s.data.toList.length) :
    Calls Try.prog 9 #[.string s] w fun e w' => e = .returned (PResV s.data.toList) ∧ Below w.heap.size w w' := by
  have HP := pres_err (parse_R4 hl gr g2)
  dsimp only at HP
  rw [len_data] at HP
  have HP := hide HP
  rw [len_data] at hl g2
  have h1 := epS_le s.data.toList
  have h2 := verE_le s.data.toList
  have h3 : epS s.data.toList ≤ verE s.data.toList := endR_ge _ _
  rw [len_data] at h1 h2
  have R0 := hide (fun w => RRun00 s w (by omega))
  have PE1 := fun w => Rrun_any s (epS s.data.toList) w (by omega) h1
  change ∀ w, Calls Try.prog 25 _ w fun e w' => e = .returned (.int .i64 (verE s.data.toList : Int)) ∧ w' = w at PE1
  have FT := fun w => Rfault_any s (verE s.data.toList) w
  have yb : ((s[verE s.data.toList].toNat : Int) == 45) = false := by
    unfold relB at gr
    rw [atB_in s _ 45 g2] at gr
    have : epS s.data.toList < verE s.data.toList := by omega
    simp [this] at gr ⊢
    exact gr
  clear gr
  have hB : epB s.data.toList = false := by unfold epB; rw [atB_in s _ 58 hr1]; simp; intro _; exact hx
  have hS : epS s.data.toList = 0 := by unfold epS; rw [hB]; rfl
  have hE : epE s.data.toList = [48] := by unfold epE; rw [hB]; rfl
  have hxb : ((s[runL 1 s.data.toList].toNat : Int) == 58) = false := by simpa using hx
  rw [hS] at PE1 h1 h3 g1
  have FT := hide FT
  have PE1 := hide PE1
  clear hB hS hx
  generalize PResV s.data.toList = PR at *
  clear hE
  generalize verE s.data.toList = e1 at *
  generalize runL 1 s.data.toList = d at *
  have hl' : ¬ (64 : Int) < (s.size : Int) := by omega
  have hr0' : (0 : Int) < (d : Int) := by omega
  have hr1' : (d : Int) < (s.size : Int) := by omega
  have q0 : ((e1 : Int) == 0) = false := by simp; omega
  have q3 : (e1 : Int) < (s.size : Int) := by omega
  clear g1
  go_enter Try.func9, Try.ntmps9
  go_wp2_with fail
  refine (R0.out _).mono ?_
  rintro e w' ⟨rfl, rfl⟩
  go_wp2_with fail
  refine (PE1.out _).mono ?_
  rintro e w' ⟨rfl, rfl⟩
  go_wp2_with fail
  refine (FT.out _).mono ?_
  rintro e w9 ⟨rfl, b9⟩
  have pw := (PW.start w _).next b9
  clear b9
  obtain ⟨c0, c1, c2, c3, c4, c5⟩ := pw.cells
  obtain ⟨f0, f1, f2, f3, f4, f5⟩ := pw.frees
  go_wp2_with fail
  obtain ⟨W9, hW9, k1, k2, bb⟩ := pw.fin (.int .i64 _) (.int .i64 (e1 : Int))
  rw [← hW9]
  exact fin9 _ W9 w.heap.size (w.heap.size + 1) ⟨#[]⟩ ⟨#[]⟩ ⟨#[]⟩ false _ (e1 : Int) rfl rfl k1 k2 ⟨by rw [HP.out] <;> first | rfl | simp, bb⟩

set_option maxRecDepth 100000 in
set_option maxHeartbeats 2000000 in
theorem RParse_F25 (s : ByteArray) (w : World) (hl : ¬ 64 < s.data.toList.length) (hr0 : 0 < runL 1 s.data.toList) (hr1 : runL 1 s.data.toList < s.size) (hx : ¬ (s[runL 1 s.data.toList].toNat : Int) = 58)
    (g1 : verE s.data.toList ≠ epS s.data.toList) (g2 : ¬ verE s.data.toList < s.data.toList.length) :
    Calls Try.prog 9 #[.string s] w fun e w' => e = .returned (PResV s.data.toList) ∧ Below w.heap.size w w' := by
  have HP := pres_ok (parse_R5 hl g1 g2)
  dsimp only at HP
  rw [← extract_seg] at HP
  have HP := hide HP
  rw [len_data] at hl g2
  have h1 := epS_le s.data.toList
  have h2 := verE_le s.data.toList
  have h3 : epS s.data.toList ≤ verE s.data.toList := endR_ge _ _
  rw [len_data] at h1 h2
  have R0 := hide (fun w => RRun00 s w (by omega))
  have PE1 := fun w => Rrun_any s (epS s.data.toList) w (by omega) h1
  change ∀ w, Calls Try.prog 25 _ w fun e w' => e = .returned (.int .i64 (verE s.data.toList : Int)) ∧ w' = w at PE1
  have hB : epB s.data.toList = false := by unfold epB; rw [atB_in s _ 58 hr1]; simp; intro _; exact hx
  have hS : epS s.data.toList = 0 := by unfold epS; rw [hB]; rfl
  have hE : epE s.data.toList = [48] := by unfold epE; rw [hB]; rfl
  have hxb : ((s[runL 1 s.data.toList].toNat : Int) == 58) = false := by simpa using hx
  rw [hE] at HP
  rw [hS] at PE1 HP h1 h3 g1
  have PE1 := hide PE1
  clear hB hS hx
  generalize PResV s.data.toList = PR at *
  clear hE
  generalize verE s.data.toList = e1 at *
  generalize runL 1 s.data.toList = d at *
  have hl' : ¬ (64 : Int) < (s.size : Int) := by omega
  have hr0' : (0 : Int) < (d : Int) := by omega
  have hr1' : (d : Int) < (s.size : Int) := by omega
  have q0 : ((e1 : Int) == 0) = false := by simp; omega
  have q3 : ¬ (e1 : Int) < (s.size : Int) := by omega
  clear g1
  go_enter Try.func9, Try.ntmps9
  go_wp2_with fail
  refine (R0.out _).mono ?_
  rintro e w' ⟨rfl, rfl⟩
  go_wp2_with fail
  refine (PE1.out _).mono ?_
  rintro e w' ⟨rfl, rfl⟩
  go_wp2_with fail
  exact fin9 _ _ w.heap.size (w.heap.size + 1) ⟨#[48]⟩ (s.extract 0 e1) ⟨#[]⟩ false 0 0 rfl rfl (heap3_0 _ _ _ _) (heap3_1 _ _ _ _) ⟨by rw [HP.out] <;> rfl, below3 _ _ _ _⟩

end Go.Proofs.Ytmcabgjcppnihaa
