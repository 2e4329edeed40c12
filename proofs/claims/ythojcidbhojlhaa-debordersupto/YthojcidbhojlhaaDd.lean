/-
  Walks: Parse.
-/
import Derived.Test.YthojcidbhojlhaaDc
namespace Go.Proofs.Ythojcidbhojlhaa
open Go.RowKit Go.Shelf
set_option linter.unusedVariables false

/-- A version as a value. -/
def verV (v : DebL) : Value := .agg #[.string (ofL v.ep), .string (ofL v.up), .string (ofL v.rev)]
def verZ : Value := .agg #[.string ⟨#[]⟩, .string ⟨#[]⟩, .string ⟨#[]⟩]
/-- What Parse hands back. -/
def PResV (l : List UInt8) : Value :=
  match parseL l with
  | .error x => .tuple #[verZ, .agg #[.int .i64 x.1, .int .i64 (x.2 : Int)]]
  | .ok v => .tuple #[verV v, .agg #[.int .i64 0, .int .i64 0]]

theorem epS_le (l : List UInt8) : epS l ≤ l.length := by
  unfold epS
  split
  · rename_i h
    have hh : hasC l = true := by unfold epB at h; simp at h; exact h.1
    unfold hasC at hh
    have hge := Lib.indexByte_ge l 58
    obtain ⟨i, hi⟩ := Int.eq_ofNat_of_zero_le (show 0 ≤ Lib.indexByte l 58 by simp at hh; omega)
    obtain ⟨h1, h2⟩ := cutC_some l i hi
    rw [h1, List.length_take]; omega
  · omega

theorem three_lies {W : World} {B : Nat} {x0 x1 x2 : Value} (a b c : Value) (h : W.heap[B]? = some (.cells #[x0, x1, x2] 23 (0, 0))) :
    ∃ W', W' = ((W.setCell ⟨B, 0, none⟩ a).setCell ⟨B, 1, none⟩ b).setCell ⟨B, 2, none⟩ c ∧
      W'.heap[B]? = some (.cells #[a, b, c] 23 (0, 0)) ∧ (∀ n₀, n₀ ≤ B → Below n₀ W W') ∧ (∀ j, j ≠ B → W'.heap[j]? = W.heap[j]?) ∧ W'.heap.size = W.heap.size := by
  refine ⟨_, rfl, ?_, ?_, ?_, ?_⟩
  · have h0 : (W.setCell ⟨B, 0, none⟩ a).heap[B]? = some (.cells #[a, x1, x2] 23 (0, 0)) := set_lies 0 a h
    have h1 : ((W.setCell ⟨B, 0, none⟩ a).setCell ⟨B, 1, none⟩ b).heap[B]? = some (.cells #[a, b, x2] 23 (0, 0)) := set_lies 1 b h0
    exact set_lies 2 c h1
  · intro n₀ hn
    exact (((Below.refl n₀ W).setCell (p := ⟨B, 0, none⟩) hn a).setCell (p := ⟨B, 1, none⟩) hn b).setCell (p := ⟨B, 2, none⟩) hn c
  · intro j hj
    rw [Below.heap_setCell _ _ _ j hj, Below.heap_setCell _ _ _ j hj, Below.heap_setCell _ _ _ j hj]
  · have k2 : ∀ (X : World) (o : Nat) (u : Value), (X.setCell ⟨B, o, none⟩ u).heap.size = X.heap.size := fun X o u => Array.size_modify
    rw [k2, k2, k2]

theorem two_lies {W : World} {B : Nat} {x0 x1 : Value} (a b : Value) (h : W.heap[B]? = some (.cells #[x0, x1] 26 (0, 0))) :
    ∃ W', W' = (W.setCell ⟨B, 0, none⟩ a).setCell ⟨B, 1, none⟩ b ∧
      W'.heap[B]? = some (.cells #[a, b] 26 (0, 0)) ∧ (∀ n₀, n₀ ≤ B → Below n₀ W W') ∧ (∀ j, j ≠ B → W'.heap[j]? = W.heap[j]?) ∧ W'.heap.size = W.heap.size := by
  refine ⟨_, rfl, ?_, ?_, ?_, ?_⟩
  · have h0 : (W.setCell ⟨B, 0, none⟩ a).heap[B]? = some (.cells #[a, x1] 26 (0, 0)) := set_lies 0 a h
    exact set_lies 1 b h0
  · intro n₀ hn
    exact ((Below.refl n₀ W).setCell (p := ⟨B, 0, none⟩) hn a).setCell (p := ⟨B, 1, none⟩) hn b
  · intro j hj
    rw [Below.heap_setCell _ _ _ j hj, Below.heap_setCell _ _ _ j hj]
  · have k2 : ∀ (X : World) (o : Nat) (u : Value), (X.setCell ⟨B, o, none⟩ u).heap.size = X.heap.size := fun X o u => Array.size_modify
    rw [k2, k2]

/-- The results in their cells. -/
theorem fin9p {R : Ending → World → Prop} (tmps : Array Value) (W : World) (B C : Nat) (a b c : ByteArray) (x y : Int)
    (h2 : tmps.getD 2 undef = .pointer (some ⟨B, 0, none⟩)) (h3 : tmps.getD 3 undef = .pointer (some ⟨C, 0, none⟩))
    (e1 : W.heap[B]? = some (.cells #[.string a, .string b, .string c] 23 (0, 0))) (e2 : W.heap[C]? = some (.cells #[.int .i64 x, .int .i64 y] 26 (0, 0)))
    (hR : R (.returned (.tuple #[.agg #[.string a, .string b, .string c], .agg #[.int .i64 x, .int .i64 y]])) W) :
    bodyPost Try.prog Try.f9 R .ret { tmps := tmps, defers := [] } W := by
  have r0 := cell_at 0 e1 rfl
  have r1 := cell_at 1 e1 rfl
  have r2 := cell_at 2 e1 rfl
  have q0 := cell_at 0 e2 rfl
  have q1 := cell_at 1 e2 rfl
  rw [Array.getD_eq_getD_getElem?] at h2 h3
  refine ⟨rfl, _, ?_, hR⟩
  simp [results, Try.results9, go_sem, h2, h3, r0, r1, r2, q0, q1]
  try rfl

/-- The world in which the results' cells lie. -/
structure PW (w W : World) : Prop where
  bel : Below w.heap.size w W
  eR : W.heap[w.heap.size]? = some (.cells #[.string ⟨#[]⟩, .string ⟨#[]⟩, .string ⟨#[]⟩] 23 (0, 0))
  eF : W.heap[w.heap.size + 1]? = some (.cells #[.int .i64 0, .int .i64 0] 26 (0, 0))
theorem PW.start (w : World) : PW w ((w.alloc (.cells #[.string ⟨#[]⟩, .string ⟨#[]⟩, .string ⟨#[]⟩] 23)).alloc (.cells #[.int .i64 0, .int .i64 0] 26)) := by
  refine ⟨((Below.refl _ w).alloc (Nat.le_refl _) _).alloc (by simp) _, ?_, ?_⟩
  · rw [Below.heap_alloc _ _ _ (by simp)]
    exact World.alloc_heap_new w _
  · have := World.alloc_heap_new (w.alloc (.cells #[.string ⟨#[]⟩, .string ⟨#[]⟩, .string ⟨#[]⟩] 23)) (.cells #[.int .i64 0, .int .i64 0] 26)
    rwa [World.size_alloc] at this
theorem PW.next {w W W' : World} (h : PW w W) (hb : Below W.heap.size W W') : PW w W' := by
  have l1 := (Array.getElem?_eq_some_iff.1 h.eR).1
  have l2 := (Array.getElem?_eq_some_iff.1 h.eF).1
  exact ⟨h.bel.trans (hb.mono h.bel.size), (hb.block _ l1).trans h.eR, (hb.block _ l2).trans h.eF⟩
/-- What the stores leave. -/
theorem PW.fin {w W : World} (h : PW w W) (a b c : Value) (x y : Value) : ∃ W9, W9 = ((((W.setCell ⟨w.heap.size, 0, none⟩ a).setCell ⟨w.heap.size, 1, none⟩ b).setCell ⟨w.heap.size, 2, none⟩ c).setCell ⟨w.heap.size + 1, 0, none⟩ x).setCell ⟨w.heap.size + 1, 1, none⟩ y ∧
    W9.heap[w.heap.size]? = some (.cells #[a, b, c] 23 (0, 0)) ∧ W9.heap[w.heap.size + 1]? = some (.cells #[x, y] 26 (0, 0)) ∧ Below w.heap.size w W9 := by
  obtain ⟨W8, hW8, g1, k1, j1, s1⟩ := three_lies a b c h.eR
  have eF' := (j1 (w.heap.size + 1) (by omega)).trans h.eF
  obtain ⟨W9, hW9, g2, k2, j2, s2⟩ := two_lies x y eF'
  refine ⟨W9, by rw [hW9, hW8], (j2 _ (by omega)).trans g1, g2, h.bel.trans ((k1 _ (Nat.le_refl _)).trans (k2 _ (by omega)))⟩
theorem PW.cells {w W : World} (h : PW w W) : W.cell? ⟨w.heap.size, 0, none⟩ = some (.string ⟨#[]⟩) ∧ W.cell? ⟨w.heap.size, 1, none⟩ = some (.string ⟨#[]⟩) ∧ W.cell? ⟨w.heap.size, 2, none⟩ = some (.string ⟨#[]⟩) ∧
    W.cell? ⟨w.heap.size + 1, 0, none⟩ = some (.int .i64 0) ∧ W.cell? ⟨w.heap.size + 1, 1, none⟩ = some (.int .i64 0) :=
  ⟨cell_at 0 h.eR rfl, cell_at 1 h.eR rfl, cell_at 2 h.eR rfl, cell_at 0 h.eF rfl, cell_at 1 h.eF rfl⟩
theorem PW.frees {w W : World} (h : PW w W) : W.frozen? ⟨w.heap.size, 0, none⟩ = false ∧ W.frozen? ⟨w.heap.size, 1, none⟩ = false ∧ W.frozen? ⟨w.heap.size, 2, none⟩ = false ∧
    W.frozen? ⟨w.heap.size + 1, 0, none⟩ = false ∧ W.frozen? ⟨w.heap.size + 1, 1, none⟩ = false :=
  ⟨one_free 0 h.eR, one_free 1 h.eR, one_free 2 h.eR, one_free 0 h.eF, one_free 1 h.eF⟩

set_option maxRecDepth 100000 in
set_option maxHeartbeats 1000000 in
theorem Parse_any (s : ByteArray) (w : World) :
    Calls Try.prog 9 #[.string s] w fun e w' => e = .returned (PResV s.data.toList) ∧ Below w.heap.size w w' := by
  by_cases hl : 64 < s.size
  · have HP : Hid (PResV s.data.toList = .tuple #[verZ, .agg #[.int .i64 12, .int .i64 64]]) := by
      show _ = _
      unfold PResV parseL
      rw [if_pos (by rw [len_data]; exact hl)]
      rfl
    have hl' : (64 : Int) < (s.size : Int) := by omega
    go_enter Try.func9, Try.ntmps9
    go_wp2_with fail
    refine fin9p _ _ w.heap.size (w.heap.size + 1) ⟨#[]⟩ ⟨#[]⟩ ⟨#[]⟩ 12 64 rfl rfl ?_ ?_ ?_
    · rw [Below.heap_alloc _ _ _ (by simp)]
      exact World.alloc_heap_new w _
    · have := World.alloc_heap_new (w.alloc (.cells #[.string ⟨#[]⟩, .string ⟨#[]⟩, .string ⟨#[]⟩] 23)) (.cells #[.int .i64 12, .int .i64 64] 26)
      rwa [World.size_alloc] at this
    · exact ⟨by rw [HP.out]; rfl, ((Below.refl _ w).alloc (Nat.le_refl _) _).alloc (by simp) _⟩
  · have hl' : ¬ (64 : Int) < (s.size : Int) := by omega
    have hst := epS_le s.data.toList
    rw [len_data] at hst
    have hP : PResV s.data.toList = match (if wrongR s.data.toList (epS s.data.toList) < s.size then (.error (10, wrongR s.data.toList (epS s.data.toList)) : Except (Int × Nat) DebL)
        else if (cutU (s.data.toList.drop (epS s.data.toList)) 45).isEmpty || (cutH (s.data.toList.drop (epS s.data.toList)) 45 && !revB (cutR (s.data.toList.drop (epS s.data.toList)) 45)) then .error (11, s.size)
        else .ok ⟨epE s.data.toList, cutU (s.data.toList.drop (epS s.data.toList)) 45, cutR (s.data.toList.drop (epS s.data.toList)) 45⟩) with
      | .error x => .tuple #[verZ, .agg #[.int .i64 x.1, .int .i64 (x.2 : Int)]]
      | .ok v => .tuple #[verV v, .agg #[.int .i64 0, .int .i64 0]] := by
      unfold PResV parseL
      rw [len_data, if_neg hl]
    have E := hide (fun w => readEpoch_any s w (by omega))
    have WR := hide (fun w => wrongAt_any s (epS s.data.toList) w (by omega) hst)
    have CL := fun w => cutLast_any (s.extract (epS s.data.toList) s.size) 45 w (by rw [ByteArray.size_extract]; unfold maxLen; omega)
    rw [extract_end, ofL_data] at CL
    have HX := hide (extract_end s (epS s.data.toList))
    have CL := hide CL
    generalize PResV s.data.toList = PR at *
    generalize epS s.data.toList = st at *
    generalize epE s.data.toList = E0 at *
    generalize wrongR s.data.toList st = wr at *
    have IR := isRevision_any (ofL (cutR (s.data.toList.drop st) 45))
    rw [ofL_data] at IR
    have hRz := ofL_size (cutR (s.data.toList.drop st) 45)
    have hRl : (cutR (s.data.toList.drop st) 45).length ≤ 64 := by
      unfold cutR
      split
      · simp
      · rw [List.length_drop, List.length_drop, len_data]; omega
    have hUz := ofL_size (cutU (s.data.toList.drop st) 45)
    have hUe := eqE (ofL (cutU (s.data.toList.drop st) 45))
    have IR := hide IR
    generalize revB (cutR (s.data.toList.drop st) 45) = rb at *
    generalize cutR (s.data.toList.drop st) 45 = R at *
    generalize cutU (s.data.toList.drop st) 45 = U at *
    generalize cutH (s.data.toList.drop st) 45 = H at *
    have hst' : (st : Int) ≤ (s.size : Int) := by omega
    have HUE := hide hUe
    clear hUe
    by_cases h1 : wr < s.size
    · rw [if_pos h1] at hP
      have HP := hide hP
      have h1' : (wr : Int) < (s.size : Int) := by omega
      clear hP h1
      go_enter Try.func9, Try.ntmps9
      go_wp2_with fail
      refine (E.out _).mono ?_
      rintro e w1 ⟨rfl, b1⟩
      have pw := (PW.start w).next b1
      clear b1
      go_wp2_with fail
      refine (WR.out _).mono ?_
      rintro e w2 ⟨rfl, rfl⟩
      obtain ⟨c0, c1, c2, c3, c4⟩ := pw.cells
      obtain ⟨f0, f1, f2, f3, f4⟩ := pw.frees
      go_wp2_with fail
      obtain ⟨W9, hW9, g1, g2, bb⟩ := pw.fin (.string ⟨#[]⟩) (.string ⟨#[]⟩) (.string ⟨#[]⟩) (.int .i64 10) (.int .i64 (wr : Int))
      rw [← hW9]
      exact fin9p _ W9 w.heap.size (w.heap.size + 1) ⟨#[]⟩ ⟨#[]⟩ ⟨#[]⟩ 10 wr rfl rfl g1 g2 ⟨by rw [HP.out]; rfl, bb⟩
    · rw [if_neg h1] at hP
      have h1' : ¬ (wr : Int) < (s.size : Int) := by omega
      clear h1
      by_cases hU : U = []
      · subst hU
        have hu : ((ofL ([] : List UInt8)).toList == []) = true := by rw [toL, ofL_data]; rfl
        have HP := hide hP
        clear hP
        go_enter Try.func9, Try.ntmps9
        go_wp2_with fail
        refine (E.out _).mono ?_
        rintro e w1 ⟨rfl, b1⟩
        have pw := (PW.start w).next b1
        clear b1
        go_wp2_with fail
        refine (WR.out _).mono ?_
        rintro e w2 ⟨rfl, rfl⟩
        go_wp2_with fail
        rw [HX.out]
        refine (CL.out _).mono ?_
        rintro e w3 ⟨rfl, b3⟩
        have pw := pw.next b3
        clear b3

        obtain ⟨c0, c1, c2, c3, c4⟩ := pw.cells
        obtain ⟨f0, f1, f2, f3, f4⟩ := pw.frees
        go_wp2_with fail
        obtain ⟨W9, hW9, g1, g2, bb⟩ := pw.fin (.string ⟨#[]⟩) (.string ⟨#[]⟩) (.string ⟨#[]⟩) (.int .i64 11) (.int .i64 (s.size : Int))
        rw [← hW9]
        exact fin9p _ W9 w.heap.size (w.heap.size + 1) ⟨#[]⟩ ⟨#[]⟩ ⟨#[]⟩ 11 (s.size : Int) rfl rfl g1 g2 ⟨by rw [HP.out]; rfl, bb⟩
      · have hu : ((ofL U).toList == []) = false := HUE.out (by rw [hUz]; exact List.length_pos_iff.2 hU)
        have hU' : U.isEmpty = false := by simpa using hU
        rw [hU'] at hP
        clear hU hU'
        cases H
        · skip
          have HP := hide hP
          clear hP
          go_enter Try.func9, Try.ntmps9
          go_wp2_with fail
          refine (E.out _).mono ?_
          rintro e w1 ⟨rfl, b1⟩
          have pw := (PW.start w).next b1
          clear b1
          go_wp2_with fail
          refine (WR.out _).mono ?_
          rintro e w2 ⟨rfl, rfl⟩
          go_wp2_with fail
          rw [HX.out]
          refine (CL.out _).mono ?_
          rintro e w3 ⟨rfl, b3⟩
          have pw := pw.next b3
          clear b3

          obtain ⟨c0, c1, c2, c3, c4⟩ := pw.cells
          obtain ⟨f0, f1, f2, f3, f4⟩ := pw.frees
          go_wp2_with fail
          obtain ⟨W9, hW9, g1, g2, bb⟩ := pw.fin (.string (ofL E0)) (.string (ofL U)) (.string (ofL R)) (.int .i64 0) (.int .i64 0)
          rw [← hW9]
          exact fin9p _ W9 w.heap.size (w.heap.size + 1) (ofL E0) (ofL U) (ofL R) 0 0 rfl rfl g1 g2 ⟨by rw [HP.out]; rfl, bb⟩
        · cases rb
          · skip
            have HP := hide hP
            clear hP
            go_enter Try.func9, Try.ntmps9
            go_wp2_with fail
            refine (E.out _).mono ?_
            rintro e w1 ⟨rfl, b1⟩
            have pw := (PW.start w).next b1
            clear b1
            go_wp2_with fail
            refine (WR.out _).mono ?_
            rintro e w2 ⟨rfl, rfl⟩
            go_wp2_with fail
            rw [HX.out]
            refine (CL.out _).mono ?_
            rintro e w3 ⟨rfl, b3⟩
            have pw := pw.next b3
            clear b3
            go_wp2_with fail
            refine (IR.out _ (by unfold maxLen; omega)).mono ?_
            rintro e w4 ⟨rfl, rfl⟩
            obtain ⟨c0, c1, c2, c3, c4⟩ := pw.cells
            obtain ⟨f0, f1, f2, f3, f4⟩ := pw.frees
            go_wp2_with fail
            obtain ⟨W9, hW9, g1, g2, bb⟩ := pw.fin (.string ⟨#[]⟩) (.string ⟨#[]⟩) (.string ⟨#[]⟩) (.int .i64 11) (.int .i64 (s.size : Int))
            rw [← hW9]
            exact fin9p _ W9 w.heap.size (w.heap.size + 1) ⟨#[]⟩ ⟨#[]⟩ ⟨#[]⟩ 11 (s.size : Int) rfl rfl g1 g2 ⟨by rw [HP.out]; rfl, bb⟩
          · skip
            have HP := hide hP
            clear hP
            go_enter Try.func9, Try.ntmps9
            go_wp2_with fail
            refine (E.out _).mono ?_
            rintro e w1 ⟨rfl, b1⟩
            have pw := (PW.start w).next b1
            clear b1
            go_wp2_with fail
            refine (WR.out _).mono ?_
            rintro e w2 ⟨rfl, rfl⟩
            go_wp2_with fail
            rw [HX.out]
            refine (CL.out _).mono ?_
            rintro e w3 ⟨rfl, b3⟩
            have pw := pw.next b3
            clear b3
            go_wp2_with fail
            refine (IR.out _ (by unfold maxLen; omega)).mono ?_
            rintro e w4 ⟨rfl, rfl⟩
            obtain ⟨c0, c1, c2, c3, c4⟩ := pw.cells
            obtain ⟨f0, f1, f2, f3, f4⟩ := pw.frees
            go_wp2_with fail
            obtain ⟨W9, hW9, g1, g2, bb⟩ := pw.fin (.string (ofL E0)) (.string (ofL U)) (.string (ofL R)) (.int .i64 0) (.int .i64 0)
            rw [← hW9]
            exact fin9p _ W9 w.heap.size (w.heap.size + 1) (ofL E0) (ofL U) (ofL R) 0 0 rfl rfl g1 g2 ⟨by rw [HP.out]; rfl, bb⟩

end Go.Proofs.Ythojcidbhojlhaa
