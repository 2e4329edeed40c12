/-
  Walks: numbers and parts by the document.
-/
import Derived.Test.YtagnikhkmaplpaaGreatPt
namespace Go.Proofs.YtagnikhkmaplpaaGreat
open Go.RowKit Go.Shelf
set_option linter.unusedVariables false

theorem run0 (l : List UInt8) (k : Int) : runI (ofL l).data.toList 0 k = (runL k l : Int) := by
  have := runI_in (ofL l) 0 k (by omega)
  rw [ofL_data] at this ⊢
  simpa using this

set_option maxRecDepth 100000 in
set_option maxHeartbeats 1000000 in
theorem Rnumber_any (l : List UInt8) (w : World) (hl : l.length ≤ 140737488351232) :
    Calls Tryz.prog 43 #[.string (ofL l)] w fun e w' => e = .returned (.bool (trimB l)) ∧ w' = w := by
  have q := ofL_size l
  have R := fun w => RRun_any (ofL l) 0 1 w (by rw [ofL_size]; unfold maxLen; omega)
  rw [run0] at R
  have TR := fun w => RTrim_any (ofL l) w (by rw [ofL_size]; unfold maxLen; omega)
  rw [ofL_data] at TR
  have HB : Hid (trimB l = (!l.isEmpty && (runL 1 l == l.length) && (trimL l == l))) := rfl
  have R := hide R
  have TR := hide TR
  generalize trimB l = B at *
  by_cases h0 : l = []
  · have e0 : ((ofL l).toList == []) = true := by rw [toL, ofL_data, h0]; rfl
    have HO : Hid (B = false) := by show _ = _; rw [HB.out, h0]; rfl
    clear h0
    go_enter Tryz.func43, Tryz.ntmps43
    go_wp2_with fail
    go_ret
    exact ⟨ret_b HO.out.symm, rfl⟩
  · have e0 : ((ofL l).toList == []) = false := by rw [toL, ofL_data]; simpa using h0
    have h0' : l.isEmpty = false := by simpa using h0
    by_cases h1 : runL 1 l = l.length
    · have e1 : ((runL 1 l : Int) == (l.length : Int)) = true := by simp; omega
      have HO : Hid (B = (trimL l == l)) := by show _ = _; rw [HB.out, h0', h1]; simp
      obtain ⟨z, hz⟩ : ∃ z, (trimL l == l) = z := ⟨_, rfl⟩
      have e3 := eqLs _ _ _ hz
      rw [hz] at HO
      clear h0 h1 h0' hz
      go_enter Tryz.func43, Tryz.ntmps43
      go_wp2_with fail
      refine (R.out _).mono ?_
      rintro e w' ⟨rfl, rfl⟩
      go_wp2_with fail
      refine (TR.out _).mono ?_
      rintro e w' ⟨rfl, rfl⟩
      go_wp2_with fail
      go_ret
      exact ⟨ret_b HO.out.symm, rfl⟩
    · have e1 : ((runL 1 l : Int) == (l.length : Int)) = false := by simp; omega
      have HO : Hid (B = false) := by show _ = _; rw [HB.out]; simp [h1]
      clear h0 h1 h0'
      go_enter Tryz.func43, Tryz.ntmps43
      go_wp2_with fail
      refine (R.out _).mono ?_
      rintro e w' ⟨rfl, rfl⟩
      go_wp2_with fail
      go_ret
      exact ⟨ret_b HO.out.symm, rfl⟩

set_option maxHeartbeats 400000 in
theorem Rasked_any (l : List UInt8) (b : Bool) (w : World) (hl : l.length ≤ 140737488351232) :
    Calls Tryz.prog 45 #[.bool b, .string (ofL l)] w fun e w' => e = .returned (.bool (numB l b)) ∧ w' = w := by
  cases b
  · have HO : Hid ((ofL l).toList.isEmpty = numB l false) := by show _ = _; rw [toL, ofL_data]; cases l <;> rfl
    go_enter Tryz.func45, Tryz.ntmps45
    go_wp2_with fail
    go_ret
    exact ⟨ret_b HO.out, rfl⟩
  · have HO : Hid (numB l true = trimB l) := rfl
    have C := hide (fun w => Rnumber_any l w hl)
    go_enter Tryz.func45, Tryz.ntmps45
    go_wp2_with fail
    refine (C.out _).mono ?_
    rintro e w' ⟨rfl, rfl⟩
    go_wp2_with fail
    go_ret
    exact ⟨ret_b HO.out.symm, rfl⟩

theorem plain_doc (l : List UInt8) (h : l ≠ []) : (plainL l == l) = (decide (runL 1 l ≠ l.length) || (trimL l == l)) := by
  have h0' : l.isEmpty = false := by simpa using h
  unfold plainL digB
  rw [h0']
  by_cases h1 : runL 1 l = l.length
  · simp [h1]
  · simp [h1]

set_option maxRecDepth 100000 in
set_option maxHeartbeats 1000000 in
theorem Rpart_any (l : List UInt8) (w : World) (hl : l.length ≤ 140737488351232) :
    Calls Tryz.prog 44 #[.string (ofL l)] w fun e w' => e = .returned (.bool (locB l)) ∧ Below w.heap.size w w' := by
  have q := ofL_size l
  have R := fun w => RRun_any (ofL l) 0 5 w (by rw [ofL_size]; unfold maxLen; omega)
  have R1 := fun w => RRun_any (ofL l) 0 1 w (by rw [ofL_size]; unfold maxLen; omega)
  rw [run0] at R R1
  have TR := fun w => RTrim_any (ofL l) w (by rw [ofL_size]; unfold maxLen; omega)
  have L := fun w => RLower_any (ofL l) w (by rw [ofL_size]; unfold maxLen; omega)
  rw [ofL_data] at TR L
  change ∀ w, Calls Tryz.prog 25 _ w fun e w' => e = .returned (.string (ofL (lowL l))) ∧ Below w.heap.size w w' at L
  have HB : Hid (locB l = (!l.isEmpty && (runL 5 l == l.length) && (lowL l == l) && (plainL l == l))) := rfl
  have R := hide R
  have R1 := hide R1
  have L := hide L
  have TR := hide TR
  generalize locB l = B at *
  by_cases h0 : l = []
  · have e0 : ((ofL l).toList == []) = true := by rw [toL, ofL_data, h0]; rfl
    have HO : Hid (B = false) := by show _ = _; rw [HB.out, h0]; rfl
    clear h0
    go_enter Tryz.func44, Tryz.ntmps44
    go_wp2_with fail
    go_ret
    exact ⟨ret_b HO.out.symm, Below.refl _ _⟩
  · have e0 : ((ofL l).toList == []) = false := by rw [toL, ofL_data]; simpa using h0
    have h0' : l.isEmpty = false := by simpa using h0
    have HP := plain_doc l h0
    by_cases h1 : runL 5 l = l.length
    · have e1 : ((runL 5 l : Int) != (l.length : Int)) = false := by simp; omega
      cases h2 : (lowL l == l)
      · have e2 := eqLs _ _ _ h2
        have HO : Hid (B = false) := by show _ = _; rw [HB.out, h2]; simp
        clear h0 h1 h2 h0' HP
        go_enter Tryz.func44, Tryz.ntmps44
        go_wp2_with fail
        refine (R.out _).mono ?_
        rintro e w' ⟨rfl, rfl⟩
        go_wp2_with fail
        refine (L.out _).mono ?_
        rintro e w1 ⟨rfl, b1⟩
        go_wp2_with fail
        go_ret
        exact ⟨ret_b HO.out.symm, b1⟩
      · have e2 := eqLs _ _ _ h2
        have HO1 : Hid (B = (plainL l == l)) := by show _ = _; rw [HB.out, h2, h0', h1]; simp
        by_cases h3 : runL 1 l = l.length
        · have e3 : ((runL 1 l : Int) != (l.length : Int)) = false := by simp; omega
          obtain ⟨z, hz⟩ : ∃ z, (trimL l == l) = z := ⟨_, rfl⟩
          have e4 := eqLs _ _ _ hz
          have HO : Hid (B = z) := by show _ = _; rw [HO1.out, HP, hz, h3]; simp
          clear h0 h1 h2 h0' hz h3 HP HO1
          go_enter Tryz.func44, Tryz.ntmps44
          go_wp2_with fail
          refine (R.out _).mono ?_
          rintro e w' ⟨rfl, rfl⟩
          go_wp2_with fail
          refine (L.out _).mono ?_
          rintro e w1 ⟨rfl, b1⟩
          go_wp2_with fail
          refine (R1.out _).mono ?_
          rintro e w' ⟨rfl, rfl⟩
          go_wp2_with fail
          refine (TR.out _).mono ?_
          rintro e w' ⟨rfl, rfl⟩
          go_wp2_with fail
          go_ret
          exact ⟨ret_b HO.out.symm, b1⟩
        · have e3 : ((runL 1 l : Int) != (l.length : Int)) = true := by simp; omega
          have HO : Hid (B = true) := by show _ = _; rw [HO1.out, HP]; simp [h3]
          clear h0 h1 h2 h0' h3 HP HO1
          go_enter Tryz.func44, Tryz.ntmps44
          go_wp2_with fail
          refine (R.out _).mono ?_
          rintro e w' ⟨rfl, rfl⟩
          go_wp2_with fail
          refine (L.out _).mono ?_
          rintro e w1 ⟨rfl, b1⟩
          go_wp2_with fail
          refine (R1.out _).mono ?_
          rintro e w' ⟨rfl, rfl⟩
          go_wp2_with fail
          go_ret
          exact ⟨ret_b HO.out.symm, b1⟩
    · have e1 : ((runL 5 l : Int) != (l.length : Int)) = true := by simp; omega
      have HO : Hid (B = false) := by show _ = _; rw [HB.out]; simp [h1]
      clear h0 h1 h0' HP
      go_enter Tryz.func44, Tryz.ntmps44
      go_wp2_with fail
      refine (R.out _).mono ?_
      rintro e w' ⟨rfl, rfl⟩
      go_wp2_with fail
      go_ret
      exact ⟨ret_b HO.out.symm, Below.refl _ _⟩

end Go.Proofs.YtagnikhkmaplpaaGreat
