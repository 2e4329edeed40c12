/-
  Walks: which parts are fit; strings.Join at a dot.
-/
import Derived.Test.YtagnikhkmaplpaaGreatPr
import Derived.Test.YtagnikhkmaplpaaGreatJoin
namespace Go.Proofs.YtagnikhkmaplpaaGreat
open Go.RowKit Go.Shelf
set_option linter.unusedVariables false

theorem join_lib (ts : List (List UInt8)) : Lib.join ts [46] = joinL ts := by
  unfold Lib.join
  cases ts with
  | nil => rfl
  | cons t r =>
    induction r generalizing t with
    | nil => simp [joinL, dotted, List.intercalate]
    | cons u v ih =>
      have := ih u
      simp only [List.intercalate] at this ⊢
      rw [List.intersperse_cons_cons, List.flatten_cons, List.flatten_cons, this]
      simp [joinL, dotted]

theorem Join_any (v : Value) (ts : List (List UInt8)) (w : World) (hv : Txt w v ts) (hc : Cap v) (hl : lenI ts ≤ 1048576) :
    Calls Tryz.prog 46 #[v, .string ⟨#[46]⟩] w fun e w' => e = .returned (.string (ofL (joinL ts))) ∧ Below w.heap.size w w' := by
  obtain ⟨a, cap, rfl, h⟩ := id hv
  have hcap := hc _ _ _ rfl
  have hlen := (lenI_ge ts).1
  by_cases hn : ts = []
  · subst hn
    refine (Tryz.strings_Join_none a cap ⟨#[46]⟩ w).mono ?_
    rintro e w' ⟨rfl, rfl⟩
    exact ⟨rfl, Below.refl _ _⟩
  · rcases h with h | ⟨b, off, rfl, hlt, hcell⟩
    · exact absurd h hn
    · have hm : (ts.map ofL).map (·.data.toList) = ts := by
        rw [List.map_map]
        conv => rhs; rw [← List.map_id ts]
        refine List.map_congr_left fun t _ => ?_
        simp [ofL]
      have hj : (Lib.join ((ts.map ofL).map (·.data.toList)) (⟨#[46]⟩ : ByteArray).data.toList) = joinL ts := by rw [hm]; exact join_lib ts
      have := Tryz.strings_Join b off cap (ts.map ofL) ⟨#[46]⟩ w (by
        intro j x hj
        rw [List.getElem?_map] at hj
        cases hg : ts[j]? with
        | none => rw [hg] at hj; cases hj
        | some t =>
          rw [hg] at hj
          obtain ⟨hj1, hj2⟩ := List.getElem?_eq_some_iff.1 hg
          cases hj
          rw [hcell j hj1, hj2]) hlt (by rw [List.length_map]; omega) (by rw [List.length_map]; exact hcap) (by rw [hj]; have := joinL_len ts; omega)
      rw [List.length_map, hj] at this
      exact this


/-- A number without noughts ahead. -/
def trimB (l : List UInt8) : Bool := digB l && (trimL l == l)
theorem eqLs (a b : List UInt8) (x : Bool) (h : (a == b) = x) : ((ofL a).toList == (ofL b).toList) = x := by rw [toL, toL, ofL_data, ofL_data]; exact h
set_option maxHeartbeats 400000 in
theorem isTrimmed_any (l : List UInt8) (w : World) (hl : l.length ≤ 9223372036854775806) :
    Calls Tryz.prog 39 #[.string (ofL l)] w fun e w' => e = .returned (.bool (trimB l)) ∧ w' = w := by
  have D := fun w => isDigits_any (ofL l) w (by rw [ofL_size]; unfold maxLen; omega)
  have TR := fun w => Trim_any (ofL l) w (by rw [ofL_size]; unfold maxLen; omega)
  rw [ofL_data] at D TR
  cases hd : digB l
  · have HO : Hid (trimB l = false) := by show _ = _; unfold trimB; rw [hd]; rfl
    rw [hd] at D
    have D := hide D
    clear hd
    go_enter Tryz.func39, Tryz.ntmps39
    go_wp2_with fail
    refine (D.out _).mono ?_
    rintro e w' ⟨rfl, rfl⟩
    go_wp2_with fail
    go_ret
    exact ⟨ret_b HO.out.symm, rfl⟩
  · rw [hd] at D
    cases he : (trimL l == l)
    · have HO : Hid (trimB l = false) := by show _ = _; unfold trimB; rw [hd, he]; rfl
      have eb := eqLs _ _ _ he
      have D := hide D
      have TR := hide TR
      clear hd he
      go_enter Tryz.func39, Tryz.ntmps39
      go_wp2_with fail
      refine (D.out _).mono ?_
      rintro e w' ⟨rfl, rfl⟩
      go_wp2_with fail
      refine (TR.out _).mono ?_
      rintro e w' ⟨rfl, rfl⟩
      go_wp2_with fail
      go_ret
      exact ⟨ret_b HO.out.symm, rfl⟩
    · have HO : Hid (trimB l = true) := by show _ = _; unfold trimB; rw [hd, he]; rfl
      have eb := eqLs _ _ _ he
      have D := hide D
      have TR := hide TR
      clear hd he
      go_enter Tryz.func39, Tryz.ntmps39
      go_wp2_with fail
      refine (D.out _).mono ?_
      rintro e w' ⟨rfl, rfl⟩
      go_wp2_with fail
      refine (TR.out _).mono ?_
      rintro e w' ⟨rfl, rfl⟩
      go_wp2_with fail
      go_ret
      exact ⟨ret_b HO.out.symm, rfl⟩
/-- A number, or none where none is asked. -/
def numB (l : List UInt8) (asked : Bool) : Bool := if asked then trimB l else l == []
set_option maxHeartbeats 400000 in
theorem fitsNumber_any (l : List UInt8) (b : Bool) (w : World) (hl : l.length ≤ 9223372036854775806) :
    Calls Tryz.prog 41 #[.string (ofL l), .bool b] w fun e w' => e = .returned (.bool (numB l b)) ∧ w' = w := by
  cases b
  · have HO : Hid ((ofL l).toList.isEmpty = numB l false) := by show _ = _; rw [toL, ofL_data]; cases l <;> rfl
    go_enter Tryz.func41, Tryz.ntmps41
    go_wp2_with fail
    go_ret
    exact ⟨ret_b HO.out, rfl⟩
  · have HO : Hid (numB l true = trimB l) := rfl
    have C := hide (fun w => isTrimmed_any l w hl)
    go_enter Tryz.func41, Tryz.ntmps41
    go_wp2_with fail
    refine (C.out _).mono ?_
    rintro e w' ⟨rfl, rfl⟩
    go_wp2_with fail
    go_ret
    exact ⟨ret_b HO.out.symm, rfl⟩
/-- A part of a local row. -/
def locB (l : List UInt8) : Bool := !l.isEmpty && (runL 5 l == l.length) && (lowL l == l) && (plainL l == l)
set_option maxHeartbeats 1000000 in
theorem fitsLocal_any (l : List UInt8) (w : World) (hl : l.length ≤ 140737488351232) :
    Calls Tryz.prog 42 #[.string (ofL l)] w fun e w' => e = .returned (.bool (locB l)) ∧ Below w.heap.size w w' := by
  have q := ofL_size l
  have R := fun w => Run_any (ofL l) 0 5 w (by rw [ofL_size]; unfold maxLen; omega)
  have hR : runI (ofL l).data.toList 0 5 = (runL 5 l : Int) := by have := runI_in (ofL l) 0 5 (by omega); rw [ofL_data] at this ⊢; simpa using this
  rw [hR] at R
  have L := fun w => Lower_any (ofL l) w (by rw [ofL_size]; unfold maxLen; omega)
  have P := fun w => plain_any (ofL l) w (by rw [ofL_size]; unfold maxLen; omega)
  rw [ofL_data] at L P
  change ∀ w, Calls Tryz.prog 23 _ w fun e w' => e = .returned (.string (ofL (lowL l))) ∧ Below w.heap.size w w' at L
  have HB : Hid (locB l = (!l.isEmpty && (runL 5 l == l.length) && (lowL l == l) && (plainL l == l))) := rfl
  have R := hide R
  have L := hide L
  have P := hide P
  generalize locB l = B at *
  clear hR
  by_cases h0 : l = []
  · have e0 : ((ofL l).toList == []) = true := by rw [toL, ofL_data, h0]; rfl
    have HO : Hid (B = false) := by show _ = _; rw [HB.out, h0]; rfl
    clear h0
    go_enter Tryz.func42, Tryz.ntmps42
    go_wp2_with fail
    go_ret
    exact ⟨ret_b HO.out.symm, Below.refl _ _⟩
  · have e0 : ((ofL l).toList == []) = false := by rw [toL, ofL_data]; simpa using h0
    have h0' : l.isEmpty = false := by simpa using h0
    by_cases h1 : runL 5 l = l.length
    · have e1 : ((runL 5 l : Int) == (l.length : Int)) = true := by simp; omega
      cases h2 : (lowL l == l)
      · have e2 := eqLs _ _ _ h2
        have HO : Hid (B = false) := by show _ = _; rw [HB.out, h2]; simp
        clear h0 h1 h2 h0'
        go_enter Tryz.func42, Tryz.ntmps42
        go_wp2_with fail
        refine (R.out _).mono ?_
        rintro e w' ⟨rfl, rfl⟩
        go_wp2_with fail
        refine (L.out _).mono ?_
        rintro e w1 ⟨rfl, b1⟩
        go_wp2_with fail
        go_ret
        exact ⟨ret_b HO.out.symm, b1⟩
      · have e2 := eqLs _ _ _ h2
        have HO : Hid (B = (plainL l == l)) := by show _ = _; rw [HB.out, h2, h0', h1]; simp
        obtain ⟨z, hz⟩ : ∃ z, (plainL l == l) = z := ⟨_, rfl⟩
        have e3 := eqLs _ _ _ hz
        rw [hz] at HO
        clear h0 h1 h2 h0' hz
        go_enter Tryz.func42, Tryz.ntmps42
        go_wp2_with fail
        refine (R.out _).mono ?_
        rintro e w' ⟨rfl, rfl⟩
        go_wp2_with fail
        refine (L.out _).mono ?_
        rintro e w1 ⟨rfl, b1⟩
        go_wp2_with fail
        refine (P.out _).mono ?_
        rintro e w' ⟨rfl, rfl⟩
        go_wp2_with fail
        go_ret
        exact ⟨ret_b HO.out.symm, b1⟩
    · have e1 : ((runL 5 l : Int) == (l.length : Int)) = false := by simp; omega
      have HO : Hid (B = false) := by show _ = _; rw [HB.out]; simp [h1]
      clear h0 h1 h0'
      go_enter Tryz.func42, Tryz.ntmps42
      go_wp2_with fail
      refine (R.out _).mono ?_
      rintro e w' ⟨rfl, rfl⟩
      go_wp2_with fail
      go_ret
      exact ⟨ret_b HO.out.symm, Below.refl _ _⟩

set_option maxHeartbeats 400000 in
theorem not42_any (l : List UInt8) (B : Nat) (w : World) (hl : l.length ≤ 140737488351232) (hB : w.heap[B]? = some (.cells #[.func (.func 39) #[] #[]] 56 (0, 0))) :
    Calls Tryz.prog 78 #[.string (ofL l), .pointer (some ⟨B, 0, none⟩)] w fun e w' => e = .returned (.bool (!trimB l)) ∧ Below w.heap.size w w' := by
  have c0 := cell_at 0 hB rfl
  have C := hide (fun w => isTrimmed_any l w (by omega))
  go_enter Tryz.func78, Tryz.ntmps78
  go_wp2_with fail
  refine (C.out _).mono ?_
  rintro e w1 ⟨rfl, b1⟩
  go_wp2_with fail
  go_ret
  exact ⟨rfl, by first | exact Below.refl _ _ | (rw [b1]; exact Below.refl _ _)⟩

set_option maxHeartbeats 1000000 in
theorem index42_any (v : Value) (ts : List (List UInt8)) (B : Nat) (w : World) (hv : Txt w v ts) (hs : ts.length ≤ 1048576 ∧ ∀ t ∈ ts, t.length ≤ 1048576) (hB : w.heap[B]? = some (.cells #[.func (.func 39) #[] #[]] 56 (0, 0))) :
    Calls Tryz.prog 100 #[v, .func (.func 78) #[] #[.pointer (some ⟨B, 0, none⟩)]] w fun e w' => (∃ i : Int, e = .returned (.int .i64 i) ∧ decide (0 ≤ i) = !ts.all trimB) ∧ Below w.heap.size w w' := by
  obtain ⟨a1, c1, rfl, _⟩ := id hv
  have HV := hide hv
  have HS := hide hs
  have ls := hs.1
  have HB := hide hB
  clear hv hs hB
  go_enter Tryz.func100, Tryz.ntmps100
  go_wp2_with fail
  go_loopw [8] (fun i wr => ∃ k : Nat, k ≤ ts.length ∧ i = .int .i64 k ∧ Hid (ts.all trimB = (ts.drop k).all trimB) ∧ Below w.heap.size w wr) (fun i _ => ts.length - (intOf i).toNat)
  case atStart => exact ⟨0, by omega, rfl, by simp [Hid], Below.refl _ _⟩
  case round =>
    obtain ⟨k, hk, rfl, HR, bW⟩ := hrel
    have hv1 := HV.out.below bW
    by_cases h1 : k < ts.length
    · have hlt' : (k : Int) < (ts.length : Int) := by omega
      obtain ⟨b1, o1, rfl, hc1⟩ := hv1.some (by omega)
      have p1 := hc1 k h1
      clear hc1
      have C := fun w h => not42_any ts[k] B w (by have := HS.out.2 _ (List.getElem_mem h1); omega) h
      have hX : (ts.drop k).all trimB = (trimB ts[k] && (ts.drop (k + 1)).all trimB) := by rw [List.drop_eq_getElem_cons h1, List.all_cons]
      have hBB := (bW.block _ (Array.getElem?_eq_some_iff.1 HB.out).1).trans HB.out
      have C := C wr hBB
      generalize ts[k] = t at *
      generalize trimB t = b at *
      have HC := hide C
      have HX := hide hX
      clear C hX hv1 hBB
      cases b
      · go_wp2_with fail
        refine HC.out.mono ?_
        rintro e w2 ⟨rfl, b2⟩
        go_wp2_with fail
        go_ret
        exact ⟨⟨_, rfl, by rw [HR.out, HX.out]; simp⟩, bW.trans (b2.mono bW.size)⟩
      · go_wp2_with fail
        refine HC.out.mono ?_
        rintro e w2 ⟨rfl, b2⟩
        go_wp2_with fail
        go_roundw
        case rel => exact ⟨k + 1, by omega, by go_num, by rw [HR.out, HX.out]; simp [Hid], bW.trans (b2.mono bW.size)⟩
        case measure => simp [intOf]; omega
    · have hlt' : ¬ (k : Int) < (ts.length : Int) := by omega
      go_wp2_with fail
      go_ret
      exact ⟨⟨_, rfl, by rw [HR.out, List.drop_eq_nil_of_le (by omega)]; rfl⟩, bW⟩

set_option maxHeartbeats 1000000 in
theorem all42_any (v : Value) (ts : List (List UInt8)) (w : World) (hv : Txt w v ts) (hs : ts.length ≤ 1048576 ∧ ∀ t ∈ ts, t.length ≤ 1048576) :
    Calls Tryz.prog 40 #[v, .func (.func 39) #[] #[]] w fun e w' => e = .returned (.bool (ts.all trimB)) ∧ Below w.heap.size w w' := by
  obtain ⟨a1, c1, rfl, _⟩ := id hv
  have bb := (Below.refl _ w).alloc (Nat.le_refl _) (.cells #[.func (.func 39) #[] #[]] 56)
  have IX := index42_any _ ts w.heap.size _ (hv.below bb) hs (World.alloc_heap_new w _)
  have CF : Hid (Calls Tryz.prog 77 #[.slice a1 ts.length c1, .func (.func 78) #[] #[.pointer (some ⟨w.heap.size, 0, none⟩)]] (w.alloc (.cells #[.func (.func 39) #[] #[]] 56)) fun e w' => e = .returned (.bool (!ts.all trimB)) ∧ Below (w.alloc (.cells #[.func (.func 39) #[] #[]] 56)).heap.size (w.alloc (.cells #[.func (.func 39) #[] #[]] 56)) w') := by
    have IX := hide IX
    generalize ts.all trimB = b at *
    show Calls _ _ _ _ _
    go_enter Tryz.func77, Tryz.ntmps77
    go_wp2_with fail
    refine IX.out.mono ?_
    rintro e w1 ⟨⟨i, rfl, hi⟩, b1⟩
    go_wp2_with fail
    go_ret
    exact ⟨ret_b (by first | rfl | exact hi), b1⟩
  clear IX
  generalize ts.all trimB = b at *
  go_enter Tryz.func40, Tryz.ntmps40
  go_wp2_with fail
  refine CF.out.mono ?_
  rintro e w1 ⟨rfl, b1⟩
  go_wp2_with fail
  go_ret
  exact ⟨ret_b (by simp), bb.trans (b1.mono bb.size)⟩

set_option maxHeartbeats 400000 in
theorem not45_any (l : List UInt8) (B : Nat) (w : World) (hl : l.length ≤ 140737488351232) (hB : w.heap[B]? = some (.cells #[.func (.func 42) #[] #[]] 56 (0, 0))) :
    Calls Tryz.prog 78 #[.string (ofL l), .pointer (some ⟨B, 0, none⟩)] w fun e w' => e = .returned (.bool (!locB l)) ∧ Below w.heap.size w w' := by
  have c0 := cell_at 0 hB rfl
  have C := hide (fun w => fitsLocal_any l w (by omega))
  go_enter Tryz.func78, Tryz.ntmps78
  go_wp2_with fail
  refine (C.out _).mono ?_
  rintro e w1 ⟨rfl, b1⟩
  go_wp2_with fail
  go_ret
  exact ⟨rfl, b1⟩

set_option maxHeartbeats 1000000 in
theorem index45_any (v : Value) (ts : List (List UInt8)) (B : Nat) (w : World) (hv : Txt w v ts) (hs : ts.length ≤ 1048576 ∧ ∀ t ∈ ts, t.length ≤ 1048576) (hB : w.heap[B]? = some (.cells #[.func (.func 42) #[] #[]] 56 (0, 0))) :
    Calls Tryz.prog 100 #[v, .func (.func 78) #[] #[.pointer (some ⟨B, 0, none⟩)]] w fun e w' => (∃ i : Int, e = .returned (.int .i64 i) ∧ decide (0 ≤ i) = !ts.all locB) ∧ Below w.heap.size w w' := by
  obtain ⟨a1, c1, rfl, _⟩ := id hv
  have HV := hide hv
  have HS := hide hs
  have ls := hs.1
  have HB := hide hB
  clear hv hs hB
  go_enter Tryz.func100, Tryz.ntmps100
  go_wp2_with fail
  go_loopw [8] (fun i wr => ∃ k : Nat, k ≤ ts.length ∧ i = .int .i64 k ∧ Hid (ts.all locB = (ts.drop k).all locB) ∧ Below w.heap.size w wr) (fun i _ => ts.length - (intOf i).toNat)
  case atStart => exact ⟨0, by omega, rfl, by simp [Hid], Below.refl _ _⟩
  case round =>
    obtain ⟨k, hk, rfl, HR, bW⟩ := hrel
    have hv1 := HV.out.below bW
    by_cases h1 : k < ts.length
    · have hlt' : (k : Int) < (ts.length : Int) := by omega
      obtain ⟨b1, o1, rfl, hc1⟩ := hv1.some (by omega)
      have p1 := hc1 k h1
      clear hc1
      have C := fun w h => not45_any ts[k] B w (by have := HS.out.2 _ (List.getElem_mem h1); omega) h
      have hX : (ts.drop k).all locB = (locB ts[k] && (ts.drop (k + 1)).all locB) := by rw [List.drop_eq_getElem_cons h1, List.all_cons]
      have hBB := (bW.block _ (Array.getElem?_eq_some_iff.1 HB.out).1).trans HB.out
      have C := C wr hBB
      generalize ts[k] = t at *
      generalize locB t = b at *
      have HC := hide C
      have HX := hide hX
      clear C hX hv1 hBB
      cases b
      · go_wp2_with fail
        refine HC.out.mono ?_
        rintro e w2 ⟨rfl, b2⟩
        go_wp2_with fail
        go_ret
        exact ⟨⟨_, rfl, by rw [HR.out, HX.out]; simp⟩, bW.trans (b2.mono bW.size)⟩
      · go_wp2_with fail
        refine HC.out.mono ?_
        rintro e w2 ⟨rfl, b2⟩
        go_wp2_with fail
        go_roundw
        case rel => exact ⟨k + 1, by omega, by go_num, by rw [HR.out, HX.out]; simp [Hid], bW.trans (b2.mono bW.size)⟩
        case measure => simp [intOf]; omega
    · have hlt' : ¬ (k : Int) < (ts.length : Int) := by omega
      go_wp2_with fail
      go_ret
      exact ⟨⟨_, rfl, by rw [HR.out, List.drop_eq_nil_of_le (by omega)]; rfl⟩, bW⟩

set_option maxHeartbeats 1000000 in
theorem all45_any (v : Value) (ts : List (List UInt8)) (w : World) (hv : Txt w v ts) (hs : ts.length ≤ 1048576 ∧ ∀ t ∈ ts, t.length ≤ 1048576) :
    Calls Tryz.prog 40 #[v, .func (.func 42) #[] #[]] w fun e w' => e = .returned (.bool (ts.all locB)) ∧ Below w.heap.size w w' := by
  obtain ⟨a1, c1, rfl, _⟩ := id hv
  have bb := (Below.refl _ w).alloc (Nat.le_refl _) (.cells #[.func (.func 42) #[] #[]] 56)
  have IX := index45_any _ ts w.heap.size _ (hv.below bb) hs (World.alloc_heap_new w _)
  have CF : Hid (Calls Tryz.prog 77 #[.slice a1 ts.length c1, .func (.func 78) #[] #[.pointer (some ⟨w.heap.size, 0, none⟩)]] (w.alloc (.cells #[.func (.func 42) #[] #[]] 56)) fun e w' => e = .returned (.bool (!ts.all locB)) ∧ Below (w.alloc (.cells #[.func (.func 42) #[] #[]] 56)).heap.size (w.alloc (.cells #[.func (.func 42) #[] #[]] 56)) w') := by
    have IX := hide IX
    generalize ts.all locB = b at *
    show Calls _ _ _ _ _
    go_enter Tryz.func77, Tryz.ntmps77
    go_wp2_with fail
    refine IX.out.mono ?_
    rintro e w1 ⟨⟨i, rfl, hi⟩, b1⟩
    go_wp2_with fail
    go_ret
    exact ⟨ret_b (by first | rfl | exact hi), b1⟩
  clear IX
  generalize ts.all locB = b at *
  go_enter Tryz.func40, Tryz.ntmps40
  go_wp2_with fail
  refine CF.out.mono ?_
  rintro e w1 ⟨rfl, b1⟩
  go_wp2_with fail
  go_ret
  exact ⟨ret_b (by simp), bb.trans (b1.mono bb.size)⟩


end Go.Proofs.YtagnikhkmaplpaaGreat
