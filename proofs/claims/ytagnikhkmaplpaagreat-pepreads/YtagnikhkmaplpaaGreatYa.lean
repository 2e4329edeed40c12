/-
  Plain laws: the document's order of fit versions is the program's; no program is named here.
-/
import Derived.Test.YtagnikhkmaplpaaGreatQi
import Derived.Test.YtagnikhkmaplpaaGreatQd
import Derived.BigQuiet
import Derived.Deep.QuietTactic
namespace Go.Proofs.YtagnikhkmaplpaaGreat
set_option linter.unusedVariables false

/-- The class of a pre-release, by the document. -/
def clsR (x : PepL) : Int := if x.c = 97 then 1 else if x.c = 98 then 2 else if x.c = 114 then 3 else if x.d && !x.b then 0 else 4
def rankR (b : Bool) : Int := if b then 1 else 0
/-- Local rows, by the document. -/
def locR : List (List UInt8) → List (List UInt8) → Int
  | [], [] => 0
  | [], _ :: _ => -1
  | _ :: _, [] => 1
  | s :: a, t :: b => if locO s t = 0 then locR a b else locO s t
/-- The order of fit versions, by the document. -/
def ordR (x y : PepL) : Int := orI [cmpD x.ep y.ep, padO cmpD [] x.rel y.rel 0, cmpI (clsR x) (clsR y), cmpD x.n y.n, cmpI (rankR x.b) (rankR y.b), cmpD x.m y.m, cmpI (rankR !x.d) (rankR !y.d), cmpD x.k y.k, locR x.loc y.loc]

theorem orI_app : ∀ a b : List Int, orI (a ++ b) = if orI a = 0 then orI b else orI a
  | [], b => by simp [orI]
  | x :: a, b => by
    rw [List.cons_append, orI, orI, orI_app a b]
    by_cases h : x = 0
    · rw [if_pos h, if_pos h]
    · rw [if_neg h, if_neg h, if_neg h]
theorem orI_two (a b a' b' : Int) (h1 : a = a') (h2 : a = 0 → b = b') : orI [a, b] = orI [a', b'] := by
  subst h1
  simp only [orI]
  by_cases h : a = 0
  · rw [if_pos h, if_pos h, h2 h]
  · rw [if_neg h, if_neg h]
theorem cmpD_nil (t : List UInt8) : cmpD [] t = cmpD [48] t ∧ cmpD t [] = cmpD t [48] := ⟨rfl, rfl⟩
theorem rel_same (xs ys : List (List UInt8)) : padO cmpD [] xs ys 0 = padO cmpD [48] xs ys 0 := by
  unfold padO
  congr 1
  refine List.map_congr_left fun i _ => ?_
  have hg : ∀ zs : List (List UInt8), zs.getD i [] = zs.getD i [48] ∨ (zs.getD i [] = [] ∧ zs.getD i [48] = [48]) := by
    intro zs
    rw [List.getD_eq_getElem?_getD, List.getD_eq_getElem?_getD]
    cases zs[i]? with
    | none => exact .inr ⟨rfl, rfl⟩
    | some z => exact .inl rfl
  rcases hg xs with h1 | ⟨h1, h1'⟩ <;> rcases hg ys with h2 | ⟨h2, h2'⟩
  · rw [h1, h2]
  · rw [h1, h2, h2']; exact (cmpD_nil _).2
  · rw [h1, h1', h2]; exact (cmpD_nil _).1
  · rw [h1, h1', h2, h2']; rfl
theorem locO_nil {t : List UInt8} (h : t ≠ []) : locO [] t = -1 ∧ locO t [] = 1 := by
  obtain ⟨c, r, rfl⟩ : ∃ c r, t = c :: r := List.exists_cons_of_ne_nil h
  unfold locO
  rw [show digB [] = false from rfl]
  cases digB (c :: r) <;> exact ⟨rfl, rfl⟩
theorem padO_cons (O : List UInt8 → List UInt8 → Int) (d s t : List UInt8) (a b : List (List UInt8)) : padO O d (s :: a) (t :: b) 0 = if O s t = 0 then padO O d a b 0 else O s t := by
  rw [padO_step O d (s :: a) (t :: b) 0 (by simp)]
  have e : padO O d (s :: a) (t :: b) 1 = padO O d a b 0 := by
    unfold padO
    have l : max (s :: a).length (t :: b).length - 1 = max a.length b.length - 0 := by simp only [List.length_cons]; omega
    rw [l]
    congr 1
    rw [List.range'_eq_map_range, List.range'_eq_map_range, List.map_map, List.map_map]
    refine List.map_congr_left fun i _ => ?_
    show O ((s :: a).getD (1 + i) d) ((t :: b).getD (1 + i) d) = O (a.getD (0 + i) d) (b.getD (0 + i) d)
    rw [Nat.add_comm 1 i, Nat.zero_add]
    simp only [List.getD_cons_succ]
  show (if O s t = 0 then padO O d (s :: a) (t :: b) 1 else O s t) = _
  rw [e]
theorem loc_same : ∀ a b : List (List UInt8), (∀ t ∈ a, t ≠ []) → (∀ t ∈ b, t ≠ []) → padO locO [] a b 0 = locR a b
  | [], [], _, _ => padO_end _ _ _ _ _ (by simp)
  | [], t :: b, _, hb => by
    rw [padO_step _ _ _ _ _ (by simp)]
    show (if locO [] t = 0 then _ else locO [] t) = -1
    rw [(locO_nil (hb t List.mem_cons_self)).1]
    rfl
  | s :: a, [], ha, _ => by
    rw [padO_step _ _ _ _ _ (by simp)]
    show (if locO s [] = 0 then _ else locO s []) = 1
    rw [(locO_nil (ha s List.mem_cons_self)).2]
    rfl
  | s :: a, t :: b, ha, hb => by
    rw [padO_cons, locR, loc_same a b (fun t h => ha t (List.mem_cons_of_mem _ h)) (fun t h => hb t (List.mem_cons_of_mem _ h))]

theorem st1_same (x y : PepL) (hx : FitT x) (hy : FitT y) : orI [cmpI (clsR x) (clsR y), cmpD x.n y.n] = stgO (st1 x) (st1 y) := by
  have nx := hx.f5
  have ny := hy.f5
  unfold stgO
  refine orI_two _ _ _ _ ?_ ?_
  · unfold clsR st1
    rcases hx.f4 with h1 | h1 | h1 | h1 <;> rcases hy.f4 with h2 | h2 | h2 | h2 <;> rw [h1, h2] <;> simp <;> (repeat' split) <;> rfl
  · intro h0
    unfold clsR at h0
    unfold st1
    rcases hx.f4 with h1 | h1 | h1 | h1 <;> rcases hy.f4 with h2 | h2 | h2 | h2 <;> rw [h1] at nx h0 ⊢ <;> rw [h2] at ny h0 ⊢
    · have e1 : x.n = [] := num_false nx rfl
      have e2 : y.n = [] := num_false ny rfl
      rw [e1, e2]
      simp only [if_true]
      (repeat' split) <;> rfl
    all_goals first | rfl | (exfalso; simp at h0; revert h0; (repeat' split) <;> decide)
theorem st2_same (x y : PepL) (hx : FitT x) (hy : FitT y) : orI [cmpI (rankR x.b) (rankR y.b), cmpD x.m y.m] = stgO (st2 x) (st2 y) := by
  have nx := hx.f6
  have ny := hy.f6
  unfold stgO st2 rankR
  cases h1 : x.b <;> cases h2 : y.b <;> rw [h1] at nx <;> rw [h2] at ny
  · have e1 : x.m = [] := num_false nx rfl
    have e2 : y.m = [] := num_false ny rfl
    rw [e1, e2]
    rfl
  all_goals rfl
theorem st3_same (x y : PepL) (hx : FitT x) (hy : FitT y) : orI [cmpI (rankR !x.d) (rankR !y.d), cmpD x.k y.k] = stgO (st3 x) (st3 y) := by
  have nx := hx.f7
  have ny := hy.f7
  unfold stgO st3 rankR
  cases h1 : x.d <;> cases h2 : y.d <;> rw [h1] at nx <;> rw [h2] at ny
  · have e1 : x.k = [] := num_false nx rfl
    have e2 : y.k = [] := num_false ny rfl
    rw [e1, e2]
    rfl
  all_goals rfl
/-- The document's order of fit versions is the program's. -/
theorem ord_same (x y : PepL) (hx : FitT x) (hy : FitT y) : ordR x y = ordP x y := by
  have l1 : ∀ t ∈ x.loc, t ≠ [] := fun t h => (loc_of (List.all_eq_true.1 hx.f8 t h)).1
  have l2 : ∀ t ∈ y.loc, t ≠ [] := fun t h => (loc_of (List.all_eq_true.1 hy.f8 t h)).1
  unfold ordR ordP stL
  rw [rel_same, ← loc_same _ _ l1 l2, ← st1_same x y hx hy, ← st2_same x y hx hy, ← st3_same x y hx hy]
  simp only [orI]
  (repeat' split) <;> first | rfl | omega

end Go.Proofs.YtagnikhkmaplpaaGreat

/-
  Walks: the document's orders of parts.
-/
namespace Go.Proofs.YtagnikhkmaplpaaGreat
open Go.RowKit Go.Shelf
set_option linter.unusedVariables false

set_option maxHeartbeats 400000 in
theorem Rints_any (a b : Int) (w : World) : Calls Tryz.prog 37 #[.int .i64 a, .int .i64 b] w fun e w' => e = .returned (.int .i64 (cmpI a b)) ∧ w' = w := by
  by_cases h1 : a < b
  · have HC : Hid (cmpI a b = -1) := by show _ = _; unfold cmpI; rw [if_pos h1]
    generalize cmpI a b = C at *
    go_enter Tryz.func37, Tryz.ntmps37
    go_wp2_with fail
    go_ret
    exact ⟨by rw [HC.out]; rfl, rfl⟩
  · by_cases h2 : b < a
    · have HC : Hid (cmpI a b = 1) := by show _ = _; unfold cmpI; rw [if_neg h1, if_pos h2]
      generalize cmpI a b = C at *
      go_enter Tryz.func37, Tryz.ntmps37
      go_wp2_with fail
      go_ret
      exact ⟨by rw [HC.out]; rfl, rfl⟩
    · have HC : Hid (cmpI a b = 0) := by show _ = _; unfold cmpI; rw [if_neg h1, if_neg h2]
      generalize cmpI a b = C at *
      go_enter Tryz.func37, Tryz.ntmps37
      go_wp2_with fail
      go_ret
      exact ⟨by rw [HC.out]; rfl, rfl⟩
set_option maxHeartbeats 400000 in
theorem Rrank_any (b : Bool) (w : World) : Calls Tryz.prog 38 #[.bool b] w fun e w' => e = .returned (.int .i64 (rankR b)) ∧ w' = w := by
  cases b
  · go_enter Tryz.func38, Tryz.ntmps38
    go_wp2_with fail
    go_ret
    exact ⟨rfl, rfl⟩
  · go_enter Tryz.func38, Tryz.ntmps38
    go_wp2_with fail
    go_ret
    exact ⟨rfl, rfl⟩

set_option maxRecDepth 100000 in
set_option maxHeartbeats 1000000 in
theorem Rclass_any (x : PepL) (r1 q1 : Option Addr) (c1 d1 : Nat) (w : World) : Calls Tryz.prog 50 #[.agg #[.string (ofL x.ep), .slice r1 x.rel.length c1, .int .u8 x.c, .string (ofL x.n), .bool x.b, .string (ofL x.m), .bool x.d, .string (ofL x.k), .slice q1 x.loc.length d1]] w fun e w' => e = .returned (.int .i64 (clsR x)) ∧ Below w.heap.size w w' := by
  have HC : Hid (clsR x = if x.c = 97 then 1 else if x.c = 98 then 2 else if x.c = 114 then 3 else if x.d && !x.b then 0 else 4) := rfl
  generalize clsR x = C at *
  obtain ⟨ep, rel, c, n, b, m, d, k, loc⟩ := x
  dsimp only at *
  have bw := fun o => (Below.refl _ w).alloc (Nat.le_refl _) o
  by_cases h1 : c = 97
  · have hb : (c == 97) = true := by simpa using h1
    have HZ : Hid (C = 1) := by show _ = _; rw [HC.out, if_pos h1]
    clear h1 HC
    go_enter Tryz.func50, Tryz.ntmps50
    go_wp2_with fail
    go_ret
    exact ⟨by rw [HZ.out]; rfl, bw _⟩
  · have hb : (c == 97) = false := by simpa using h1
    by_cases h2 : c = 98
    · have hb2 : (c == 98) = true := by simpa using h2
      have HZ : Hid (C = 2) := by show _ = _; rw [HC.out, if_neg h1, if_pos h2]
      clear h1 h2 HC
      go_enter Tryz.func50, Tryz.ntmps50
      go_wp2_with fail
      go_ret
      exact ⟨by rw [HZ.out]; rfl, bw _⟩
    · have hb2 : (c == 98) = false := by simpa using h2
      by_cases h3 : c = 114
      · have hb3 : (c == 114) = true := by simpa using h3
        have HZ : Hid (C = 3) := by show _ = _; rw [HC.out, if_neg h1, if_neg h2, if_pos h3]
        clear h1 h2 h3 HC
        go_enter Tryz.func50, Tryz.ntmps50
        go_wp2_with fail
        go_ret
        exact ⟨by rw [HZ.out]; rfl, bw _⟩
      · have hb3 : (c == 114) = false := by simpa using h3
        have HZ : Hid (C = if d && !b then 0 else 4) := by show _ = _; rw [HC.out, if_neg h1, if_neg h2, if_neg h3]
        clear h1 h2 h3 HC
        cases d
        · go_enter Tryz.func50, Tryz.ntmps50
          go_wp2_with fail
          go_ret
          exact ⟨by rw [HZ.out]; rfl, bw _⟩
        · cases b
          · go_enter Tryz.func50, Tryz.ntmps50
            go_wp2_with fail
            go_ret
            exact ⟨by rw [HZ.out]; rfl, bw _⟩
          · go_enter Tryz.func50, Tryz.ntmps50
            go_wp2_with fail
            go_ret
            exact ⟨by rw [HZ.out]; rfl, bw _⟩

set_option maxRecDepth 100000 in
set_option maxHeartbeats 2000000 in
theorem Rrelease_any (r1 r2 : Option Addr) (c1 c2 n1 n2 : Nat) (xs ys : List (List UInt8)) (l1 : xs.length = n1) (l2 : ys.length = n2) (w : World) (hX : Txt w (.slice r1 n1 c1) xs) (hY : Txt w (.slice r2 n2 c2) ys) (mx : MidT xs) (my : MidT ys) :
    Calls Tryz.prog 49 #[.slice r1 n1 c1, .slice r2 n2 c2] w fun e w' => e = .returned (.int .i64 (padO cmpD [] xs ys 0)) ∧ w' = w := by
  have HX := hide hX
  have HY := hide hY
  have HL1 := hide l1
  have HL2 := hide l2
  have m1 : n1 ≤ 1048576 := by rw [← l1]; exact mx.1
  have m2 : n2 ≤ 1048576 := by rw [← l2]; exact my.1
  have CD : ∀ s t : List UInt8, s.length ≤ 1048576 → t.length ≤ 1048576 → ∀ w, Calls Tryz.prog 48 #[.string (ofL s), .string (ofL t)] w fun e w' => e = .returned (.int .i64 (cmpD s t)) ∧ w' = w := fun s t hs ht w => by
    have := RCmp_any (ofL s) (ofL t) w (by rw [ofL_size]; omega) (by rw [ofL_size]; omega)
    rw [ofL_data, ofL_data] at this
    exact this
  have GX : Hid (∀ i, (xs.getD i []).length ≤ 1048576) := fun i => by
    by_cases h : i < xs.length
    · rw [List.getD_eq_getElem?_getD, List.getElem?_eq_getElem h]; exact mx.2 _ (List.getElem_mem h)
    · rw [List.getD_eq_getElem?_getD, List.getElem?_eq_none (by omega)]; simp
  have GY : Hid (∀ i, (ys.getD i []).length ≤ 1048576) := fun i => by
    by_cases h : i < ys.length
    · rw [List.getD_eq_getElem?_getD, List.getElem?_eq_getElem h]; exact my.2 _ (List.getElem_mem h)
    · rw [List.getD_eq_getElem?_getD, List.getElem?_eq_none (by omega)]; simp
  have HP := hide (padO_step cmpD [] xs ys)
  have HE := hide (padO_end cmpD [] xs ys)
  have CD := hide CD
  clear hX hY l1 l2 mx my
  obtain ⟨R, HR⟩ : ∃ R, Hid (R = padO cmpD [] xs ys 0) := ⟨_, rfl⟩
  rw [← HR.out]
  go_enter Tryz.func49, Tryz.ntmps49
  go_wp2_with fail
  go_loop [5] (fun i => ∃ k : Nat, k ≤ max n1 n2 ∧ i = .int .i64 k ∧ Hid (R = padO cmpD [] xs ys k)) (fun i => max n1 n2 - (intOf i).toNat)
  case atStart => exact ⟨0, by omega, rfl, HR⟩
  case round =>
    obtain ⟨k, hk, rfl, HI⟩ := hrel
    by_cases hm : k < max n1 n2
    · have HS := hide (HP.out k (by rw [HL1.out, HL2.out]; exact hm))
      have CC := hide (CD.out _ _ (GX.out k) (GY.out k))
      by_cases h1 : k < n1
      · have h1' : (k : Int) < (n1 : Int) := by omega
        have j1 : k < xs.length := by rw [HL1.out]; exact h1
        obtain ⟨b1, o1, rfl, e1⟩ := HX.out.some (by omega)
        have e1 := e1 k j1
        have g1 : xs.getD k [] = xs[k] := by rw [List.getD_eq_getElem?_getD, List.getElem?_eq_getElem j1]; rfl
        rw [← g1] at e1
        clear g1 j1
        by_cases h2 : k < n2
        · have h2' : (k : Int) < (n2 : Int) := by omega
          have j2 : k < ys.length := by rw [HL2.out]; exact h2
          obtain ⟨b2, o2, rfl, e2⟩ := HY.out.some (by omega)
          have e2 := e2 k j2
          have g2 : ys.getD k [] = ys[k] := by rw [List.getD_eq_getElem?_getD, List.getElem?_eq_getElem j2]; rfl
          rw [← g2] at e2
          clear g2 j2
          generalize xs.getD k [] = s at *
          generalize ys.getD k [] = t at *
          generalize cmpD s t = O at *
          by_cases h0 : O = 0
          · subst h0
            have HN : Hid (R = padO cmpD [] xs ys (k + 1)) := by show _ = _; rw [HI.out, HS.out, if_pos rfl]
            clear HS HI
            go_wp2_with fail
            refine (CC.out _).mono ?_
            rintro e w' ⟨rfl, hw'⟩
            rw [hw']; clear hw' w'
            go_wp2_with fail
            go_round
            case rel => exact ⟨k + 1, by omega, by go_num, HN⟩
            case measure => simp [intOf]; omega
          · have hb0 : (O != 0) = true := by simpa using h0
            have HN : Hid (R = O) := by show _ = _; rw [HI.out, HS.out, if_neg h0]
            clear HS HI h0
            go_wp2_with fail
            refine (CC.out _).mono ?_
            rintro e w' ⟨rfl, hw'⟩
            rw [hw']; clear hw' w'
            go_wp2_with fail
            go_ret
            exact ⟨ret_i HN.out.symm, rfl⟩
        · have h2' : ¬ (k : Int) < (n2 : Int) := by omega
          have g2 : ys.getD k [] = [] := by rw [List.getD_eq_getElem?_getD, List.getElem?_eq_none (by rw [HL2.out]; omega)]; rfl
          rw [g2] at CC HS
          clear g2
          have CC : Hid (∀ w, Calls Tryz.prog 48 #[.string (ofL (xs.getD k [])), .string ⟨#[]⟩] w fun e w' => e = .returned (.int .i64 (cmpD (xs.getD k []) [])) ∧ w' = w) := CC
          generalize xs.getD k [] = s at *
          generalize cmpD s [] = O at *
          by_cases h0 : O = 0
          · subst h0
            have HN : Hid (R = padO cmpD [] xs ys (k + 1)) := by show _ = _; rw [HI.out, HS.out, if_pos rfl]
            clear HS HI
            go_wp2_with fail
            refine (CC.out _).mono ?_
            rintro e w' ⟨rfl, hw'⟩
            rw [hw']; clear hw' w'
            go_wp2_with fail
            go_round
            case rel => exact ⟨k + 1, by omega, by go_num, HN⟩
            case measure => simp [intOf]; omega
          · have hb0 : (O != 0) = true := by simpa using h0
            have HN : Hid (R = O) := by show _ = _; rw [HI.out, HS.out, if_neg h0]
            clear HS HI h0
            go_wp2_with fail
            refine (CC.out _).mono ?_
            rintro e w' ⟨rfl, hw'⟩
            rw [hw']; clear hw' w'
            go_wp2_with fail
            go_ret
            exact ⟨ret_i HN.out.symm, rfl⟩
      · have h1' : ¬ (k : Int) < (n1 : Int) := by omega
        have h2 : k < n2 := by omega
        have h2' : (k : Int) < (n2 : Int) := by omega
        have j2 : k < ys.length := by rw [HL2.out]; exact h2
        obtain ⟨b2, o2, rfl, e2⟩ := HY.out.some (by omega)
        have e2 := e2 k j2
        have g2 : ys.getD k [] = ys[k] := by rw [List.getD_eq_getElem?_getD, List.getElem?_eq_getElem j2]; rfl
        rw [← g2] at e2
        have g1 : xs.getD k [] = [] := by rw [List.getD_eq_getElem?_getD, List.getElem?_eq_none (by rw [HL1.out]; omega)]; rfl
        rw [g1] at CC HS
        clear g1 g2 j2
        have CC : Hid (∀ w, Calls Tryz.prog 48 #[.string ⟨#[]⟩, .string (ofL (ys.getD k []))] w fun e w' => e = .returned (.int .i64 (cmpD [] (ys.getD k []))) ∧ w' = w) := CC
        generalize ys.getD k [] = t at *
        generalize cmpD [] t = O at *
        by_cases h0 : O = 0
        · subst h0
          have HN : Hid (R = padO cmpD [] xs ys (k + 1)) := by show _ = _; rw [HI.out, HS.out, if_pos rfl]
          clear HS HI
          go_wp2_with fail
          refine (CC.out _).mono ?_
          rintro e w' ⟨rfl, hw'⟩
          rw [hw']; clear hw' w'
          go_wp2_with fail
          go_round
          case rel => exact ⟨k + 1, by omega, by go_num, HN⟩
          case measure => simp [intOf]; omega
        · have hb0 : (O != 0) = true := by simpa using h0
          have HN : Hid (R = O) := by show _ = _; rw [HI.out, HS.out, if_neg h0]
          clear HS HI h0
          go_wp2_with fail
          refine (CC.out _).mono ?_
          rintro e w' ⟨rfl, hw'⟩
          rw [hw']; clear hw' w'
          go_wp2_with fail
          go_ret
          exact ⟨ret_i HN.out.symm, rfl⟩
    · have HZ : Hid (R = 0) := by show _ = _; rw [HI.out, HE.out k (by rw [HL1.out, HL2.out]; omega)]
      have h1' : ¬ (k : Int) < (n1 : Int) := by omega
      have h2' : ¬ (k : Int) < (n2 : Int) := by omega
      go_wp2_with fail
      go_ret
      exact ⟨by rw [HZ.out]; rfl, rfl⟩

theorem locR_drop (a b : List (List UInt8)) (i : Nat) (ha : i < a.length) (hb : i < b.length) : locR (a.drop i) (b.drop i) = if locO a[i] b[i] = 0 then locR (a.drop (i + 1)) (b.drop (i + 1)) else locO a[i] b[i] := by
  rw [List.drop_eq_getElem_cons ha, List.drop_eq_getElem_cons hb, locR]
theorem locR_end (a b : List (List UInt8)) (i : Nat) (h : a.length ≤ i ∨ b.length ≤ i) (ha : i ≤ a.length) (hb : i ≤ b.length) : locR (a.drop i) (b.drop i) = cmpI (a.length : Int) (b.length : Int) := by
  unfold cmpI
  by_cases h1 : a.length ≤ i
  · rw [List.drop_eq_nil_of_le h1]
    by_cases h2 : b.length ≤ i
    · rw [List.drop_eq_nil_of_le h2, if_neg (by omega), if_neg (by omega)]; rfl
    · rw [List.drop_eq_getElem_cons (by omega), if_pos (by omega)]; rfl
  · have h2 : b.length ≤ i := by omega
    rw [List.drop_eq_nil_of_le h2, List.drop_eq_getElem_cons (show i < a.length by omega), if_neg (by omega), if_pos (by omega)]; rfl
/-- Digits alone, or nothing. -/
theorem dig_all {t : List UInt8} (h : t ≠ []) : digB t = decide (runL 1 t = t.length) := by
  unfold digB
  have : t.isEmpty = false := by cases t with | nil => exact absurd rfl h | cons c r => rfl
  rw [this, Bool.eq_iff_iff]; simp

set_option maxRecDepth 100000 in
set_option maxHeartbeats 8000000 in
theorem Rlocals_any (r1 r2 : Option Addr) (c1 c2 n1 n2 : Nat) (xs ys : List (List UInt8)) (l1 : xs.length = n1) (l2 : ys.length = n2) (w : World) (hX : Txt w (.slice r1 n1 c1) xs) (hY : Txt w (.slice r2 n2 c2) ys) (mx : MidT xs) (my : MidT ys) (nx : ∀ t ∈ xs, t ≠ []) (ny : ∀ t ∈ ys, t ≠ []) :
    Calls Tryz.prog 51 #[.slice r1 n1 c1, .slice r2 n2 c2] w fun e w' => e = .returned (.int .i64 (locR xs ys)) ∧ Below w.heap.size w w' := by
  have HX := hide hX
  have HY := hide hY
  have HL1 := hide l1
  have HL2 := hide l2
  have m1 : n1 ≤ 1048576 := by rw [← l1]; exact mx.1
  have m2 : n2 ≤ 1048576 := by rw [← l2]; exact my.1
  have MX := hide mx.2
  have MY := hide my.2
  have NX := hide nx
  have NY := hide ny
  have RK := hide (fun b w => Rrank_any b w)
  have IT := hide (fun a b w => Rints_any a b w)
  clear hX hY l1 l2 mx my nx ny
  obtain ⟨R, HR⟩ : ∃ R, Hid (R = locR (xs.drop 0) (ys.drop 0)) := ⟨_, rfl⟩
  rw [show locR xs ys = R from HR.out.symm]
  go_enter Tryz.func51, Tryz.ntmps51
  go_wp2_with fail
  go_loopw [5] (fun i wr => ∃ k : Nat, k ≤ n1 ∧ k ≤ n2 ∧ i = .int .i64 k ∧ Below w.heap.size w wr ∧ Hid (R = locR (xs.drop k) (ys.drop k))) (fun i _ => n1 - (intOf i).toNat)
  case atStart => exact ⟨0, by omega, by omega, rfl, Below.refl _ _, HR⟩
  case round =>
    obtain ⟨k, hk1, hk2, rfl, hB, HI⟩ := hrel
    by_cases hm : k < n1 ∧ k < n2
    · obtain ⟨h1, h2⟩ := hm
      have h1' : (k : Int) < (n1 : Int) := by omega
      have h2' : (k : Int) < (n2 : Int) := by omega
      have j1 : k < xs.length := by rw [HL1.out]; exact h1
      have j2 : k < ys.length := by rw [HL2.out]; exact h2
      obtain ⟨b1, o1, rfl, e1⟩ := (HX.out.below hB).some (by omega)
      obtain ⟨b2, o2, rfl, e2⟩ := (HY.out.below hB).some (by omega)
      have e1 := e1 k j1
      have e2 := e2 k j2
      have HS := hide (locR_drop xs ys k j1 j2)
      have ms := MX.out _ (List.getElem_mem j1)
      have mt := MY.out _ (List.getElem_mem j2)
      have ds := dig_all (NX.out _ (List.getElem_mem j1))
      have dt := dig_all (NY.out _ (List.getElem_mem j2))
      generalize xs[k] = s at *
      generalize ys[k] = t at *
      clear j1 j2
      have RS := fun w => RRun_any (ofL s) 0 1 w (by rw [ofL_size]; unfold maxLen; omega)
      have RT := fun w => RRun_any (ofL t) 0 1 w (by rw [ofL_size]; unfold maxLen; omega)
      rw [show runI (ofL s).data.toList 0 1 = (runL 1 s : Int) by have := runI_in (ofL s) 0 1 (Nat.zero_le _); rw [ofL_data] at this ⊢; simpa using this] at RS
      rw [show runI (ofL t).data.toList 0 1 = (runL 1 t : Int) by have := runI_in (ofL t) 0 1 (Nat.zero_le _); rw [ofL_data] at this ⊢; simpa using this] at RT
      have CD := fun w => RCmp_any (ofL s) (ofL t) w (by rw [ofL_size]; omega) (by rw [ofL_size]; omega)
      have CT := fun w => Texts_any (ofL s) (ofL t) w
      rw [ofL_data, ofL_data] at CD CT
      have qs : ((runL 1 s : Int) == ((ofL s).size : Int)) = digB s := by rw [ds, ofL_size, Bool.eq_iff_iff]; simp only [beq_iff_eq, decide_eq_true_eq]; omega
      have qt : ((runL 1 t : Int) == ((ofL t).size : Int)) = digB t := by rw [dt, ofL_size, Bool.eq_iff_iff]; simp only [beq_iff_eq, decide_eq_true_eq]; omega
      have HLO : Hid (locO s t = if digB s then (if digB t then cmpD s t else 1) else if digB t then -1 else Lib.compareBytes s t) := rfl
      have RS := hide RS
      have RT := hide RT
      have CD := hide CD
      have CT := hide CT
      clear ds dt ms mt
      generalize locO s t = O at *
      generalize digB s = x at *
      generalize digB t = y at *
      generalize cmpD s t = cd at *
      generalize Lib.compareBytes s t = ct at *
      generalize (runL 1 s : Int) = rs at *
      generalize (runL 1 t : Int) = rt at *
      generalize ofL s = sa at *
      generalize ofL t = ta at *
      cases x
      · cases y
        · have HO : Hid (O = ct) := by show _ = _; rw [HLO.out]; rfl
          clear HLO
          go_wp2_with fail
          go_quiet (first | (go_at_call 26; exact Calls.quiet_of_same (RS.out _)) | fail)
          have hB1 := hB.trans (below_drewN _ wr nq)
          have e1 : (wr.drewN nq).cell? ⟨b1, o1 + k, none⟩ = some (.string sa) := e1
          have e2 : (wr.drewN nq).cell? ⟨b2, o2 + k, none⟩ = some (.string ta) := e2
          generalize wr.drewN nq = W1 at *
          go_wp2_with fail
          go_quiet (first | (go_at_call 26; exact Calls.quiet_of_same (RT.out _)) | fail)
          have hB2 := hB1.trans (below_drewN _ W1 nq)
          have e1 : (W1.drewN nq).cell? ⟨b1, o1 + k, none⟩ = some (.string sa) := e1
          have e2 : (W1.drewN nq).cell? ⟨b2, o2 + k, none⟩ = some (.string ta) := e2
          generalize W1.drewN nq = W2 at *
          go_wp2_with fail
          refine (RK.out false _).mono ?_
          rintro e w' ⟨rfl, hw'⟩
          rw [hw']; clear hw' w'
          go_wp2_with fail
          refine (RK.out false _).mono ?_
          rintro e w' ⟨rfl, hw'⟩
          rw [hw']; clear hw' w'
          go_wp2_with fail
          refine (IT.out _ _ _).mono ?_
          rintro e w' ⟨rfl, hw'⟩
          rw [hw']; clear hw' w'
          go_wp2_with fail
          go_quiet (first | (go_at_call 84; exact Calls.quiet_of_same (CT.out _)) | fail)
          have hB3 := hB2.trans (below_drewN _ W2 nq)
          generalize W2.drewN nq = W3 at *
          by_cases h0 : O = 0
          · have HN : Hid (R = locR (xs.drop (k + 1)) (ys.drop (k + 1))) := by show _ = _; rw [HI.out, HS.out, if_pos h0]
            have hz : (ct != 0) = false := by rw [← HO.out]; simpa using h0
            clear HS HI h0 HO
            go_wp2_with fail
            go_roundw
            case rel => exact ⟨k + 1, by omega, by omega, by go_num, hB3, HN⟩
            case measure => simp [intOf]; omega
          · have HN : Hid (R = ct) := by show _ = _; rw [HI.out, HS.out, if_neg h0]; exact HO.out
            have hz : (ct != 0) = true := by rw [← HO.out]; simpa using h0
            clear HS HI h0 HO
            go_wp2_with fail
            go_ret
            exact ⟨ret_i HN.out.symm, hB3⟩
        · have HNR : Hid (R = -1) := by show _ = _; rw [HI.out, HS.out, HLO.out]; rfl
          clear HS HI HLO
          go_wp2_with fail
          go_quiet (first | (go_at_call 26; exact Calls.quiet_of_same (RS.out _)) | fail)
          have hB1 := hB.trans (below_drewN _ wr nq)
          have e1 : (wr.drewN nq).cell? ⟨b1, o1 + k, none⟩ = some (.string sa) := e1
          have e2 : (wr.drewN nq).cell? ⟨b2, o2 + k, none⟩ = some (.string ta) := e2
          generalize wr.drewN nq = W1 at *
          go_wp2_with fail
          go_quiet (first | (go_at_call 26; exact Calls.quiet_of_same (RT.out _)) | fail)
          have hB2 := hB1.trans (below_drewN _ W1 nq)
          have e1 : (W1.drewN nq).cell? ⟨b1, o1 + k, none⟩ = some (.string sa) := e1
          have e2 : (W1.drewN nq).cell? ⟨b2, o2 + k, none⟩ = some (.string ta) := e2
          generalize W1.drewN nq = W2 at *
          go_wp2_with fail
          refine (RK.out false _).mono ?_
          rintro e w' ⟨rfl, hw'⟩
          rw [hw']; clear hw' w'
          go_wp2_with fail
          refine (RK.out true _).mono ?_
          rintro e w' ⟨rfl, hw'⟩
          rw [hw']; clear hw' w'
          go_wp2_with fail
          refine (IT.out _ _ _).mono ?_
          rintro e w' ⟨rfl, hw'⟩
          rw [hw']; clear hw' w'
          go_wp2_with fail
          go_ret
          exact ⟨ret_i HNR.out.symm, hB2⟩
      · cases y
        · have HNR : Hid (R = 1) := by show _ = _; rw [HI.out, HS.out, HLO.out]; rfl
          clear HS HI HLO
          go_wp2_with fail
          go_quiet (first | (go_at_call 26; exact Calls.quiet_of_same (RS.out _)) | fail)
          have hB1 := hB.trans (below_drewN _ wr nq)
          have e1 : (wr.drewN nq).cell? ⟨b1, o1 + k, none⟩ = some (.string sa) := e1
          have e2 : (wr.drewN nq).cell? ⟨b2, o2 + k, none⟩ = some (.string ta) := e2
          generalize wr.drewN nq = W1 at *
          go_wp2_with fail
          go_quiet (first | (go_at_call 26; exact Calls.quiet_of_same (RT.out _)) | fail)
          have hB2 := hB1.trans (below_drewN _ W1 nq)
          have e1 : (W1.drewN nq).cell? ⟨b1, o1 + k, none⟩ = some (.string sa) := e1
          have e2 : (W1.drewN nq).cell? ⟨b2, o2 + k, none⟩ = some (.string ta) := e2
          generalize W1.drewN nq = W2 at *
          go_wp2_with fail
          refine (RK.out true _).mono ?_
          rintro e w' ⟨rfl, hw'⟩
          rw [hw']; clear hw' w'
          go_wp2_with fail
          refine (RK.out false _).mono ?_
          rintro e w' ⟨rfl, hw'⟩
          rw [hw']; clear hw' w'
          go_wp2_with fail
          refine (IT.out _ _ _).mono ?_
          rintro e w' ⟨rfl, hw'⟩
          rw [hw']; clear hw' w'
          go_wp2_with fail
          go_ret
          exact ⟨ret_i HNR.out.symm, hB2⟩
        · have HO : Hid (O = cd) := by show _ = _; rw [HLO.out]; rfl
          clear HLO
          go_wp2_with fail
          go_quiet (first | (go_at_call 26; exact Calls.quiet_of_same (RS.out _)) | fail)
          have hB1 := hB.trans (below_drewN _ wr nq)
          have e1 : (wr.drewN nq).cell? ⟨b1, o1 + k, none⟩ = some (.string sa) := e1
          have e2 : (wr.drewN nq).cell? ⟨b2, o2 + k, none⟩ = some (.string ta) := e2
          generalize wr.drewN nq = W1 at *
          go_wp2_with fail
          go_quiet (first | (go_at_call 26; exact Calls.quiet_of_same (RT.out _)) | fail)
          have hB2 := hB1.trans (below_drewN _ W1 nq)
          have e1 : (W1.drewN nq).cell? ⟨b1, o1 + k, none⟩ = some (.string sa) := e1
          have e2 : (W1.drewN nq).cell? ⟨b2, o2 + k, none⟩ = some (.string ta) := e2
          generalize W1.drewN nq = W2 at *
          go_wp2_with fail
          refine (RK.out true _).mono ?_
          rintro e w' ⟨rfl, hw'⟩
          rw [hw']; clear hw' w'
          go_wp2_with fail
          refine (RK.out true _).mono ?_
          rintro e w' ⟨rfl, hw'⟩
          rw [hw']; clear hw' w'
          go_wp2_with fail
          refine (IT.out _ _ _).mono ?_
          rintro e w' ⟨rfl, hw'⟩
          rw [hw']; clear hw' w'
          go_wp2_with fail
          go_quiet (first | (go_at_call 48; exact Calls.quiet_of_same (CD.out _)) | fail)
          have hB3 := hB2.trans (below_drewN _ W2 nq)
          generalize W2.drewN nq = W3 at *
          by_cases h0 : O = 0
          · have HN : Hid (R = locR (xs.drop (k + 1)) (ys.drop (k + 1))) := by show _ = _; rw [HI.out, HS.out, if_pos h0]
            have hz : (cd != 0) = false := by rw [← HO.out]; simpa using h0
            clear HS HI h0 HO
            go_wp2_with fail
            go_roundw
            case rel => exact ⟨k + 1, by omega, by omega, by go_num, hB3, HN⟩
            case measure => simp [intOf]; omega
          · have HN : Hid (R = cd) := by show _ = _; rw [HI.out, HS.out, if_neg h0]; exact HO.out
            have hz : (cd != 0) = true := by rw [← HO.out]; simpa using h0
            clear HS HI h0 HO
            go_wp2_with fail
            go_ret
            exact ⟨ret_i HN.out.symm, hB3⟩
    · have HZ : Hid (R = cmpI (n1 : Int) (n2 : Int)) := by show _ = _; rw [HI.out, locR_end xs ys k (by rw [HL1.out, HL2.out]; omega) (by rw [HL1.out]; omega) (by rw [HL2.out]; omega), HL1.out, HL2.out]
      have RF := hide (IT.out (n1 : Int) (n2 : Int))
      rw [← HZ.out] at RF
      by_cases h1 : k < n1
      · have h1' : (k : Int) < (n1 : Int) := by omega
        have h2' : ¬ (k : Int) < (n2 : Int) := by omega
        clear hm
        go_wp2_with fail
        refine (RF.out _).mono ?_
        rintro e w' ⟨rfl, hw'⟩
        rw [hw']; clear hw' w'
        go_wp2_with fail
        go_ret
        exact ⟨rfl, hB⟩
      · have h1' : ¬ (k : Int) < (n1 : Int) := by omega
        clear hm
        go_wp2_with fail
        refine (RF.out _).mono ?_
        rintro e w' ⟨rfl, hw'⟩
        rw [hw']; clear hw' w'
        go_wp2_with fail
        go_ret
        exact ⟨rfl, hB⟩

end Go.Proofs.YtagnikhkmaplpaaGreat
