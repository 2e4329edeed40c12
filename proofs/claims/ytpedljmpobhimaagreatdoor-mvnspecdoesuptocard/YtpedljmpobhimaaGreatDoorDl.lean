/-
  Walks: the order of tokens and of rows of them.
-/
import Derived.Test.YtpedljmpobhimaaGreatDoorDk
namespace Go.Proofs.YtpedljmpobhimaaGreatDoor
open Go.RowKit Go.Shelf
set_option linter.unusedVariables false

set_option maxHeartbeats 400000 in
/-- The library's order of kinds. -/
theorem CompareK_any (x y : Int) (w : World) :
    Calls Tryz.prog 120 #[.int .i64 x, .int .i64 y] w fun e w' => e = .returned (.int .i64 (cmpI x y)) ∧ w' = w := by
  by_cases h1 : x < y
  · go_enter Tryz.func120, Tryz.ntmps120
    go_wp2
    go_ret
    exact ⟨ret_i (by unfold cmpI; first | rfl | ((repeat' split) <;> omega)), rfl⟩
  · by_cases h2 : y < x
    · go_enter Tryz.func120, Tryz.ntmps120
      go_wp2
      go_ret
      exact ⟨ret_i (by unfold cmpI; first | rfl | ((repeat' split) <;> omega)), rfl⟩
    · go_enter Tryz.func120, Tryz.ntmps120
      go_wp2
      go_ret
      exact ⟨ret_i (by unfold cmpI; first | rfl | ((repeat' split) <;> omega)), rfl⟩

/-- The first that is not nought. -/
def orI : List Int → Int
  | [] => 0
  | x :: r => if x = 0 then orI r else x
theorem orI_drop (xs : List Int) (k : Nat) (h : k < xs.length) : orI (xs.drop k) = if xs[k] = 0 then orI (xs.drop (k + 1)) else xs[k] := by
  rw [List.drop_eq_getElem_cons h]
  rfl
theorem orI_end (xs : List Int) (k : Nat) (h : xs.length ≤ k) : orI (xs.drop k) = 0 := by
  rw [List.drop_eq_nil_of_le h]
  rfl

set_option maxHeartbeats 400000 in
theorem Or_any (B : Nat) (xs : List Int) (n : Nat) (hn : xs.length = n) (w : World) (h : ∀ i (h : i < xs.length), w.cell? ⟨B, i, none⟩ = some (.int .i64 xs[i])) (hl : n ≤ 64) :
    Calls Tryz.prog 123 #[.slice (some ⟨B, 0, none⟩) n n] w fun e w' => e = .returned (.int .i64 (orI xs)) ∧ w' = w := by
  have HC := hide h
  have HN := hide hn
  clear h hn
  go_enter Tryz.func123, Tryz.ntmps123
  go_wp2_with fail
  go_loop [8] (fun i => ∃ k : Nat, k ≤ n ∧ i = .int .i64 k ∧ Hid (orI xs = orI (xs.drop k))) (fun i => n - (intOf i).toNat)
  case atStart => exact ⟨0, by omega, rfl, rfl⟩
  case round =>
    obtain ⟨k, hk, rfl, HR⟩ := hrel
    by_cases h1 : k < n
    · have hd1 : decide ((k : Int) < (n : Int)) = true := by simp; omega
      have hk' : k < xs.length := by rw [HN.out]; exact h1
      have p1 := HC.out k hk'
      have hX := orI_drop xs k hk'
      generalize xs[k] = O at *
      by_cases h0 : O = 0
      · subst h0
        rw [if_pos rfl] at hX
        have HX := hide hX
        clear hX hk'
        go_wp2_with fail
        go_round
        case rel => exact ⟨k + 1, by omega, by go_num, by show _ = _; rw [HR.out, HX.out]⟩
        case measure => simp [intOf]; omega
      · rw [if_neg h0] at hX
        have hb0 : (O != 0) = true := by simpa using h0
        have HX := hide hX
        clear hX h0 hk'
        go_wp2_with fail
        go_ret
        exact ⟨ret_i (by rw [HR.out, HX.out]), rfl⟩
    · have hd1 : decide ((k : Int) < (n : Int)) = false := by simp; omega
      have hd3 : ¬ ((k : Int) < (n : Int)) := by omega
      have HX := hide (orI_end xs k (by rw [HN.out]; omega))
      go_wp2_with fail
      go_ret
      exact ⟨ret_i (by rw [HR.out, HX.out]), rfl⟩


/-- Two tokens in their boxes. -/
structure OB (w W : World) (x y : Tok) : Prop where
  bel : Below w.heap.size w W
  ea : W.heap[w.heap.size]? = some (.cells #[.bool x.dash, .bool x.num, .string (ofL x.text)] 91 (0, 0))
  eb : W.heap[w.heap.size + 1]? = some (.cells #[.bool y.dash, .bool y.num, .string (ofL y.text)] 91 (0, 0))
theorem OB.start (w : World) (x y : Tok) : OB w ((w.alloc (.cells #[.bool x.dash, .bool x.num, .string (ofL x.text)] 91)).alloc (.cells #[.bool y.dash, .bool y.num, .string (ofL y.text)] 91)) x y := by
  refine ⟨((Below.refl _ w).alloc (Nat.le_refl _) _).alloc (by simp) _, ?_, ?_⟩
  · rw [Below.heap_alloc _ _ _ (by simp)]
    exact World.alloc_heap_new w _
  · have := World.alloc_heap_new (w.alloc (.cells #[.bool x.dash, .bool x.num, .string (ofL x.text)] 91)) (.cells #[.bool y.dash, .bool y.num, .string (ofL y.text)] 91)
    rwa [World.size_alloc] at this
theorem OB.drew {w W : World} {x y : Tok} (h : OB w W x y) : OB w W.drew x y := ⟨h.bel.drew, h.ea, h.eb⟩
theorem OB.next {w W W' : World} {x y : Tok} (h : OB w W x y) (hb : Below W.heap.size W W') : OB w W' x y := by
  have l1 := (Array.getElem?_eq_some_iff.1 h.ea).1
  have l2 := (Array.getElem?_eq_some_iff.1 h.eb).1
  exact ⟨h.bel.trans (hb.mono h.bel.size), (hb.block _ l1).trans h.ea, (hb.block _ l2).trans h.eb⟩
theorem OB.seen {w W : World} {x y : Tok} (h : OB w W x y) : W.cell? ⟨w.heap.size, 0, none⟩ = some (.bool x.dash) ∧ W.cell? ⟨w.heap.size, 1, none⟩ = some (.bool x.num) ∧ W.cell? ⟨w.heap.size, 2, none⟩ = some (.string (ofL x.text)) ∧
    W.cell? ⟨w.heap.size + 1, 0, none⟩ = some (.bool y.dash) ∧ W.cell? ⟨w.heap.size + 1, 1, none⟩ = some (.bool y.num) ∧ W.cell? ⟨w.heap.size + 1, 2, none⟩ = some (.string (ofL y.text)) :=
  ⟨cell_at 0 h.ea rfl, cell_at 1 h.ea rfl, cell_at 2 h.ea rfl, cell_at 0 h.eb rfl, cell_at 1 h.eb rfl, cell_at 2 h.eb rfl⟩
theorem OB.kn {w W : World} {x y : Tok} (h : OB w W x y) (hk : Kn w) : Kn W := hk.below hk.pos h.bel

theorem ordT_or (x y : Tok) (h : cmpI (kindT x) (kindT y) = 0) : ordT x y = if x.num then cmpD x.text y.text else orI [cmpI (rankL x.text) (rankL y.text), Lib.compareBytes x.text y.text] := by
  unfold ordT
  rw [if_neg (by simpa using h)]
  by_cases hn : x.num = true
  · rw [if_pos hn, if_pos hn]
  · rw [if_neg hn, if_neg hn]
    by_cases h1 : cmpI (rankL x.text) (rankL y.text) = 0
    · rw [if_neg (by simpa using h1)]
      rw [orI, if_pos h1, orI, orI]
      by_cases h2 : Lib.compareBytes x.text y.text = 0
      · rw [if_pos h2, h2]
      · rw [if_neg h2]
    · rw [if_pos h1, orI, if_neg h1]

set_option maxRecDepth 100000 in
set_option maxHeartbeats 4000000 in
theorem orderTokens_any (x y : Tok) (w : World) (hk : Kn w) (hx : x.text.length ≤ 9223372036854775000) (hy : y.text.length ≤ 9223372036854775000) :
    Calls Tryz.prog 117 #[tokV x, tokV y] w fun e w' => e = .returned (.int .i64 (ordT x y)) ∧ Below w.heap.size w w' := by
  have KX := fun w => kindOf_any x w
  have KY := fun w => kindOf_any y w
  have CC := fun w => CompareK_any (kindT x) (kindT y) w
  have CD := fun w => Cmp_any (ofL x.text) (ofL y.text) w (by rw [ofL_size]; omega) (by rw [ofL_size]; omega)
  have RX := fun w h => Rank_any (ofL x.text) w h
  have RY := fun w h => Rank_any (ofL y.text) w h
  have SC := fun w => StrCompare_any (ofL x.text) (ofL y.text) w
  have CI := fun w => Compare_any (rankL x.text) (rankL y.text) w
  change ∀ w, Calls Tryz.prog 124 _ w fun e w' => e = .returned (.int .i64 (cmpI (rankL x.text) (rankL y.text))) ∧ w' = w at CI
  rw [ofL_data, ofL_data] at CD SC
  rw [ofL_data] at RX RY
  unfold tokV at KX KY ⊢
  have KX := hide KX
  have KY := hide KY
  have RX := hide RX
  have RY := hide RY
  have SC := hide SC
  have CD := hide CD
  have S0 := OB.start w x y
  have HO := hide (ordT_or x y)
  have HO2 : Hid (cmpI (kindT x) (kindT y) ≠ 0 → ordT x y = cmpI (kindT x) (kindT y)) := fun h => by unfold ordT; rw [if_pos h]
  generalize ordT x y = O at *
  generalize cmpD x.text y.text = d at *
  generalize Lib.compareBytes x.text y.text = c2 at *
  generalize cmpI (rankL x.text) (rankL y.text) = c1 at *
  generalize rankL x.text = rx at *
  generalize rankL y.text = ry at *
  generalize cmpI (kindT x) (kindT y) = ck at *
  generalize kindT x = kx at *
  generalize kindT y = ky at *
  have CC := hide CC
  have CI := hide CI
  by_cases hc : ck = 0
  · subst hc
    have HO := hide (HO.out rfl)
    clear HO2
    cases hn : x.num
    · have HX : Hid (O = orI [c1, c2]) := by show _ = _; rw [HO.out, hn]; rfl
      rw [hn] at KX S0
      clear HO
      go_enter Tryz.func117, Tryz.ntmps117
      go_wp2_with fail
      generalize (w.alloc (.cells #[.bool x.dash, .bool false, .string (ofL x.text)] 91)).alloc (.cells #[.bool y.dash, .bool y.num, .string (ofL y.text)] 91) = W0 at *
      have D0 := S0.drew
      obtain ⟨c0, c1', c2', c3, c4, c5⟩ := S0.seen
      go_region_held3 (fun w' => w'.cell? ⟨w.heap.size, 0, none⟩ = some (.bool x.dash) ∧ w'.cell? ⟨w.heap.size, 1, none⟩ = some (.bool false) ∧ w'.cell? ⟨w.heap.size, 2, none⟩ = some (.string (ofL x.text)) ∧ w'.cell? ⟨w.heap.size + 1, 0, none⟩ = some (.bool y.dash) ∧ w'.cell? ⟨w.heap.size + 1, 1, none⟩ = some (.bool y.num) ∧ w'.cell? ⟨w.heap.size + 1, 2, none⟩ = some (.string (ofL y.text)))
        (go_keep)
        ((first
          | (go_at_call 120; refine (CC.out _).mono ?_; rintro e w4 ⟨rfl, hw4⟩; rw [hw4]; clear hw4 w4)
          | (have hq := Q1; go_at_call 121; refine (KY.out _).mono ?_; rintro e w2 ⟨rfl, b2⟩; have Q2 := Q1.next b2; obtain ⟨h0, h1, h2, h3, h4, h5⟩ := Q2.seen)
          | (go_at_call 121; refine (KX.out _).mono ?_; rintro e w1 ⟨rfl, b1⟩; have Q1 := D0.next b1; obtain ⟨g0, g1, g2, g3, g4, g5⟩ := Q1.seen)
          | fail))
      go_wp2_with fail
      have D1 := Q2.drew
      have kD := D1.kn hk
      clear c0 c1' c2' c3 c4 c5
      go_region_held3 (fun w' => w'.cell? ⟨w.heap.size, 0, none⟩ = some (.bool x.dash) ∧ w'.cell? ⟨w.heap.size, 1, none⟩ = some (.bool false) ∧ w'.cell? ⟨w.heap.size, 2, none⟩ = some (.string (ofL x.text)) ∧ w'.cell? ⟨w.heap.size + 1, 0, none⟩ = some (.bool y.dash) ∧ w'.cell? ⟨w.heap.size + 1, 1, none⟩ = some (.bool y.num) ∧ w'.cell? ⟨w.heap.size + 1, 2, none⟩ = some (.string (ofL y.text)))
        (go_keep)
        ((first
          | (have hq := Q5; go_at_call 123; refine (Or_any _ [c1, c2] 2 rfl _ (by
              intro i hi
              match i, hi with
              | 0, _ => go_simp
              | 1, _ => go_simp) (by omega)).mono ?_; rintro e w4 ⟨rfl, hw4⟩; rw [hw4]; clear hw4 w4)
          | (go_at_call 116; refine (SC.out _).mono ?_; rintro e w4 ⟨rfl, hw4⟩; rw [hw4]; clear hw4 w4; have Q5 := D1)
          | (go_at_call 124; refine (CI.out _).mono ?_; rintro e w4 ⟨rfl, hw4⟩; rw [hw4]; clear hw4 w4)
          | (have hq := Q4; go_at_call 125; refine (RY.out _ kD).mono ?_; rintro e w4 ⟨rfl, hw4⟩; rw [hw4]; clear hw4 w4)
          | (go_at_call 125; refine (RX.out _ kD).mono ?_; rintro e w4 ⟨rfl, hw4⟩; rw [hw4]; clear hw4 w4; have Q4 := D1)
          | fail))
      go_wp2_with fail
      go_ret
      exact ⟨ret_i HX.out.symm, D1.bel.alloc D1.bel.size _⟩
    · have HX : Hid (O = d) := by show _ = _; rw [HO.out, hn]; rfl
      rw [hn] at KX S0
      clear HO
      go_enter Tryz.func117, Tryz.ntmps117
      go_wp2_with fail
      generalize (w.alloc (.cells #[.bool x.dash, .bool true, .string (ofL x.text)] 91)).alloc (.cells #[.bool y.dash, .bool y.num, .string (ofL y.text)] 91) = W0 at *
      have D0 := S0.drew
      obtain ⟨c0, c1', c2', c3, c4, c5⟩ := S0.seen
      go_region_held3 (fun w' => w'.cell? ⟨w.heap.size, 0, none⟩ = some (.bool x.dash) ∧ w'.cell? ⟨w.heap.size, 1, none⟩ = some (.bool true) ∧ w'.cell? ⟨w.heap.size, 2, none⟩ = some (.string (ofL x.text)) ∧ w'.cell? ⟨w.heap.size + 1, 0, none⟩ = some (.bool y.dash) ∧ w'.cell? ⟨w.heap.size + 1, 1, none⟩ = some (.bool y.num) ∧ w'.cell? ⟨w.heap.size + 1, 2, none⟩ = some (.string (ofL y.text)))
        (go_keep)
        ((first
          | (go_at_call 120; refine (CC.out _).mono ?_; rintro e w4 ⟨rfl, hw4⟩; rw [hw4]; clear hw4 w4)
          | (have hq := Q1; go_at_call 121; refine (KY.out _).mono ?_; rintro e w2 ⟨rfl, b2⟩; have Q2 := Q1.next b2; obtain ⟨h0, h1, h2, h3, h4, h5⟩ := Q2.seen)
          | (go_at_call 121; refine (KX.out _).mono ?_; rintro e w1 ⟨rfl, b1⟩; have Q1 := D0.next b1; obtain ⟨g0, g1, g2, g3, g4, g5⟩ := Q1.seen)
          | fail))
      go_wp2_with fail
      refine (CD.out _).mono ?_
      rintro e w5 ⟨rfl, hw5⟩
      rw [hw5]; clear hw5 w5
      go_wp2_with fail
      go_ret
      exact ⟨ret_i HX.out.symm, Q2.bel⟩
  · have HX := hide (HO2.out hc)
    have hcb : (ck != 0) = true := by simpa using hc
    clear HO HO2 hc
    go_enter Tryz.func117, Tryz.ntmps117
    go_wp2_with fail
    generalize (w.alloc (.cells #[.bool x.dash, .bool x.num, .string (ofL x.text)] 91)).alloc (.cells #[.bool y.dash, .bool y.num, .string (ofL y.text)] 91) = W0 at *
    have D0 := S0.drew
    obtain ⟨c0, c1', c2', c3, c4, c5⟩ := S0.seen
    go_region_held3 (fun w' => w'.cell? ⟨w.heap.size, 0, none⟩ = some (.bool x.dash) ∧ w'.cell? ⟨w.heap.size, 1, none⟩ = some (.bool x.num) ∧ w'.cell? ⟨w.heap.size, 2, none⟩ = some (.string (ofL x.text)) ∧ w'.cell? ⟨w.heap.size + 1, 0, none⟩ = some (.bool y.dash) ∧ w'.cell? ⟨w.heap.size + 1, 1, none⟩ = some (.bool y.num) ∧ w'.cell? ⟨w.heap.size + 1, 2, none⟩ = some (.string (ofL y.text)))
      (go_keep)
      ((first
        | (go_at_call 120; refine (CC.out _).mono ?_; rintro e w4 ⟨rfl, hw4⟩; rw [hw4]; clear hw4 w4)
        | (have hq := Q1; go_at_call 121; refine (KY.out _).mono ?_; rintro e w2 ⟨rfl, b2⟩; have Q2 := Q1.next b2; obtain ⟨h0, h1, h2, h3, h4, h5⟩ := Q2.seen)
        | (go_at_call 121; refine (KX.out _).mono ?_; rintro e w1 ⟨rfl, b1⟩; have Q1 := D0.next b1; obtain ⟨g0, g1, g2, g3, g4, g5⟩ := Q1.seen)
        | fail))
    go_wp2_with fail
    go_ret
    exact ⟨ret_i HX.out.symm, Q2.bel⟩

end Go.Proofs.YtpedljmpobhimaaGreatDoor
