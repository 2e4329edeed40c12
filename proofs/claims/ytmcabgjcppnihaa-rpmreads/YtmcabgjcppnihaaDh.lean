/-
  Walks: the order of releases, of versions.
-/
import Derived.Test.YtmcabgjcppnihaaDg
import Derived.Test.YtmcabgjcppnihaaDd
namespace Go.Proofs.Ytmcabgjcppnihaa
open Go.RowKit Go.Shelf
set_option linter.unusedVariables false

/-- The first that is not nought. -/
def orI : List Int → Int
  | [] => 0
  | x :: r => if x = 0 then orI r else x
theorem orI_drop (xs : List Int) (k : Nat) (h : k < xs.length) : orI (xs.drop k) = if xs[k] = 0 then orI (xs.drop (k + 1)) else xs[k] := by
  rw [List.drop_eq_getElem_cons h]
  rfl
theorem orI_end (xs : List Int) (k : Nat) (h : xs.length ≤ k) : orI (xs.drop k) = 0 := by
  rw [List.drop_eq_nil_of_le h]
  rfl

set_option maxHeartbeats 400000 in
theorem Or_any (B : Nat) (xs : List Int) (n : Nat) (hn : xs.length = n) (w : World) (h : ∀ i (h : i < xs.length), w.cell? ⟨B, i, none⟩ = some (.int .i64 xs[i])) (hl : n ≤ 64) :
    Calls Try.prog 55 #[.slice (some ⟨B, 0, none⟩) n n] w fun e w' => e = .returned (.int .i64 (orI xs)) ∧ w' = w := by
  have HC := hide h
  have HN := hide hn
  clear h hn
  go_enter Try.func55, Try.ntmps55
  go_wp2_with fail
  go_loop [8] (fun i => ∃ k : Nat, k ≤ n ∧ i = .int .i64 k ∧ Hid (orI xs = orI (xs.drop k))) (fun i => n - (intOf i).toNat)
  case atStart => exact ⟨0, by omega, rfl, rfl⟩
  case round =>
    obtain ⟨k, hk, rfl, HR⟩ := hrel
    by_cases h1 : k < n
    · have hd1 : decide ((k : Int) < (n : Int)) = true := by simp; omega
      have hk' : k < xs.length := by rw [HN.out]; exact h1
      have p1 := HC.out k hk'
      have hX := orI_drop xs k hk'
      generalize xs[k] = O at *
      by_cases h0 : O = 0
      · subst h0
        rw [if_pos rfl] at hX
        have HX := hide hX
        clear hX hk'
        go_wp2_with fail
        go_round
        case rel => exact ⟨k + 1, by omega, by go_num, by show _ = _; rw [HR.out, HX.out]⟩
        case measure => simp [intOf]; omega
      · rw [if_neg h0] at hX
        have hb0 : (O != 0) = true := by simpa using h0
        have HX := hide hX
        clear hX h0 hk'
        go_wp2_with fail
        go_ret
        exact ⟨ret_i (by rw [HR.out, HX.out]), rfl⟩
    · have hd1 : decide ((k : Int) < (n : Int)) = false := by simp; omega
      have hd3 : ¬ ((k : Int) < (n : Int)) := by omega
      have HX := hide (orI_end xs k (by rw [HN.out]; omega))
      go_wp2_with fail
      go_ret
      exact ⟨ret_i (by rw [HR.out, HX.out]), rfl⟩


/-- Short enough. -/
def ShV (v : RpmL) : Prop := v.ep.length ≤ 9223372036854775000 ∧ v.ver.length ≤ 9223372036854775000 ∧ v.rel.length ≤ 9223372036854775000

/-- Two versions in their boxes. -/
structure OB (w W : World) (x y : RpmL) : Prop where
  bel : Below w.heap.size w W
  ea : W.heap[w.heap.size]? = some (.cells #[.string (ofL x.ep), .string (ofL x.ver), .string (ofL x.rel), .bool x.has] 23 (0, 0))
  eb : W.heap[w.heap.size + 1]? = some (.cells #[.string (ofL y.ep), .string (ofL y.ver), .string (ofL y.rel), .bool y.has] 23 (0, 0))
theorem OB.start (w : World) (x y : RpmL) : OB w ((w.alloc (.cells #[.string (ofL x.ep), .string (ofL x.ver), .string (ofL x.rel), .bool x.has] 23)).alloc (.cells #[.string (ofL y.ep), .string (ofL y.ver), .string (ofL y.rel), .bool y.has] 23)) x y := by
  refine ⟨((Below.refl _ w).alloc (Nat.le_refl _) _).alloc (by simp) _, ?_, ?_⟩
  · rw [Below.heap_alloc _ _ _ (by simp)]
    exact World.alloc_heap_new w _
  · have := World.alloc_heap_new (w.alloc (.cells #[.string (ofL x.ep), .string (ofL x.ver), .string (ofL x.rel), .bool x.has] 23)) (.cells #[.string (ofL y.ep), .string (ofL y.ver), .string (ofL y.rel), .bool y.has] 23)
    rwa [World.size_alloc] at this
theorem OB.drew {w W : World} {x y : RpmL} (h : OB w W x y) : OB w W.drew x y := ⟨h.bel.drew, h.ea, h.eb⟩
theorem OB.next {w W W' : World} {x y : RpmL} (h : OB w W x y) (hb : Below W.heap.size W W') : OB w W' x y := by
  have l1 := (Array.getElem?_eq_some_iff.1 h.ea).1
  have l2 := (Array.getElem?_eq_some_iff.1 h.eb).1
  exact ⟨h.bel.trans (hb.mono h.bel.size), (hb.block _ l1).trans h.ea, (hb.block _ l2).trans h.eb⟩
theorem OB.seen {w W : World} {x y : RpmL} (h : OB w W x y) : W.cell? ⟨w.heap.size, 0, none⟩ = some (.string (ofL x.ep)) ∧ W.cell? ⟨w.heap.size, 1, none⟩ = some (.string (ofL x.ver)) ∧ W.cell? ⟨w.heap.size, 2, none⟩ = some (.string (ofL x.rel)) ∧ W.cell? ⟨w.heap.size, 3, none⟩ = some (.bool x.has) ∧
    W.cell? ⟨w.heap.size + 1, 0, none⟩ = some (.string (ofL y.ep)) ∧ W.cell? ⟨w.heap.size + 1, 1, none⟩ = some (.string (ofL y.ver)) ∧ W.cell? ⟨w.heap.size + 1, 2, none⟩ = some (.string (ofL y.rel)) ∧ W.cell? ⟨w.heap.size + 1, 3, none⟩ = some (.bool y.has) :=
  ⟨cell_at 0 h.ea rfl, cell_at 1 h.ea rfl, cell_at 2 h.ea rfl, cell_at 3 h.ea rfl, cell_at 0 h.eb rfl, cell_at 1 h.eb rfl, cell_at 2 h.eb rfl, cell_at 3 h.eb rfl⟩

theorem or3_orI (a b c : Int) : or3 a b c = orI [a, b, c] := by
  by_cases h1 : a = 0 <;> by_cases h2 : b = 0 <;> by_cases h3 : c = 0 <;> simp [or3, orI, h1, h2, h3]

set_option maxRecDepth 100000 in
set_option maxHeartbeats 2000000 in
theorem releases_any (x y : RpmL) (w : World) (hx : ShV x) (hy : ShV y) :
    Calls Try.prog 56 #[verV x, verV y] w fun e w' => e = .returned (.int .i64 (relO x y)) ∧ Below w.heap.size w w' := by
  unfold verV
  have C3 := fun w => Segments_any (ofL x.rel) (ofL y.rel) w (by rw [ofL_size]; exact hx.2.2) (by rw [ofL_size]; exact hy.2.2)
  rw [ofL_data, ofL_data] at C3
  have HO : relO x y = if x.has = y.has then partO x.rel y.rel else if x.has then 1 else -1 := rfl
  have C3 := hide C3
  generalize relO x y = O at *
  generalize partO x.rel y.rel = o3 at *
  clear hx hy
  have b0 := ((Below.refl _ w).alloc (Nat.le_refl _) (.cells #[.string (ofL x.ep), .string (ofL x.ver), .string (ofL x.rel), .bool x.has] 23)).alloc (by simp) (.cells #[.string (ofL y.ep), .string (ofL y.ver), .string (ofL y.rel), .bool y.has] 23)
  cases hh : x.has <;> cases hk : y.has
  all_goals rw [hh, hk] at HO b0
  · rw [if_pos rfl] at HO
    subst HO
    go_enter Try.func56, Try.ntmps56
    go_wp2_with fail
    refine (C3.out _).mono ?_
    rintro e w1 ⟨rfl, b1⟩
    go_wp2_with fail
    go_ret
    exact ⟨rfl, b0.trans (b1.mono b0.size)⟩
  · rw [if_neg (by simp), if_neg (by simp)] at HO
    subst HO
    go_enter Try.func56, Try.ntmps56
    go_wp2_with fail
    go_ret
    exact ⟨rfl, b0⟩
  · rw [if_neg (by simp), if_pos rfl] at HO
    subst HO
    go_enter Try.func56, Try.ntmps56
    go_wp2_with fail
    go_ret
    exact ⟨rfl, b0⟩
  · rw [if_pos rfl] at HO
    subst HO
    go_enter Try.func56, Try.ntmps56
    go_wp2_with fail
    refine (C3.out _).mono ?_
    rintro e w1 ⟨rfl, b1⟩
    go_wp2_with fail
    go_ret
    exact ⟨rfl, b0.trans (b1.mono b0.size)⟩

set_option maxRecDepth 100000 in
set_option maxHeartbeats 2000000 in
theorem order_any (x y : RpmL) (w : World) (hx : ShV x) (hy : ShV y) :
    Calls Try.prog 38 #[verV x, verV y] w fun e w' => e = .returned (.int .i64 (ordO x y)) ∧ Below w.heap.size w w' := by
  have C3 := fun w => releases_any x y w hx hy
  unfold verV at C3 ⊢
  have C1 := fun w => Cmp_any (ofL x.ep) (ofL y.ep) w (by rw [ofL_size]; have := hx.1; omega) (by rw [ofL_size]; have := hy.1; omega)
  have C2 := fun w => Segments_any (ofL x.ver) (ofL y.ver) w (by rw [ofL_size]; exact hx.2.1) (by rw [ofL_size]; exact hy.2.1)
  rw [ofL_data, ofL_data] at C1 C2
  have HO : Hid (ordO x y = orI [cmpD x.ep y.ep, partO x.ver y.ver, relO x y]) := or3_orI _ _ _
  have C1 := hide C1
  have C2 := hide C2
  have C3 := hide C3
  generalize ordO x y = O at *
  generalize cmpD x.ep y.ep = o1 at *
  generalize partO x.ver y.ver = o2 at *
  generalize relO x y = o3 at *
  have S0 := OB.start w x y
  clear hx hy
  go_enter Try.func38, Try.ntmps38
  go_wp2_with fail
  generalize (w.alloc (.cells #[.string (ofL x.ep), .string (ofL x.ver), .string (ofL x.rel), .bool x.has] 23)).alloc (.cells #[.string (ofL y.ep), .string (ofL y.ver), .string (ofL y.rel), .bool y.has] 23) = W0 at *
  have D0 := S0.drew
  obtain ⟨c0, c1, c2, c3, c4, c5, c6, c7⟩ := S0.seen
  go_region_held3 (fun w' => w'.cell? ⟨w.heap.size, 0, none⟩ = some (.string (ofL x.ep)) ∧ w'.cell? ⟨w.heap.size, 1, none⟩ = some (.string (ofL x.ver)) ∧ w'.cell? ⟨w.heap.size, 2, none⟩ = some (.string (ofL x.rel)) ∧ w'.cell? ⟨w.heap.size, 3, none⟩ = some (.bool x.has) ∧ w'.cell? ⟨w.heap.size + 1, 0, none⟩ = some (.string (ofL y.ep)) ∧ w'.cell? ⟨w.heap.size + 1, 1, none⟩ = some (.string (ofL y.ver)) ∧ w'.cell? ⟨w.heap.size + 1, 2, none⟩ = some (.string (ofL y.rel)) ∧ w'.cell? ⟨w.heap.size + 1, 3, none⟩ = some (.bool y.has))
    (go_keep)
    ((first
      | (have hq := Q2; go_at_call 55; refine (Or_any _ [o1, o2, o3] 3 rfl _ (by
          intro i hi
          match i, hi with
          | 0, _ => go_simp
          | 1, _ => go_simp
          | 2, _ => go_simp) (by omega)).mono ?_; rintro e w4 ⟨rfl, hw4⟩; rw [hw4]; clear hw4 w4)
      | (have hq := Q1; go_at_call 56; refine (C3.out _).mono ?_; rintro e w3 ⟨rfl, b3⟩; have Q2 := Q1.next b3; obtain ⟨h0, h1, h2, h3, h4, h5, h6, h7⟩ := Q2.seen)
      | (have hq := Q0; go_at_call 10; refine (C2.out _).mono ?_; rintro e w2 ⟨rfl, b2⟩; have Q1 := Q0.next b2; obtain ⟨g0, g1, g2, g3, g4, g5, g6, g7⟩ := Q1.seen)
      | (go_at_call 30; refine (C1.out _).mono ?_; rintro e w1 ⟨rfl, hw1⟩; rw [hw1]; clear hw1 w1; have Q0 := D0; obtain ⟨f0, f1, f2, f3, f4, f5, f6, f7⟩ := Q0.seen)
      | fail))
  go_wp2_with fail
  go_ret
  exact ⟨ret_i HO.out.symm, Q2.bel.alloc Q2.bel.size _⟩

end Go.Proofs.Ytmcabgjcppnihaa
