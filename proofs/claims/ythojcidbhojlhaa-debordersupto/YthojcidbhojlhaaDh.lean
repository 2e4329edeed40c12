/-
  Walks: the order of versions.
-/
import Derived.Test.YthojcidbhojlhaaDg
namespace Go.Proofs.Ythojcidbhojlhaa
open Go.RowKit Go.Shelf
set_option linter.unusedVariables false

/-- The first that is not nought. -/
def orI : List Int → Int
  | [] => 0
  | x :: r => if x = 0 then orI r else x
theorem orI_drop (xs : List Int) (k : Nat) (h : k < xs.length) : orI (xs.drop k) = if xs[k] = 0 then orI (xs.drop (k + 1)) else xs[k] := by
  rw [List.drop_eq_getElem_cons h]
  rfl
theorem orI_end (xs : List Int) (k : Nat) (h : xs.length ≤ k) : orI (xs.drop k) = 0 := by
  rw [List.drop_eq_nil_of_le h]
  rfl

set_option maxHeartbeats 400000 in
theorem Or_any (B : Nat) (xs : List Int) (n : Nat) (hn : xs.length = n) (w : World) (h : ∀ i (h : i < xs.length), w.cell? ⟨B, i, none⟩ = some (.int .i64 xs[i])) (hl : n ≤ 64) :
    Calls Try.prog 60 #[.slice (some ⟨B, 0, none⟩) n n] w fun e w' => e = .returned (.int .i64 (orI xs)) ∧ w' = w := by
  have HC := hide h
  have HN := hide hn
  clear h hn
  go_enter Try.func60, Try.ntmps60
  go_wp2_with fail
  go_loop [8] (fun i => ∃ k : Nat, k ≤ n ∧ i = .int .i64 k ∧ Hid (orI xs = orI (xs.drop k))) (fun i => n - (intOf i).toNat)
  case atStart => exact ⟨0, by omega, rfl, rfl⟩
  case round =>
    obtain ⟨k, hk, rfl, HR⟩ := hrel
    by_cases h1 : k < n
    · have hd1 : decide ((k : Int) < (n : Int)) = true := by simp; omega
      have hk' : k < xs.length := by rw [HN.out]; exact h1
      have p1 := HC.out k hk'
      have hX := orI_drop xs k hk'
      generalize xs[k] = O at *
      by_cases h0 : O = 0
      · subst h0
        rw [if_pos rfl] at hX
        have HX := hide hX
        clear hX hk'
        go_wp2_with fail
        go_round
        case rel => exact ⟨k + 1, by omega, by go_num, by show _ = _; rw [HR.out, HX.out]⟩
        case measure => simp [intOf]; omega
      · rw [if_neg h0] at hX
        have hb0 : (O != 0) = true := by simpa using h0
        have HX := hide hX
        clear hX h0 hk'
        go_wp2_with fail
        go_ret
        exact ⟨ret_i (by rw [HR.out, HX.out]), rfl⟩
    · have hd1 : decide ((k : Int) < (n : Int)) = false := by simp; omega
      have hd3 : ¬ ((k : Int) < (n : Int)) := by omega
      have HX := hide (orI_end xs k (by rw [HN.out]; omega))
      go_wp2_with fail
      go_ret
      exact ⟨ret_i (by rw [HR.out, HX.out]), rfl⟩


/-- Short enough. -/
def ShV (v : DebL) : Prop := v.ep.length ≤ 9223372036854775000 ∧ v.up.length ≤ 9223372036854775000 ∧ v.rev.length ≤ 9223372036854775000

/-- Two versions in their boxes. -/
structure OB (w W : World) (x y : DebL) : Prop where
  bel : Below w.heap.size w W
  ea : W.heap[w.heap.size]? = some (.cells #[.string (ofL x.ep), .string (ofL x.up), .string (ofL x.rev)] 23 (0, 0))
  eb : W.heap[w.heap.size + 1]? = some (.cells #[.string (ofL y.ep), .string (ofL y.up), .string (ofL y.rev)] 23 (0, 0))
theorem OB.start (w : World) (x y : DebL) : OB w ((w.alloc (.cells #[.string (ofL x.ep), .string (ofL x.up), .string (ofL x.rev)] 23)).alloc (.cells #[.string (ofL y.ep), .string (ofL y.up), .string (ofL y.rev)] 23)) x y := by
  refine ⟨((Below.refl _ w).alloc (Nat.le_refl _) _).alloc (by simp) _, ?_, ?_⟩
  · rw [Below.heap_alloc _ _ _ (by simp)]
    exact World.alloc_heap_new w _
  · have := World.alloc_heap_new (w.alloc (.cells #[.string (ofL x.ep), .string (ofL x.up), .string (ofL x.rev)] 23)) (.cells #[.string (ofL y.ep), .string (ofL y.up), .string (ofL y.rev)] 23)
    rwa [World.size_alloc] at this
theorem OB.drew {w W : World} {x y : DebL} (h : OB w W x y) : OB w W.drew x y := ⟨h.bel.drew, h.ea, h.eb⟩
theorem OB.next {w W W' : World} {x y : DebL} (h : OB w W x y) (hb : Below W.heap.size W W') : OB w W' x y := by
  have l1 := (Array.getElem?_eq_some_iff.1 h.ea).1
  have l2 := (Array.getElem?_eq_some_iff.1 h.eb).1
  exact ⟨h.bel.trans (hb.mono h.bel.size), (hb.block _ l1).trans h.ea, (hb.block _ l2).trans h.eb⟩
theorem OB.seen {w W : World} {x y : DebL} (h : OB w W x y) : W.cell? ⟨w.heap.size, 0, none⟩ = some (.string (ofL x.ep)) ∧ W.cell? ⟨w.heap.size, 1, none⟩ = some (.string (ofL x.up)) ∧ W.cell? ⟨w.heap.size, 2, none⟩ = some (.string (ofL x.rev)) ∧
    W.cell? ⟨w.heap.size + 1, 0, none⟩ = some (.string (ofL y.ep)) ∧ W.cell? ⟨w.heap.size + 1, 1, none⟩ = some (.string (ofL y.up)) ∧ W.cell? ⟨w.heap.size + 1, 2, none⟩ = some (.string (ofL y.rev)) :=
  ⟨cell_at 0 h.ea rfl, cell_at 1 h.ea rfl, cell_at 2 h.ea rfl, cell_at 0 h.eb rfl, cell_at 1 h.eb rfl, cell_at 2 h.eb rfl⟩

theorem or3_orI (a b c : Int) : or3 a b c = orI [a, b, c] := by
  by_cases h1 : a = 0 <;> by_cases h2 : b = 0 <;> by_cases h3 : c = 0 <;> simp [or3, orI, h1, h2, h3]

set_option maxRecDepth 100000 in
set_option maxHeartbeats 2000000 in
theorem order_any (x y : DebL) (w : World) (hx : ShV x) (hy : ShV y) :
    Calls Try.prog 46 #[verV x, verV y] w fun e w' => e = .returned (.int .i64 (ordO x y)) ∧ Below w.heap.size w w' := by
  unfold verV
  have C1 := fun w => Cmp_any (ofL x.ep) (ofL y.ep) w (by rw [ofL_size]; have := hx.1; omega) (by rw [ofL_size]; have := hy.1; omega)
  have C2 := fun w => Part_any (ofL x.up) (ofL y.up) w (by rw [ofL_size]; exact hx.2.1) (by rw [ofL_size]; exact hy.2.1)
  have C3 := fun w => Part_any (ofL x.rev) (ofL y.rev) w (by rw [ofL_size]; exact hx.2.2) (by rw [ofL_size]; exact hy.2.2)
  rw [ofL_data, ofL_data] at C1 C2 C3
  have HO : Hid (ordO x y = orI [cmpD x.ep y.ep, partO x.up y.up, partO x.rev y.rev]) := or3_orI _ _ _
  have C1 := hide C1
  have C2 := hide C2
  have C3 := hide C3
  generalize ordO x y = O at *
  generalize cmpD x.ep y.ep = o1 at *
  generalize partO x.up y.up = o2 at *
  generalize partO x.rev y.rev = o3 at *
  have S0 := OB.start w x y
  clear hx hy
  go_enter Try.func46, Try.ntmps46
  go_wp2_with fail
  generalize (w.alloc (.cells #[.string (ofL x.ep), .string (ofL x.up), .string (ofL x.rev)] 23)).alloc (.cells #[.string (ofL y.ep), .string (ofL y.up), .string (ofL y.rev)] 23) = W0 at *
  have D0 := S0.drew
  obtain ⟨c0, c1, c2, c3, c4, c5⟩ := S0.seen
  go_region_held3 (fun w' => w'.cell? ⟨w.heap.size, 0, none⟩ = some (.string (ofL x.ep)) ∧ w'.cell? ⟨w.heap.size, 1, none⟩ = some (.string (ofL x.up)) ∧ w'.cell? ⟨w.heap.size, 2, none⟩ = some (.string (ofL x.rev)) ∧ w'.cell? ⟨w.heap.size + 1, 0, none⟩ = some (.string (ofL y.ep)) ∧ w'.cell? ⟨w.heap.size + 1, 1, none⟩ = some (.string (ofL y.up)) ∧ w'.cell? ⟨w.heap.size + 1, 2, none⟩ = some (.string (ofL y.rev)))
    (go_keep)
    ((first
      | (have hq := Q2; go_at_call 60; refine (Or_any _ [o1, o2, o3] 3 rfl _ (by
          intro i hi
          match i, hi with
          | 0, _ => go_simp
          | 1, _ => go_simp
          | 2, _ => go_simp) (by omega)).mono ?_; rintro e w4 ⟨rfl, hw4⟩; rw [hw4]; clear hw4 w4)
      | (have hq := Q1; go_at_call 16; refine (C3.out _).mono ?_; rintro e w3 ⟨rfl, b3⟩; have Q2 := Q1.next b3; obtain ⟨h0, h1, h2, h3, h4, h5⟩ := Q2.seen)
      | (have hq := Q0; go_at_call 16; refine (C2.out _).mono ?_; rintro e w2 ⟨rfl, b2⟩; have Q1 := Q0.next b2; obtain ⟨g0, g1, g2, g3, g4, g5⟩ := Q1.seen)
      | (go_at_call 43; refine (C1.out _).mono ?_; rintro e w1 ⟨rfl, hw1⟩; rw [hw1]; clear hw1 w1; have Q0 := D0; obtain ⟨f0, f1, f2, f3, f4, f5⟩ := Q0.seen)
      | fail))
  go_wp2_with fail
  go_ret
  exact ⟨ret_i HO.out.symm, Q2.bel.alloc Q2.bel.size _⟩

end Go.Proofs.Ythojcidbhojlhaa
