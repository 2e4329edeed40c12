/-
  Walks: a version, or none, with blanks around; a comma between two ranges.
-/
import Derived.Test.YtpedljmpobhimaaGreatDoorHd
import Derived.OwnWalk
import Derived.BigQuiet
namespace Go.Proofs.YtpedljmpobhimaaGreatDoor
open Go.RowKit Go.Shelf
set_option linter.unusedVariables false

theorem ver_text (s : ByteArray) (a b : Nat) (hb : b = a + blN (s.data.toList.drop a)) : s.extract b (b + veN (s.data.toList.drop b)) = ofL (verAt (s.data.toList.drop a)) := by
  subst hb
  rw [extract_ofL]
  congr 1
  unfold verAt
  rw [List.drop_drop, List.drop_take, Nat.add_sub_cancel_left]
theorem verAt_len (r : List UInt8) : (verAt r).length = veN (r.drop (blN r)) := by
  unfold verAt
  rw [List.length_take, Nat.min_eq_left (ve_le _)]
theorem ofL_nil : ofL [] = ⟨#[]⟩ := rfl

set_option maxRecDepth 100000 in
set_option maxHeartbeats 2000000 in
theorem readVersion_any (s : ByteArray) (a : Nat) (w : World) (hs : s.size ≤ 256) (ha : a ≤ s.size) (hk : Kn w) :
    Calls Tryz.prog 48 #[.string s, .int .i64 (a : Int)] w fun e w' => e = .returned (.tuple #[.string (ofL (rvR (s.data.toList.drop a)).v), .int .i64 ((a + (rvR (s.data.toList.drop a)).k : Nat) : Int), .int .i64 (rvR (s.data.toList.drop a)).err]) ∧ Below w.heap.size w w' := by
  have R1 := hide (Run6 s a hs ha)
  have hb := bl_le s a ha
  have VE := hide (fun W => versionEnd_any s (a + blN (s.data.toList.drop a)) W hs hb)
  have hX : rvR (s.data.toList.drop a) = if verAt (s.data.toList.drop a) ≠ [] ∧ isVer (verAt (s.data.toList.drop a)) = false then ⟨19, [], blN (s.data.toList.drop a)⟩
    else ⟨0, verAt (s.data.toList.drop a), blN (s.data.toList.drop a) + (verAt (s.data.toList.drop a)).length + blN (s.data.toList.drop (a + (blN (s.data.toList.drop a) + (verAt (s.data.toList.drop a)).length)))⟩ := by
    unfold rvR; rw [List.drop_drop]
  have hT := ver_text s a _ rfl
  have hL := verAt_len (s.data.toList.drop a)
  rw [List.drop_drop] at hL
  have hle := ve_le (s.data.toList.drop (a + blN (s.data.toList.drop a)))
  rw [← hL] at hT hle VE
  rw [List.length_drop, len_data] at hle
  have IV := hide (fun W (hW : Kn W) => (by have := isVersion_any (ofL (verAt (s.data.toList.drop a))) W hW; rw [ofL_data] at this; exact this : Calls Tryz.prog 34 #[.string (ofL (verAt (s.data.toList.drop a)))] W fun e w' => e = .returned (.bool (isVer (verAt (s.data.toList.drop a)))) ∧ Below W.heap.size W w'))
  generalize rvR (s.data.toList.drop a) = X at *
  generalize verAt (s.data.toList.drop a) = V at *
  obtain ⟨b, hbe⟩ : ∃ b, b = a + blN (s.data.toList.drop a) := ⟨_, rfl⟩
  have hke : blN (s.data.toList.drop a) = b - a := by omega
  rw [hke] at hX
  rw [← hbe] at R1 VE hT hle hb
  have hab : a + (b - a + V.length) = b + V.length := by omega
  rw [hab] at hX
  have R2 := hide (Run6 s (b + V.length) hs (by omega))
  have HX := hide hX
  have HAB : Hid (a ≤ b) := by show _ ≤ _; omega
  clear hX hbe hke hL hab
  obtain ⟨e, hee⟩ : ∃ e, e = b + V.length := ⟨_, rfl⟩
  have hbe : b ≤ e := by omega
  have hes : e ≤ s.size := by omega
  have HEE := hide hee
  rw [← hee] at R2 VE hT HX
  have hvs := ofL_size V
  have HT := hide hT
  clear hT hee hle ha hb
  rw [← HT.out] at IV
  obtain ⟨q, hq⟩ : ∃ q, q = e + blN (s.data.toList.drop e) := ⟨_, rfl⟩
  have HQ := hide hq
  rw [← hq] at R2
  clear hq
  by_cases h0 : V = []
  · subst h0
    have hz : ((s.extract b e).toList == []) = true := by rw [HT.out, toL, ofL_data]; rfl
    rw [if_neg (by simp)] at HX
    have hx : X = ⟨0, [], q - a⟩ := by rw [HX.out, show b - a + ([] : List UInt8).length + blN (s.data.toList.drop e) = q - a by have := HEE.out; have := HAB.out; have := HQ.out; simp at *; omega]
    subst hx
    clear HX IV
    have haq : a + (q - a) = q := by have := HEE.out; have := HAB.out; have := HQ.out; omega
    dsimp only
    rw [haq]
    clear haq
    have hsz : (s.extract b e).size = 0 := by rw [HT.out, ofL_size]; rfl
    go_enter Tryz.func48, Tryz.ntmps48
    go_wp2_with fail
    refine (R1.out _ rfl _).mono ?_
    rintro e1 w1 ⟨rfl, hw1⟩
    rw [hw1]
    clear hw1 w1
    go_wp2_with fail
    refine (VE.out _).mono ?_
    rintro e1 w1 ⟨rfl, hw1⟩
    rw [hw1]
    clear hw1 w1
    go_wp2_with fail
    refine (R2.out _ (by have := HEE.out; simp at this; omega) _).mono ?_
    rintro e1 w1 ⟨rfl, hw1⟩
    rw [hw1]
    clear hw1 w1
    go_wp2_with fail
    go_ret3
    exact ⟨by rw [HT.out]; rfl, Below.refl _ _⟩
  · have hz : ((s.extract b e).toList == []) = false := by rw [HT.out, toL, ofL_data]; simpa using h0
    have hsz : (s.extract b e).size = V.length := by rw [HT.out, ofL_size]
    cases hv : isVer V with
    | true =>
      rw [hv, if_neg (by simp)] at HX
      rw [hv] at IV
      have hx : X = ⟨0, V, q - a⟩ := by rw [HX.out, show b - a + V.length + blN (s.data.toList.drop e) = q - a by have := HEE.out; have := HAB.out; have := HQ.out; omega]
      subst hx
      clear HX hv h0
      have haq : a + (q - a) = q := by have := HEE.out; have := HAB.out; have := HQ.out; omega
      dsimp only
      rw [haq]
      clear haq
      generalize V.length = L at *
      go_enter Tryz.func48, Tryz.ntmps48
      go_wp2_with fail
      refine (R1.out _ rfl _).mono ?_
      rintro e1 w1 ⟨rfl, hw1⟩
      rw [hw1]
      clear hw1 w1
      go_wp2_with fail
      refine (VE.out _).mono ?_
      rintro e1 w1 ⟨rfl, hw1⟩
      rw [hw1]
      clear hw1 w1
      go_wp2_with fail
      refine (IV.out _ hk).mono ?_
      rintro e1 w1 ⟨rfl, b1⟩
      go_wp2_with fail
      refine (R2.out _ (by have := HEE.out; unfold wrap64; omega) _).mono ?_
      rintro e1 w2 ⟨rfl, hw2⟩
      rw [hw2]
      clear hw2 w2
      go_wp2_with fail
      go_ret3
      exact ⟨by rw [HT.out]; rfl, b1⟩
    | false =>
      rw [hv, if_pos ⟨h0, rfl⟩] at HX
      rw [hv] at IV
      have hx : X = ⟨19, [], b - a⟩ := HX.out
      subst hx
      clear HX hv h0
      have haq : a + (b - a) = b := by have := HAB.out; omega
      dsimp only
      rw [haq]
      clear haq
      generalize V.length = L at *
      go_enter Tryz.func48, Tryz.ntmps48
      go_wp2_with fail
      refine (R1.out _ rfl _).mono ?_
      rintro e1 w1 ⟨rfl, hw1⟩
      rw [hw1]
      clear hw1 w1
      go_wp2_with fail
      refine (VE.out _).mono ?_
      rintro e1 w1 ⟨rfl, hw1⟩
      rw [hw1]
      clear hw1 w1
      go_wp2_with fail
      refine (IV.out _ hk).mono ?_
      rintro e1 w1 ⟨rfl, b1⟩
      go_wp2_with fail
      go_ret3
      exact ⟨rfl, b1⟩

/-- What stands between two ranges. -/
theorem readComma_any (s : ByteArray) (a : Nat) (w : World) (hs : s.size ≤ 256) (ha : a ≤ s.size) :
    Calls Tryz.prog 72 #[.string s, .int .i64 (a : Int)] w fun e w' => e = .returned (.tuple #[.int .i64 ((a + (coR (s.data.toList.drop a)).2 : Nat) : Int), .int .i64 (coR (s.data.toList.drop a)).1]) ∧ w' = w := by
  have I1 := fun W => isAt_any s ⟨#[44]⟩ a W
  change ∀ W, Calls Tryz.prog 22 #[.string s, .int .i64 (a : Int), .string ⟨#[44]⟩] W fun e w' => e = .returned (.bool (hdIn [44] (s.data.toList.drop a))) ∧ w' = W at I1
  have I1 := hide I1
  have hX : coR (s.data.toList.drop a) = if hdIn [44] (s.data.toList.drop a) = false then (10, 0)
    else if hdIn [91, 40] (s.data.toList.drop (a + (1 + blN (s.data.toList.drop (a + 1))))) = false then (misR (s.data.toList.drop (a + (1 + blN (s.data.toList.drop (a + 1))))), 1 + blN (s.data.toList.drop (a + 1)))
    else (0, 1 + blN (s.data.toList.drop (a + 1))) := by unfold coR; rw [List.drop_drop, List.drop_drop]
  have hlt : hdIn [44] (s.data.toList.drop a) = true → a < s.size := fun h => by have := hdIn_lt h; rwa [len_data] at this
  generalize coR (s.data.toList.drop a) = X at *
  generalize hdIn [44] (s.data.toList.drop a) = H1 at *
  cases H1 with
  | false =>
    rw [if_pos rfl] at hX
    subst hX
    clear hlt
    dsimp only
    rw [Nat.add_zero]
    go_enter Tryz.func72, Tryz.ntmps72
    go_wp2_with fail
    refine (I1.out _).mono ?_
    rintro e w1 ⟨rfl, hw1⟩
    rw [hw1]
    clear hw1 w1
    go_wp2_with fail
    go_ret2
    exact ⟨rfl, rfl⟩
  | true =>
    rw [if_neg (by simp)] at hX
    have hla := hlt rfl
    clear hlt
    have R1 := hide (Run6 s (a + 1) hs hla)
    have hle := bl_le s (a + 1) hla
    obtain ⟨b, hb⟩ : ∃ b, b = a + 1 + blN (s.data.toList.drop (a + 1)) := ⟨_, rfl⟩
    have e1 : a + (1 + blN (s.data.toList.drop (a + 1))) = b := by omega
    have e2 : 1 + blN (s.data.toList.drop (a + 1)) = b - a := by omega
    have HE2 : Hid (a + (b - a) = b) := by show _ = _; omega
    rw [e1, e2] at hX
    rw [← hb] at R1 hle
    clear e1 e2 hb
    have I2 := fun W => isAt_any s ⟨#[91, 40]⟩ b W
    change ∀ W, Calls Tryz.prog 22 #[.string s, .int .i64 (b : Int), .string ⟨#[91, 40]⟩] W fun e w' => e = .returned (.bool (hdIn [91, 40] (s.data.toList.drop b))) ∧ w' = W at I2
    have I2 := hide I2
    have M := hide (fun W => Misfit_any s b W hle)
    generalize misR (s.data.toList.drop b) = mi at *
    generalize hdIn [91, 40] (s.data.toList.drop b) = H2 at *
    cases H2 with
    | false =>
      rw [if_pos rfl] at hX
      subst hX
      dsimp only
      rw [HE2.out]
      go_enter Tryz.func72, Tryz.ntmps72
      go_wp2_with fail
      refine (I1.out _).mono ?_
      rintro e w1 ⟨rfl, hw1⟩
      rw [hw1]
      clear hw1 w1
      go_wp2_with fail
      refine (R1.out _ (by omega) _).mono ?_
      rintro e w1 ⟨rfl, hw1⟩
      rw [hw1]
      clear hw1 w1
      go_wp2_with fail
      refine (I2.out _).mono ?_
      rintro e w1 ⟨rfl, hw1⟩
      rw [hw1]
      clear hw1 w1
      go_wp2_with fail
      refine (M.out _).mono ?_
      rintro e w1 ⟨rfl, hw1⟩
      rw [hw1]
      clear hw1 w1
      go_wp2_with fail
      go_ret2
      exact ⟨rfl, rfl⟩
    | true =>
      rw [if_neg (by simp)] at hX
      subst hX
      dsimp only
      rw [HE2.out]
      go_enter Tryz.func72, Tryz.ntmps72
      go_wp2_with fail
      refine (I1.out _).mono ?_
      rintro e w1 ⟨rfl, hw1⟩
      rw [hw1]
      clear hw1 w1
      go_wp2_with fail
      refine (R1.out _ (by omega) _).mono ?_
      rintro e w1 ⟨rfl, hw1⟩
      rw [hw1]
      clear hw1 w1
      go_wp2_with fail
      refine (I2.out _).mono ?_
      rintro e w1 ⟨rfl, hw1⟩
      rw [hw1]
      clear hw1 w1
      go_wp2_with fail
      go_ret2
      exact ⟨rfl, rfl⟩

end Go.Proofs.YtpedljmpobhimaaGreatDoor

/-
  Walks: a range.
-/
namespace Go.Proofs.YtpedljmpobhimaaGreatDoor
open Go.RowKit Go.Shelf
set_option linter.unusedVariables false

theorem put6 {W : World} {B : Nat} {t : TypeId} {u0 u1 u2 u3 u4 u5 : Value} (v0 v1 v2 v3 v4 v5 : Value) (h : W.heap[B]? = some (.cells #[u0, u1, u2, u3, u4, u5] t (0, 0))) :
    ((((((W.setCell ⟨B, 0, none⟩ v0).setCell ⟨B, 1, none⟩ v1).setCell ⟨B, 2, none⟩ v2).setCell ⟨B, 3, none⟩ v3).setCell ⟨B, 4, none⟩ v4).setCell ⟨B, 5, none⟩ v5).heap[B]? = some (.cells #[v0, v1, v2, v3, v4, v5] t (0, 0)) :=
  set_lies 5 v5 (set_lies 4 v4 (set_lies 3 v3 (set_lies 2 v2 (set_lies 1 v1 (set_lies 0 v0 h)))))
theorem below6 {w W : World} (h : Below w.heap.size w W) (v0 v1 v2 v3 v4 v5 : Value) :
    Below w.heap.size w ((((((W.setCell ⟨w.heap.size, 0, none⟩ v0).setCell ⟨w.heap.size, 1, none⟩ v1).setCell ⟨w.heap.size, 2, none⟩ v2).setCell ⟨w.heap.size, 3, none⟩ v3).setCell ⟨w.heap.size, 4, none⟩ v4).setCell ⟨w.heap.size, 5, none⟩ v5) :=
  (((((h.setCell (Nat.le_refl _) _).setCell (Nat.le_refl _) _).setCell (Nat.le_refl _) _).setCell (Nat.le_refl _) _).setCell (Nat.le_refl _) _).setCell (Nat.le_refl _) _

theorem fin71 {R : Ending → World → Prop} (tmps : Array Value) (W : World) (B : Nat) (m : Mr) (e r : Int)
    (h4 : tmps.getD 4 undef = .pointer (some ⟨B, 0, none⟩)) (h5 : tmps.getD 5 undef = .int .i64 e) (h6 : tmps.getD 6 undef = .int .i64 r)
    (e1 : W.heap[B]? = some (.cells #[.bool m.hasLo, .string (ofL m.lo), .bool m.loIn, .bool m.hasHi, .string (ofL m.hi), .bool m.hiIn] 54 (0, 0)))
    (hR : R (.returned (.tuple #[mV m, .int .i64 e, .int .i64 r])) W) :
    bodyPost Tryz.prog Tryz.f71 R .ret { tmps := tmps, defers := [] } W := by
  have r0 := cell_at 0 e1 rfl
  have r1 := cell_at 1 e1 rfl
  have r2 := cell_at 2 e1 rfl
  have r3 := cell_at 3 e1 rfl
  have r4 := cell_at 4 e1 rfl
  have r5 := cell_at 5 e1 rfl
  rw [Array.getD_eq_getD_getElem?] at h4 h5 h6
  refine ⟨rfl, _, ?_, hR⟩
  simp [results, Tryz.results71, go_sem, h4, h5, h6, r0, r1, r2, r3, r4, r5, mV]
  try rfl

/-- A call's own range lies as it was laid. -/
structure RZ (w W : World) : Prop where
  cells : W.heap[w.heap.size]? = some (.cells #[.bool false, .string ⟨#[]⟩, .bool false, .bool false, .string ⟨#[]⟩, .bool false] 54 (0, 0))
  bel : Below w.heap.size w W
  kn : Kn W
theorem RZ.start {w : World} (hk : Kn w) : RZ w (w.alloc (.cells #[.bool false, .string ⟨#[]⟩, .bool false, .bool false, .string ⟨#[]⟩, .bool false] 54)) := ⟨World.alloc_heap_new w _, (Below.refl _ w).alloc (Nat.le_refl _) _, hk.alloc _⟩
theorem RZ.lt {w W : World} (h : RZ w W) : w.heap.size < W.heap.size := (Array.getElem?_eq_some_iff.1 h.cells).1
theorem RZ.next {w W W' : World} (h : RZ w W) (hb : Below W.heap.size W W') : RZ w W' :=
  ⟨(hb.block _ h.lt).trans h.cells, h.bel.trans (hb.mono h.bel.size), h.kn.below h.kn.pos hb⟩
theorem RZ.seen {w W : World} (h : RZ w W) : W.frozen? ⟨w.heap.size, 0, none⟩ = false ∧ W.frozen? ⟨w.heap.size, 1, none⟩ = false ∧ W.frozen? ⟨w.heap.size, 2, none⟩ = false ∧ W.frozen? ⟨w.heap.size, 3, none⟩ = false ∧ W.frozen? ⟨w.heap.size, 4, none⟩ = false ∧ W.frozen? ⟨w.heap.size, 5, none⟩ = false ∧
    W.cell? ⟨w.heap.size, 0, none⟩ = some (.bool false) ∧ W.cell? ⟨w.heap.size, 1, none⟩ = some (.string ⟨#[]⟩) ∧ W.cell? ⟨w.heap.size, 2, none⟩ = some (.bool false) ∧ W.cell? ⟨w.heap.size, 3, none⟩ = some (.bool false) ∧ W.cell? ⟨w.heap.size, 4, none⟩ = some (.string ⟨#[]⟩) ∧ W.cell? ⟨w.heap.size, 5, none⟩ = some (.bool false) :=
  ⟨one_free 0 h.cells, one_free 1 h.cells, one_free 2 h.cells, one_free 3 h.cells, one_free 4 h.cells, one_free 5 h.cells, cell_at 0 h.cells rfl, cell_at 1 h.cells rfl, cell_at 2 h.cells rfl, cell_at 3 h.cells rfl, cell_at 4 h.cells rfl, cell_at 5 h.cells rfl⟩

theorem rv_le (r : List UInt8) : (rvR r).k ≤ r.length := by
  have h1 := runL_le 6 r
  have h2 := verAt_len r
  have h3 := ve_le (r.drop (blN r))
  have h4 := runL_le 6 (r.drop (blN r + (verAt r).length))
  rw [List.length_drop] at h3 h4
  unfold rvR
  split
  · exact h1
  · show blN r + (verAt r).length + blN (r.drop (blN r + (verAt r).length)) ≤ _
    have h5 : blN r ≤ r.length := h1
    have h6 : blN (r.drop (blN r + (verAt r).length)) ≤ r.length - (blN r + (verAt r).length) := h4
    omega
/-- A range's end, by its place. -/
def clA (l : List UInt8) (a : Nat) (lo hi : List UInt8) (comma : Bool) (p : Nat) : Rr :=
  if hdIn [93, 41] (l.drop p) = false then ⟨misR (l.drop p), noM, p - a⟩
  else if ((!comma && !decide (lo ≠ [])) || !risesL ⟨decide (lo ≠ []), lo, hdIn [91] (l.drop a), decide (hi ≠ []), hi, hdIn [93] (l.drop p)⟩) = true then ⟨21, noM, 0⟩
  else ⟨0, ⟨decide (lo ≠ []), lo, hdIn [91] (l.drop a), decide (hi ≠ []), hi, hdIn [93] (l.drop p)⟩, p + 1 - a⟩
theorem cl_at (l : List UInt8) (a : Nat) (lo hi : List UInt8) (comma : Bool) (k p : Nat) (hp : p = a + k) : clR (l.drop a) lo hi comma k = clA l a lo hi comma p := by
  subst hp
  unfold clR clA mkM
  rw [List.drop_drop, Nat.add_sub_cancel_left, show a + k + 1 - a = k + 1 by omega]
theorem rr_at (l : List UInt8) (a p1 p2 : Nat) (h1 : p1 = a + 1 + (rvR (l.drop (a + 1))).k) (h2 : p2 = p1 + 1 + (rvR (l.drop (p1 + 1))).k) :
    rrR (l.drop a) = if (rvR (l.drop (a + 1))).err ≠ 0 then ⟨(rvR (l.drop (a + 1))).err, noM, p1 - a⟩
      else if hdIn [44] (l.drop p1) = true then (if (rvR (l.drop (p1 + 1))).err ≠ 0 then ⟨(rvR (l.drop (p1 + 1))).err, noM, p2 - a⟩ else clA l a (rvR (l.drop (a + 1))).v (rvR (l.drop (p1 + 1))).v true p2)
      else clA l a (rvR (l.drop (a + 1))).v (rvR (l.drop (a + 1))).v false p1 := by
  unfold rrR
  rw [List.drop_drop, List.drop_drop, List.drop_drop, show a + (1 + (rvR (l.drop (a + 1))).k) = p1 by omega, show a + (2 + (rvR (l.drop (a + 1))).k) = p1 + 1 by omega,
    cl_at l a _ _ true _ p2 (by omega), cl_at l a _ _ false _ p1 (by omega), show 1 + (rvR (l.drop (a + 1))).k = p1 - a by omega, show 2 + (rvR (l.drop (a + 1))).k + (rvR (l.drop (p1 + 1))).k = p2 - a by omega]
theorem hd_at (s : ByteArray) (a : Nat) (c : UInt8) (h : a < s.size) : hdIn [c] (s.data.toList.drop a) = ((s[a].toNat : Int) == (c.toNat : Int)) := by
  rw [drop_at s a h]
  show ([c] : List UInt8).contains s[a] = _
  rw [Bool.eq_iff_iff]
  simp only [List.contains_cons, List.contains_nil, Bool.or_false, beq_iff_eq]
  exact ⟨fun h => by rw [h], fun h => UInt8.toNat_inj.1 (by omega)⟩
theorem drew_below (k : Nat) (W : World) : Below k W W.drew := below_drewN k W 1
theorem endR {X : Rr} {m : Mr} {e : Int} {a p k : Nat} (z : Int) (hX : X = ⟨e, m, k⟩) (h : a + k = p) (hz : z = (p : Int)) :
    Ending.returned (.tuple #[mV m, .int .i64 z, .int .i64 e]) = .returned (.tuple #[mV X.m, .int .i64 ((a + X.k : Nat) : Int), .int .i64 X.err]) := by
  subst hX hz
  rw [h]
theorem empty_at (v : List UInt8) : ((ofL v).toList == []) = !decide (v ≠ []) := by
  rw [toL, ofL_data]
  cases v <;> rfl

set_option maxRecDepth 100000 in
set_option maxHeartbeats 20000000 in
theorem readRange_any (s : ByteArray) (a : Nat) (w : World) (hs : s.size ≤ 256) (ha : a < s.size) (hk : Kn w) :
    Calls Tryz.prog 71 #[.string s, .int .i64 (a : Int)] w fun e w' => e = .returned (.tuple #[mV (rrR (s.data.toList.drop a)).m, .int .i64 ((a + (rrR (s.data.toList.drop a)).k : Nat) : Int), .int .i64 (rrR (s.data.toList.drop a)).err]) ∧ Below w.heap.size w w' := by
  have RV1 := fun W hW => readVersion_any s (a + 1) W hs (by omega) hW
  obtain ⟨p1, hp1⟩ : ∃ p1, p1 = a + 1 + (rvR (s.data.toList.drop (a + 1))).k := ⟨_, rfl⟩
  obtain ⟨p2, hp2⟩ : ∃ p2, p2 = p1 + 1 + (rvR (s.data.toList.drop (p1 + 1))).k := ⟨_, rfl⟩
  have hX := rr_at s.data.toList a p1 p2 hp1 hp2
  have l1 := rv_le (s.data.toList.drop (a + 1))
  rw [List.length_drop, len_data] at l1
  have l1' : p1 ≤ s.size := by omega
  have HA1 : Hid (a + (p1 - a) = p1) := by show _ = _; omega
  rw [← hp1] at RV1
  replace RV1 := hide RV1
  have I1 := fun W => isAt_any s ⟨#[44]⟩ p1 W
  change ∀ W, Calls Tryz.prog 22 #[.string s, .int .i64 (p1 : Int), .string ⟨#[44]⟩] W fun e w' => e = .returned (.bool (hdIn [44] (s.data.toList.drop p1))) ∧ w' = W at I1
  replace I1 := hide I1
  have IB := hide (fun (p : Nat) W => (isAt_any s ⟨#[93, 41]⟩ p W : Calls Tryz.prog 22 #[.string s, .int .i64 (p : Int), .string ⟨#[93, 41]⟩] W fun e w' => e = .returned (.bool (hdIn [93, 41] (s.data.toList.drop p))) ∧ w' = W))
  have MF := hide (fun (p : Nat) W hp => Misfit_any s p W hp)
  have RI := hide (fun m W hW => rises_any m W hW)
  have RV2 := hide (fun (h : p1 < s.size) W hW => (by have := readVersion_any s (p1 + 1) W hs (by omega) hW; rw [← hp2] at this; exact this : Calls Tryz.prog 48 #[.string s, .int .i64 ((p1 + 1 : Nat) : Int)] W fun e w' => e = .returned (.tuple #[.string (ofL (rvR (s.data.toList.drop (p1 + 1))).v), .int .i64 (p2 : Int), .int .i64 (rvR (s.data.toList.drop (p1 + 1))).err]) ∧ Below W.heap.size W w'))
  have L2 : Hid (p1 < s.size → p2 ≤ s.size) := by
    intro h
    have := rv_le (s.data.toList.drop (p1 + 1))
    rw [List.length_drop, len_data] at this
    omega
  have HA2 : Hid (a + (p2 - a) = p2) := by show _ = _; omega
  have HC : Hid (hdIn [44] (s.data.toList.drop p1) = true → p1 < s.size) := fun h => by have := hdIn_lt h; rwa [len_data] at this
  have HLT1 : Hid (a < p1) := by show _ < _; omega
  have HLT2 : Hid (a < p2) := by show _ < _; omega
  clear hp1 hp2 l1
  generalize rrR (s.data.toList.drop a) = X at *
  generalize (rvR (s.data.toList.drop (a + 1))).err = E1 at *
  generalize (rvR (s.data.toList.drop (a + 1))).v = V1 at *
  generalize (rvR (s.data.toList.drop (p1 + 1))).err = E2 at *
  generalize (rvR (s.data.toList.drop (p1 + 1))).v = V2 at *
  generalize hdIn [44] (s.data.toList.drop p1) = H1 at *
  have HX := hide hX
  have Z0 := hide (RZ.start hk)
  clear hX hk
  go_enter Tryz.func71, Tryz.ntmps71
  go_wp2_with fail
  generalize w.alloc (.cells #[.bool false, .string ⟨#[]⟩, .bool false, .bool false, .string ⟨#[]⟩, .bool false] 54) = W0 at *
  refine (RV1.out _ Z0.out.kn).mono ?_
  rintro e w1 ⟨rfl, b1⟩
  dsimp only
  have Z1 := hide (Z0.out.next b1)
  clear Z0 b1 RV1
  obtain ⟨f0, f1, f2, f3, f4, f5, c0, c1, c2, c3, c4, c5⟩ := Z1.out.seen
  go_wp2_with fail
  refine (I1.out _).mono ?_
  rintro e w2 ⟨rfl, hw2⟩
  rw [hw2]
  clear hw2 w2 I1
  dsimp only
  by_cases hE : E1 = 0
  · subst hE
    rw [if_neg (by simp)] at HX
    cases H1 with
    | true =>
      rw [if_pos rfl] at HX
      have hlt := HC.out rfl
      have hp2 := L2.out hlt
      go_wp2_with fail
      refine (RV2.out hlt _ Z1.out.kn).mono ?_
      rintro e w2 ⟨rfl, b2⟩
      dsimp only
      have Z2 := hide (Z1.out.next b2)
      clear f0 f1 f2 f3 f4 f5 c0 c1 c2 c3 c4 c5 Z1 b2 RV2
      obtain ⟨f0, f1, f2, f3, f4, f5, c0, c1, c2, c3, c4, c5⟩ := Z2.out.seen
      by_cases hE2 : E2 = 0
      · subst hE2
        rw [if_neg (by simp)] at HX
        have IBp := hide (IB.out p2)
        have MFp := hide (fun W => MF.out p2 W (by omega))
        have hlc : hdIn [93, 41] (s.data.toList.drop p2) = true → p2 < s.size := fun h => by have := hdIn_lt h; rwa [len_data] at this
        have HY : Hid (X = clA s.data.toList a V1 V2 true p2) := HX.out
        unfold clA at HY
        clear HX
        have hli : ((s[a].toNat : Int) == 91) = hdIn [91] (s.data.toList.drop a) := (hd_at s a 91 ha).symm
        have hhi := fun (h : p2 < s.size) => (hd_at s p2 93 h).symm
        have hlo0 := empty_at V1
        have hhi0 := empty_at V2
        generalize decide (V1 ≠ []) = HL at *
        generalize decide (V2 ≠ []) = HH at *
        generalize hdIn [91] (s.data.toList.drop a) = LI at *
        generalize hdIn [93] (s.data.toList.drop p2) = HI at *
        generalize hdIn [93, 41] (s.data.toList.drop p2) = HB at *
        generalize misR (s.data.toList.drop p2) = MI at *
        go_wp2_with fail
        refine (IBp.out _).mono ?_
        rintro e w3 ⟨rfl, hw3⟩
        rw [hw3]
        clear hw3 w3 IBp IB
        dsimp only
        cases HB with
        | false =>
          rw [if_pos rfl] at HY
          clear hlc hhi
          go_wp2_with fail
          refine (MFp.out _).mono ?_
          rintro e w3 ⟨rfl, hw3⟩
          rw [hw3]
          clear hw3 w3
          dsimp only
          go_wp2_with fail
          exact fin71 _ _ w.heap.size noM _ _ rfl rfl rfl (put6 _ _ _ _ _ _ Z2.out.cells) ⟨endR _ HY.out HA2.out rfl, below6 Z2.out.bel _ _ _ _ _ _⟩
        | true =>
          rw [if_neg (by simp)] at HY
          have hpl := hlc rfl
          replace hhi := hhi hpl
          clear hlc MFp MF
          have RIm : Hid (∀ W, Kn W → Calls Tryz.prog 90 #[.agg #[.bool HL, .string (ofL V1), .bool LI, .bool HH, .string (ofL V2), .bool HI]] W fun e w' => e = .returned (.bool (risesL ⟨HL, V1, LI, HH, V2, HI⟩)) ∧ Below W.heap.size W w') := fun W hW => RI.out ⟨HL, V1, LI, HH, V2, HI⟩ W hW
          generalize hm : (⟨HL, V1, LI, HH, V2, HI⟩ : Mr) = m at *
          have Hm := hide hm
          have hA9 : a + (p2 + 1 - a) = p2 + 1 := by have := HLT2.out; omega
          have HA9 := hide hA9
          clear RI hm hA9
          go_wp2_with fail
          go_region
          rw [show ((s[p2].toNat : Int) == 93) = HI from hhi]
          have Z9 := hide ((Z2.out.next ((Below.refl _ w2).alloc (Nat.le_refl _) (.cells #[.bool HL, .string (ofL V1), .bool LI, .bool HH, .string (ofL V2), .bool HI] 54))).next (drew_below _ _))
          have N9 : Hid ((w2.alloc (.cells #[.bool HL, .string (ofL V1), .bool LI, .bool HH, .string (ofL V2), .bool HI] 54)).drew.heap[w2.heap.size]? = some (.cells #[.bool HL, .string (ofL V1), .bool LI, .bool HH, .string (ofL V2), .bool HI] 54 (0, 0))) := World.alloc_heap_new w2 (.cells #[.bool HL, .string (ofL V1), .bool LI, .bool HH, .string (ofL V2), .bool HI] 54)
          generalize (w2.alloc (.cells #[.bool HL, .string (ofL V1), .bool LI, .bool HH, .string (ofL V2), .bool HI] 54)).drew = W9 at *
          generalize w2.heap.size = B9 at *
          clear f0 f1 f2 f3 f4 f5 c0 c1 c2 c3 c4 c5 Z2 hhi hli
          obtain ⟨f0, f1, f2, f3, f4, f5, c0, c1, c2, c3, c4, c5⟩ := Z9.out.seen
          have q0 : W9.cell? ⟨B9, 0, none⟩ = some (.bool HL) := cell_at 0 N9.out rfl
          have q1 : W9.cell? ⟨B9, 1, none⟩ = some (.string (ofL V1)) := cell_at 1 N9.out rfl
          have q2 : W9.cell? ⟨B9, 2, none⟩ = some (.bool LI) := cell_at 2 N9.out rfl
          have q3 : W9.cell? ⟨B9, 3, none⟩ = some (.bool HH) := cell_at 3 N9.out rfl
          have q4 : W9.cell? ⟨B9, 4, none⟩ = some (.string (ofL V2)) := cell_at 4 N9.out rfl
          have q5 : W9.cell? ⟨B9, 5, none⟩ = some (.bool HI) := cell_at 5 N9.out rfl
          have LB : B9 < W9.heap.size := (Array.getElem?_eq_some_iff.1 N9.out).1
          cases hr : risesL m with
          | true =>
            rw [hr, if_neg (by simp)] at HY
            rw [hr] at RIm
            go_wp2_with fail
            refine (RIm.out _ Z9.out.kn).mono ?_
            rintro e w4 ⟨rfl, b4⟩
            dsimp only
            have Y := hide (Z9.out.next b4)
            have n4 := (b4.block _ LB).trans N9.out
            have N4 := hide n4
            clear f0 f1 f2 f3 f4 f5 c0 c1 c2 c3 c4 c5 q0 q1 q2 q3 q4 q5 b4 n4 Z9 N9
            obtain ⟨f0, f1, f2, f3, f4, f5, c0, c1, c2, c3, c4, c5⟩ := Y.out.seen
            have q0 : w4.cell? ⟨B9, 0, none⟩ = some (.bool HL) := cell_at 0 N4.out rfl
            have q1 : w4.cell? ⟨B9, 1, none⟩ = some (.string (ofL V1)) := cell_at 1 N4.out rfl
            have q2 : w4.cell? ⟨B9, 2, none⟩ = some (.bool LI) := cell_at 2 N4.out rfl
            have q3 : w4.cell? ⟨B9, 3, none⟩ = some (.bool HH) := cell_at 3 N4.out rfl
            have q4 : w4.cell? ⟨B9, 4, none⟩ = some (.string (ofL V2)) := cell_at 4 N4.out rfl
            have q5 : w4.cell? ⟨B9, 5, none⟩ = some (.bool HI) := cell_at 5 N4.out rfl
            go_wp2_with fail
            refine fin71 _ _ w.heap.size ⟨HL, V1, LI, HH, V2, HI⟩ _ _ rfl rfl rfl (put6 _ _ _ _ _ _ Y.out.cells) ⟨?_, below6 Y.out.bel _ _ _ _ _ _⟩
            rw [Hm.out]
            exact endR _ HY.out HA9.out (by go_num)
          | false =>
            rw [hr, if_pos (by simp)] at HY
            rw [hr] at RIm
            go_wp2_with fail
            refine (RIm.out _ Z9.out.kn).mono ?_
            rintro e w4 ⟨rfl, b4⟩
            dsimp only
            have Y := hide (Z9.out.next b4)
            clear f0 f1 f2 f3 f4 f5 c0 c1 c2 c3 c4 c5 q0 q1 q2 q3 q4 q5 b4 Z9 N9
            obtain ⟨f0, f1, f2, f3, f4, f5, c0, c1, c2, c3, c4, c5⟩ := Y.out.seen
            go_wp2_with fail
            exact fin71 _ _ w.heap.size noM _ _ rfl rfl rfl (put6 _ _ _ _ _ _ Y.out.cells) ⟨endR _ HY.out (Nat.add_zero _) rfl, below6 Y.out.bel _ _ _ _ _ _⟩
      · rw [if_pos hE2] at HX
        have hnb : (E2 == 0) = false := by simpa using hE2
        go_wp2_with fail
        exact fin71 _ _ w.heap.size noM _ _ rfl rfl rfl (put6 _ _ _ _ _ _ Z2.out.cells) ⟨endR _ HX.out HA2.out rfl, below6 Z2.out.bel _ _ _ _ _ _⟩
    | false =>
      rw [if_neg (by simp)] at HX
      clear RV2
      have IBp := hide (IB.out p1)
      have MFp := hide (fun W => MF.out p1 W (by omega))
      have hlc : hdIn [93, 41] (s.data.toList.drop p1) = true → p1 < s.size := fun h => by have := hdIn_lt h; rwa [len_data] at this
      have HY : Hid (X = clA s.data.toList a V1 V1 false p1) := HX.out
      unfold clA at HY
      clear HX
      have hli : ((s[a].toNat : Int) == 91) = hdIn [91] (s.data.toList.drop a) := (hd_at s a 91 ha).symm
      have hhi := fun (h : p1 < s.size) => (hd_at s p1 93 h).symm
      have hlo0 := empty_at V1
      skip
      generalize decide (V1 ≠ []) = HL at *
      generalize hdIn [91] (s.data.toList.drop a) = LI at *
      generalize hdIn [93] (s.data.toList.drop p1) = HI at *
      generalize hdIn [93, 41] (s.data.toList.drop p1) = HB at *
      generalize misR (s.data.toList.drop p1) = MI at *
      go_wp2_with fail
      refine (IBp.out _).mono ?_
      rintro e w3 ⟨rfl, hw3⟩
      rw [hw3]
      clear hw3 w3 IBp IB
      dsimp only
      cases HB with
      | false =>
        rw [if_pos rfl] at HY
        clear hlc hhi
        go_wp2_with fail
        refine (MFp.out _).mono ?_
        rintro e w3 ⟨rfl, hw3⟩
        rw [hw3]
        clear hw3 w3
        dsimp only
        go_wp2_with fail
        exact fin71 _ _ w.heap.size noM _ _ rfl rfl rfl (put6 _ _ _ _ _ _ Z1.out.cells) ⟨endR _ HY.out HA1.out rfl, below6 Z1.out.bel _ _ _ _ _ _⟩
      | true =>
        rw [if_neg (by simp)] at HY
        have hpl := hlc rfl
        replace hhi := hhi hpl
        clear hlc MFp MF
        have RIm : Hid (∀ W, Kn W → Calls Tryz.prog 90 #[.agg #[.bool HL, .string (ofL V1), .bool LI, .bool HL, .string (ofL V1), .bool HI]] W fun e w' => e = .returned (.bool (risesL ⟨HL, V1, LI, HL, V1, HI⟩)) ∧ Below W.heap.size W w') := fun W hW => RI.out ⟨HL, V1, LI, HL, V1, HI⟩ W hW
        generalize hm : (⟨HL, V1, LI, HL, V1, HI⟩ : Mr) = m at *
        have Hm := hide hm
        have hA9 : a + (p1 + 1 - a) = p1 + 1 := by have := HLT1.out; omega
        have HA9 := hide hA9
        clear RI hm hA9
        go_wp2_with fail
        go_region
        rw [show ((s[p1].toNat : Int) == 93) = HI from hhi]
        have Z9 := hide ((Z1.out.next ((Below.refl _ w1).alloc (Nat.le_refl _) (.cells #[.bool HL, .string (ofL V1), .bool LI, .bool HL, .string (ofL V1), .bool HI] 54))).next (drew_below _ _))
        have N9 : Hid ((w1.alloc (.cells #[.bool HL, .string (ofL V1), .bool LI, .bool HL, .string (ofL V1), .bool HI] 54)).drew.heap[w1.heap.size]? = some (.cells #[.bool HL, .string (ofL V1), .bool LI, .bool HL, .string (ofL V1), .bool HI] 54 (0, 0))) := World.alloc_heap_new w1 (.cells #[.bool HL, .string (ofL V1), .bool LI, .bool HL, .string (ofL V1), .bool HI] 54)
        generalize (w1.alloc (.cells #[.bool HL, .string (ofL V1), .bool LI, .bool HL, .string (ofL V1), .bool HI] 54)).drew = W9 at *
        generalize w1.heap.size = B9 at *
        clear f0 f1 f2 f3 f4 f5 c0 c1 c2 c3 c4 c5 Z1 hhi hli
        obtain ⟨f0, f1, f2, f3, f4, f5, c0, c1, c2, c3, c4, c5⟩ := Z9.out.seen
        have q0 : W9.cell? ⟨B9, 0, none⟩ = some (.bool HL) := cell_at 0 N9.out rfl
        have q1 : W9.cell? ⟨B9, 1, none⟩ = some (.string (ofL V1)) := cell_at 1 N9.out rfl
        have q2 : W9.cell? ⟨B9, 2, none⟩ = some (.bool LI) := cell_at 2 N9.out rfl
        have q3 : W9.cell? ⟨B9, 3, none⟩ = some (.bool HL) := cell_at 3 N9.out rfl
        have q4 : W9.cell? ⟨B9, 4, none⟩ = some (.string (ofL V1)) := cell_at 4 N9.out rfl
        have q5 : W9.cell? ⟨B9, 5, none⟩ = some (.bool HI) := cell_at 5 N9.out rfl
        have LB : B9 < W9.heap.size := (Array.getElem?_eq_some_iff.1 N9.out).1
        cases HL with
        | false =>
          rw [if_pos (by simp)] at HY
          clear RIm
          go_wp2_with fail
          exact fin71 _ _ w.heap.size noM _ _ rfl rfl rfl (put6 _ _ _ _ _ _ Z9.out.cells) ⟨endR _ HY.out (Nat.add_zero _) rfl, below6 Z9.out.bel _ _ _ _ _ _⟩
        | true =>
          cases hr : risesL m with
          | true =>
            rw [hr, if_neg (by simp)] at HY
            rw [hr] at RIm
            go_wp2_with fail
            refine (RIm.out _ Z9.out.kn).mono ?_
            rintro e w4 ⟨rfl, b4⟩
            dsimp only
            have Y := hide (Z9.out.next b4)
            have n4 := (b4.block _ LB).trans N9.out
            have N4 := hide n4
            clear f0 f1 f2 f3 f4 f5 c0 c1 c2 c3 c4 c5 q0 q1 q2 q3 q4 q5 b4 n4 Z9 N9
            obtain ⟨f0, f1, f2, f3, f4, f5, c0, c1, c2, c3, c4, c5⟩ := Y.out.seen
            have q0 : w4.cell? ⟨B9, 0, none⟩ = some (.bool true) := cell_at 0 N4.out rfl
            have q1 : w4.cell? ⟨B9, 1, none⟩ = some (.string (ofL V1)) := cell_at 1 N4.out rfl
            have q2 : w4.cell? ⟨B9, 2, none⟩ = some (.bool LI) := cell_at 2 N4.out rfl
            have q3 : w4.cell? ⟨B9, 3, none⟩ = some (.bool true) := cell_at 3 N4.out rfl
            have q4 : w4.cell? ⟨B9, 4, none⟩ = some (.string (ofL V1)) := cell_at 4 N4.out rfl
            have q5 : w4.cell? ⟨B9, 5, none⟩ = some (.bool HI) := cell_at 5 N4.out rfl
            go_wp2_with fail
            refine fin71 _ _ w.heap.size ⟨true, V1, LI, true, V1, HI⟩ _ _ rfl rfl rfl (put6 _ _ _ _ _ _ Y.out.cells) ⟨?_, below6 Y.out.bel _ _ _ _ _ _⟩
            rw [Hm.out]
            exact endR _ HY.out HA9.out (by go_num)
          | false =>
            rw [hr, if_pos (by simp)] at HY
            rw [hr] at RIm
            go_wp2_with fail
            refine (RIm.out _ Z9.out.kn).mono ?_
            rintro e w4 ⟨rfl, b4⟩
            dsimp only
            have Y := hide (Z9.out.next b4)
            clear f0 f1 f2 f3 f4 f5 c0 c1 c2 c3 c4 c5 q0 q1 q2 q3 q4 q5 b4 Z9 N9
            obtain ⟨f0, f1, f2, f3, f4, f5, c0, c1, c2, c3, c4, c5⟩ := Y.out.seen
            go_wp2_with fail
            exact fin71 _ _ w.heap.size noM _ _ rfl rfl rfl (put6 _ _ _ _ _ _ Y.out.cells) ⟨endR _ HY.out (Nat.add_zero _) rfl, below6 Y.out.bel _ _ _ _ _ _⟩
  · rw [if_pos hE] at HX
    have hnb : (E1 == 0) = false := by simpa using hE
    go_wp2_with fail
    exact fin71 _ _ w.heap.size noM _ _ rfl rfl rfl (put6 _ _ _ _ _ _ Z1.out.cells) ⟨endR _ HX.out HA1.out rfl, below6 Z1.out.bel _ _ _ _ _ _⟩

end Go.Proofs.YtpedljmpobhimaaGreatDoor
