/-
  Walks: the order of rows of stages.
-/
import Derived.Test.YtagnikhkmaplpaaGreatPn
namespace Go.Proofs.YtagnikhkmaplpaaGreat
open Go.RowKit Go.Shelf
set_option linter.unusedVariables false

/-- What lies in memory while two rows of stages are compared. -/
structure ST (w : World) (B C : Nat) (x y z x' y' z' : Int × ByteArray) (dc : Int) (dn : ByteArray) (W : World) : Prop where
  below : Below w.heap.size w W
  a : StgAt W B x y z
  b : StgAt W C x' y' z'
  box : W.heap[w.heap.size]? = some (.cells #[.int .u8 dc, .string dn] 85 (0, 0))
theorem ST.go {w : World} {B C : Nat} {x y z x' y' z' : Int × ByteArray} {dc : Int} {dn : ByteArray} {W W' : World} (h : ST w B C x y z x' y' z' dc dn W) (hb : Below W.heap.size W W') : ST w B C x y z x' y' z' dc dn W' :=
  ⟨h.below.trans (hb.mono h.below.size), h.a.below hb, h.b.below hb, (hb.block _ (Array.getElem?_eq_some_iff.1 h.box).1).trans h.box⟩
theorem ST.seen {w : World} {B C : Nat} {x y z x' y' z' : Int × ByteArray} {dc : Int} {dn : ByteArray} {W : World} (h : ST w B C x y z x' y' z' dc dn W) : W.cell? ⟨w.heap.size, 0, none⟩ = some (.int .u8 dc) ∧ W.cell? ⟨w.heap.size, 1, none⟩ = some (.string dn) :=
  ⟨cell_at 0 h.box rfl, cell_at 1 h.box rfl⟩
theorem ST.drew {w : World} {B C : Nat} {x y z x' y' z' : Int × ByteArray} {dc : Int} {dn : ByteArray} {W : World} (h : ST w B C x y z x' y' z' dc dn W) : ST w B C x y z x' y' z' dc dn W.drew := h.go (Below.refl _ _).drew
/-- The order of rows of stages. -/
def stsO (x y z x' y' z' : Int × ByteArray) : Int := orI [stgO (x.1, x.2.data.toList) (x'.1, x'.2.data.toList), stgO (y.1, y.2.data.toList) (y'.1, y'.2.data.toList), stgO (z.1, z.2.data.toList) (z'.1, z'.2.data.toList)]

set_option maxRecDepth 100000 in
set_option maxHeartbeats 4000000 in
theorem orderParts_stg (B C : Nat) (x y z x' y' z' : Int × ByteArray) (dc : Int) (dn : ByteArray) (w : World) (ha : StgAt w B x y z) (hb : StgAt w C x' y' z')
    (s1 : x.2.size ≤ 9223372036854775806) (s2 : y.2.size ≤ 9223372036854775806) (s3 : z.2.size ≤ 9223372036854775806) (t1 : x'.2.size ≤ 9223372036854775806) (t2 : y'.2.size ≤ 9223372036854775806) (t3 : z'.2.size ≤ 9223372036854775806) :
    Calls Tryz.prog 71 #[.slice (some ⟨B, 0, none⟩) 3 3, .slice (some ⟨C, 0, none⟩) 3 3, .agg #[.int .u8 dc, .string dn], .func (.func 73) #[] #[]] w fun r w' => r = .returned (.int .i64 (stsO x y z x' y' z')) ∧ Below w.heap.size w w' := by
  have S0 : ST w B C x y z x' y' z' dc dn (w.alloc (.cells #[.int .u8 dc, .string dn] 85)) := by
    have bb := (Below.refl w.heap.size w).alloc (Nat.le_refl _) (.cells #[.int .u8 dc, .string dn] 85)
    exact ⟨bb, ha.below bb, hb.below bb, World.alloc_heap_new w _⟩
  have K0 := hide (fun W => orderStage_any x.1 x'.1 x.2 x'.2 W s1 t1)
  have K1 := hide (fun W => orderStage_any y.1 y'.1 y.2 y'.2 W s2 t2)
  have K2 := hide (fun W => orderStage_any z.1 z'.1 z.2 z'.2 W s3 t3)
  have HO : Hid (stsO x y z x' y' z' = orI [stgO (x.1, x.2.data.toList) (x'.1, x'.2.data.toList), stgO (y.1, y.2.data.toList) (y'.1, y'.2.data.toList), stgO (z.1, z.2.data.toList) (z'.1, z'.2.data.toList)]) := rfl
  generalize stsO x y z x' y' z' = O at *
  generalize stgO (x.1, x.2.data.toList) (x'.1, x'.2.data.toList) = o0 at *
  generalize stgO (y.1, y.2.data.toList) (y'.1, y'.2.data.toList) = o1 at *
  generalize stgO (z.1, z.2.data.toList) (z'.1, z'.2.data.toList) = o2 at *
  clear ha hb s1 s2 s3 t1 t2 t3
  by_cases c0 : o0 = 0
  · have k0 : (o0 != 0) = false := by simpa using c0
    by_cases c1 : o1 = 0
    · have k1 : (o1 != 0) = false := by simpa using c1
      by_cases c2 : o2 = 0
      · have k2 : (o2 != 0) = false := by simpa using c2
        have HV : Hid (O = 0) := by show _ = _; rw [HO.out]; simp [orI, c0, c1, c2]
        clear c0 c1 c2
        go_enter Tryz.func71, Tryz.ntmps71
        go_wp2_with fail
        refine wp_loop_rounds 4 ?_
        rw [rounds_succ]
        go_wp2_with fail
        generalize w.alloc (.cells #[.int .u8 dc, .string dn] 85) = W0 at *
        have D0 := S0.drew
        obtain ⟨e0, f0⟩ := S0.seen
        go_region_held3 (fun w' => w'.cell? ⟨w.heap.size, 0, none⟩ = some (.int .u8 dc) ∧ w'.cell? ⟨w.heap.size, 1, none⟩ = some (.string dn))
          (go_keep)
          ((first
            | (go_at_call 98; refine (partS0_any C x' y' z' dc dn _ P0.b).mono ?_; rintro e v0 ⟨rfl, b⟩; have Q0 := P0.go b; obtain ⟨m0, n0⟩ := Q0.seen)
            | (go_at_call 98; refine (partS0_any B x y z dc dn _ D0.a).mono ?_; rintro e u0 ⟨rfl, b⟩; have P0 := D0.go b; obtain ⟨g0, h0⟩ := P0.seen)
            | (go_at_call 73; refine (K0.out _).mono ?_; rintro e W1 ⟨rfl, b⟩; have S1 := Q0.go b; obtain ⟨r0, t0⟩ := S1.seen)
            | fail))
        go_wp2_with fail
        rw [rounds_succ]
        go_wp2_with fail
        have D1 := S1.drew
        obtain ⟨e1, f1⟩ := S1.seen
        go_region_held3 (fun w' => w'.cell? ⟨w.heap.size, 0, none⟩ = some (.int .u8 dc) ∧ w'.cell? ⟨w.heap.size, 1, none⟩ = some (.string dn))
          (go_keep)
          ((first
            | (go_at_call 98; refine (partS1_any C x' y' z' dc dn _ P1.b).mono ?_; rintro e v1 ⟨rfl, b⟩; have Q1 := P1.go b; obtain ⟨m1, n1⟩ := Q1.seen)
            | (go_at_call 98; refine (partS1_any B x y z dc dn _ D1.a).mono ?_; rintro e u1 ⟨rfl, b⟩; have P1 := D1.go b; obtain ⟨g1, h1⟩ := P1.seen)
            | (go_at_call 73; refine (K1.out _).mono ?_; rintro e W2 ⟨rfl, b⟩; have S2 := Q1.go b; obtain ⟨r1, t1⟩ := S2.seen)
            | fail))
        go_wp2_with fail
        rw [rounds_succ]
        go_wp2_with fail
        have D2 := S2.drew
        obtain ⟨e2, f2⟩ := S2.seen
        go_region_held3 (fun w' => w'.cell? ⟨w.heap.size, 0, none⟩ = some (.int .u8 dc) ∧ w'.cell? ⟨w.heap.size, 1, none⟩ = some (.string dn))
          (go_keep)
          ((first
            | (go_at_call 98; refine (partS2_any C x' y' z' dc dn _ P2.b).mono ?_; rintro e v2 ⟨rfl, b⟩; have Q2 := P2.go b; obtain ⟨m2, n2⟩ := Q2.seen)
            | (go_at_call 98; refine (partS2_any B x y z dc dn _ D2.a).mono ?_; rintro e u2 ⟨rfl, b⟩; have P2 := D2.go b; obtain ⟨g2, h2⟩ := P2.seen)
            | (go_at_call 73; refine (K2.out _).mono ?_; rintro e W3 ⟨rfl, b⟩; have S3 := Q2.go b; obtain ⟨r2, t2⟩ := S3.seen)
            | fail))
        go_wp2_with fail
        rw [rounds_succ]
        go_wp2_with fail
        go_ret
        exact ⟨ret_i HV.out.symm, S3.below⟩
      · have k2 : (o2 != 0) = true := by simpa using c2
        have HV : Hid (O = o2) := by show _ = _; rw [HO.out]; simp [orI, c0, c1, c2]
        clear c0 c1 c2
        go_enter Tryz.func71, Tryz.ntmps71
        go_wp2_with fail
        refine wp_loop_rounds 4 ?_
        rw [rounds_succ]
        go_wp2_with fail
        generalize w.alloc (.cells #[.int .u8 dc, .string dn] 85) = W0 at *
        have D0 := S0.drew
        obtain ⟨e0, f0⟩ := S0.seen
        go_region_held3 (fun w' => w'.cell? ⟨w.heap.size, 0, none⟩ = some (.int .u8 dc) ∧ w'.cell? ⟨w.heap.size, 1, none⟩ = some (.string dn))
          (go_keep)
          ((first
            | (go_at_call 98; refine (partS0_any C x' y' z' dc dn _ P0.b).mono ?_; rintro e v0 ⟨rfl, b⟩; have Q0 := P0.go b; obtain ⟨m0, n0⟩ := Q0.seen)
            | (go_at_call 98; refine (partS0_any B x y z dc dn _ D0.a).mono ?_; rintro e u0 ⟨rfl, b⟩; have P0 := D0.go b; obtain ⟨g0, h0⟩ := P0.seen)
            | (go_at_call 73; refine (K0.out _).mono ?_; rintro e W1 ⟨rfl, b⟩; have S1 := Q0.go b; obtain ⟨r0, t0⟩ := S1.seen)
            | fail))
        go_wp2_with fail
        rw [rounds_succ]
        go_wp2_with fail
        have D1 := S1.drew
        obtain ⟨e1, f1⟩ := S1.seen
        go_region_held3 (fun w' => w'.cell? ⟨w.heap.size, 0, none⟩ = some (.int .u8 dc) ∧ w'.cell? ⟨w.heap.size, 1, none⟩ = some (.string dn))
          (go_keep)
          ((first
            | (go_at_call 98; refine (partS1_any C x' y' z' dc dn _ P1.b).mono ?_; rintro e v1 ⟨rfl, b⟩; have Q1 := P1.go b; obtain ⟨m1, n1⟩ := Q1.seen)
            | (go_at_call 98; refine (partS1_any B x y z dc dn _ D1.a).mono ?_; rintro e u1 ⟨rfl, b⟩; have P1 := D1.go b; obtain ⟨g1, h1⟩ := P1.seen)
            | (go_at_call 73; refine (K1.out _).mono ?_; rintro e W2 ⟨rfl, b⟩; have S2 := Q1.go b; obtain ⟨r1, t1⟩ := S2.seen)
            | fail))
        go_wp2_with fail
        rw [rounds_succ]
        go_wp2_with fail
        have D2 := S2.drew
        obtain ⟨e2, f2⟩ := S2.seen
        go_region_held3 (fun w' => w'.cell? ⟨w.heap.size, 0, none⟩ = some (.int .u8 dc) ∧ w'.cell? ⟨w.heap.size, 1, none⟩ = some (.string dn))
          (go_keep)
          ((first
            | (go_at_call 98; refine (partS2_any C x' y' z' dc dn _ P2.b).mono ?_; rintro e v2 ⟨rfl, b⟩; have Q2 := P2.go b; obtain ⟨m2, n2⟩ := Q2.seen)
            | (go_at_call 98; refine (partS2_any B x y z dc dn _ D2.a).mono ?_; rintro e u2 ⟨rfl, b⟩; have P2 := D2.go b; obtain ⟨g2, h2⟩ := P2.seen)
            | (go_at_call 73; refine (K2.out _).mono ?_; rintro e W3 ⟨rfl, b⟩; have S3 := Q2.go b; obtain ⟨r2, t2⟩ := S3.seen)
            | fail))
        go_wp2_with fail
        go_ret
        exact ⟨ret_i HV.out.symm, S3.below⟩
    · have k1 : (o1 != 0) = true := by simpa using c1
      have HV : Hid (O = o1) := by show _ = _; rw [HO.out]; simp [orI, c0, c1]
      clear c0 c1
      go_enter Tryz.func71, Tryz.ntmps71
      go_wp2_with fail
      refine wp_loop_rounds 4 ?_
      rw [rounds_succ]
      go_wp2_with fail
      generalize w.alloc (.cells #[.int .u8 dc, .string dn] 85) = W0 at *
      have D0 := S0.drew
      obtain ⟨e0, f0⟩ := S0.seen
      go_region_held3 (fun w' => w'.cell? ⟨w.heap.size, 0, none⟩ = some (.int .u8 dc) ∧ w'.cell? ⟨w.heap.size, 1, none⟩ = some (.string dn))
        (go_keep)
        ((first
          | (go_at_call 98; refine (partS0_any C x' y' z' dc dn _ P0.b).mono ?_; rintro e v0 ⟨rfl, b⟩; have Q0 := P0.go b; obtain ⟨m0, n0⟩ := Q0.seen)
          | (go_at_call 98; refine (partS0_any B x y z dc dn _ D0.a).mono ?_; rintro e u0 ⟨rfl, b⟩; have P0 := D0.go b; obtain ⟨g0, h0⟩ := P0.seen)
          | (go_at_call 73; refine (K0.out _).mono ?_; rintro e W1 ⟨rfl, b⟩; have S1 := Q0.go b; obtain ⟨r0, t0⟩ := S1.seen)
          | fail))
      go_wp2_with fail
      rw [rounds_succ]
      go_wp2_with fail
      have D1 := S1.drew
      obtain ⟨e1, f1⟩ := S1.seen
      go_region_held3 (fun w' => w'.cell? ⟨w.heap.size, 0, none⟩ = some (.int .u8 dc) ∧ w'.cell? ⟨w.heap.size, 1, none⟩ = some (.string dn))
        (go_keep)
        ((first
          | (go_at_call 98; refine (partS1_any C x' y' z' dc dn _ P1.b).mono ?_; rintro e v1 ⟨rfl, b⟩; have Q1 := P1.go b; obtain ⟨m1, n1⟩ := Q1.seen)
          | (go_at_call 98; refine (partS1_any B x y z dc dn _ D1.a).mono ?_; rintro e u1 ⟨rfl, b⟩; have P1 := D1.go b; obtain ⟨g1, h1⟩ := P1.seen)
          | (go_at_call 73; refine (K1.out _).mono ?_; rintro e W2 ⟨rfl, b⟩; have S2 := Q1.go b; obtain ⟨r1, t1⟩ := S2.seen)
          | fail))
      go_wp2_with fail
      go_ret
      exact ⟨ret_i HV.out.symm, S2.below⟩
  · have k0 : (o0 != 0) = true := by simpa using c0
    have HV : Hid (O = o0) := by show _ = _; rw [HO.out]; simp [orI, c0]
    clear c0
    go_enter Tryz.func71, Tryz.ntmps71
    go_wp2_with fail
    refine wp_loop_rounds 4 ?_
    rw [rounds_succ]
    go_wp2_with fail
    generalize w.alloc (.cells #[.int .u8 dc, .string dn] 85) = W0 at *
    have D0 := S0.drew
    obtain ⟨e0, f0⟩ := S0.seen
    go_region_held3 (fun w' => w'.cell? ⟨w.heap.size, 0, none⟩ = some (.int .u8 dc) ∧ w'.cell? ⟨w.heap.size, 1, none⟩ = some (.string dn))
      (go_keep)
      ((first
        | (go_at_call 98; refine (partS0_any C x' y' z' dc dn _ P0.b).mono ?_; rintro e v0 ⟨rfl, b⟩; have Q0 := P0.go b; obtain ⟨m0, n0⟩ := Q0.seen)
        | (go_at_call 98; refine (partS0_any B x y z dc dn _ D0.a).mono ?_; rintro e u0 ⟨rfl, b⟩; have P0 := D0.go b; obtain ⟨g0, h0⟩ := P0.seen)
        | (go_at_call 73; refine (K0.out _).mono ?_; rintro e W1 ⟨rfl, b⟩; have S1 := Q0.go b; obtain ⟨r0, t0⟩ := S1.seen)
        | fail))
    go_wp2_with fail
    go_ret
    exact ⟨ret_i HV.out.symm, S1.below⟩

end Go.Proofs.YtagnikhkmaplpaaGreat
