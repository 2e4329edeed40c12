/-
  Walks: the chapter's examples. · Walks: PyspecReads.
-/
import Derived.Deep.Cut
import Derived.Test.YtabmfdedbpmfmaaGreatSIg
namespace Go.Proofs.YtabmfdedbpmfmaaGreat
open Go.RowKit Go.Shelf
set_option linter.unusedVariables false

theorem fault_at (W : World) (e p : Int) : (W.alloc (.cells #[.int .i64 e, .int .i64 p] 25)).heap[W.heap.size]? = some (.cells #[.int .i64 e, .int .i64 p] 25 (0, 0)) := World.alloc_heap_new W _
set_option maxRecDepth 100000 in
set_option maxHeartbeats 8000000 in
theorem awake13_any (w : World) : Calls Tryz.prog 13 #[] w fun e w' => e = .returned (.bool true) ∧ Below w.heap.size w w' := by
  have P0 : Hid (∀ W, Calls Tryz.prog 9 #[.string ⟨#[61, 49]⟩] W fun e w' => Below W.heap.size W w' ∧ ∃ v, e = .returned (.tuple #[v, .agg #[.int .i64 10, .int .i64 1]])) := hide fun W => (Parse9_any ⟨#[61, 49]⟩ W).mono fun e w' h => by
    obtain ⟨h1, v, h2, _⟩ := h
    rw [show pyL (⟨#[61, 49]⟩ : ByteArray).data.toList = (10, 1, []) from ex_p0] at h2
    exact ⟨h1, v, h2⟩
  have P1 : Hid (∀ W, Calls Tryz.prog 9 #[.string ⟨#[62, 61, 49, 44, 44, 60, 50]⟩] W fun e w' => Below W.heap.size W w' ∧ ∃ v, e = .returned (.tuple #[v, .agg #[.int .i64 10, .int .i64 4]])) := hide fun W => (Parse9_any ⟨#[62, 61, 49, 44, 44, 60, 50]⟩ W).mono fun e w' h => by
    obtain ⟨h1, v, h2, _⟩ := h
    rw [show pyL (⟨#[62, 61, 49, 44, 44, 60, 50]⟩ : ByteArray).data.toList = (10, 4, []) from ex_p1] at h2
    exact ⟨h1, v, h2⟩
  have P2 : Hid (∀ W, Calls Tryz.prog 9 #[.string ⟨#[126, 61, 49]⟩] W fun e w' => Below W.heap.size W w' ∧ ∃ v, e = .returned (.tuple #[v, .agg #[.int .i64 19, .int .i64 2]])) := hide fun W => (Parse9_any ⟨#[126, 61, 49]⟩ W).mono fun e w' h => by
    obtain ⟨h1, v, h2, _⟩ := h
    rw [show pyL (⟨#[126, 61, 49]⟩ : ByteArray).data.toList = (19, 2, []) from ex_p2] at h2
    exact ⟨h1, v, h2⟩
  have M0 : Hid (∀ W, Calls Tryz.prog 22 #[.string ⟨#[62, 61, 49, 46, 48, 44, 32, 33, 61, 49, 46, 53, 46, 42, 44, 32, 60, 50]⟩, .string ⟨#[49, 46, 52]⟩] W fun e w' => e = .returned (.bool true) ∧ Below W.heap.size W w') := hide fun W => (Match22_any ⟨#[62, 61, 49, 46, 48, 44, 32, 33, 61, 49, 46, 53, 46, 42, 44, 32, 60, 50]⟩ ⟨#[49, 46, 52]⟩ W (by decide)).mono fun e w' h => by
    rw [show matchP (⟨#[62, 61, 49, 46, 48, 44, 32, 33, 61, 49, 46, 53, 46, 42, 44, 32, 60, 50]⟩ : ByteArray).data.toList (⟨#[49, 46, 52]⟩ : ByteArray).data.toList = true from ex_m0] at h
    exact h
  have M1 : Hid (∀ W, Calls Tryz.prog 22 #[.string ⟨#[62, 61, 49, 46, 48, 44, 32, 33, 61, 49, 46, 53, 46, 42, 44, 32, 60, 50]⟩, .string ⟨#[49, 46, 54, 46, 112, 111, 115, 116, 49]⟩] W fun e w' => e = .returned (.bool true) ∧ Below W.heap.size W w') := hide fun W => (Match22_any ⟨#[62, 61, 49, 46, 48, 44, 32, 33, 61, 49, 46, 53, 46, 42, 44, 32, 60, 50]⟩ ⟨#[49, 46, 54, 46, 112, 111, 115, 116, 49]⟩ W (by decide)).mono fun e w' h => by
    rw [show matchP (⟨#[62, 61, 49, 46, 48, 44, 32, 33, 61, 49, 46, 53, 46, 42, 44, 32, 60, 50]⟩ : ByteArray).data.toList (⟨#[49, 46, 54, 46, 112, 111, 115, 116, 49]⟩ : ByteArray).data.toList = true from ex_m1] at h
    exact h
  have M2 : Hid (∀ W, Calls Tryz.prog 22 #[.string ⟨#[62, 61, 49, 46, 48, 44, 32, 33, 61, 49, 46, 53, 46, 42, 44, 32, 60, 50]⟩, .string ⟨#[49, 46, 53, 46, 51]⟩] W fun e w' => e = .returned (.bool false) ∧ Below W.heap.size W w') := hide fun W => (Match22_any ⟨#[62, 61, 49, 46, 48, 44, 32, 33, 61, 49, 46, 53, 46, 42, 44, 32, 60, 50]⟩ ⟨#[49, 46, 53, 46, 51]⟩ W (by decide)).mono fun e w' h => by
    rw [show matchP (⟨#[62, 61, 49, 46, 48, 44, 32, 33, 61, 49, 46, 53, 46, 42, 44, 32, 60, 50]⟩ : ByteArray).data.toList (⟨#[49, 46, 53, 46, 51]⟩ : ByteArray).data.toList = false from ex_m2] at h
    exact h
  have M3 : Hid (∀ W, Calls Tryz.prog 22 #[.string ⟨#[62, 61, 49, 46, 48, 44, 32, 33, 61, 49, 46, 53, 46, 42, 44, 32, 60, 50]⟩, .string ⟨#[50, 46, 48, 97, 49]⟩] W fun e w' => e = .returned (.bool false) ∧ Below W.heap.size W w') := hide fun W => (Match22_any ⟨#[62, 61, 49, 46, 48, 44, 32, 33, 61, 49, 46, 53, 46, 42, 44, 32, 60, 50]⟩ ⟨#[50, 46, 48, 97, 49]⟩ W (by decide)).mono fun e w' h => by
    rw [show matchP (⟨#[62, 61, 49, 46, 48, 44, 32, 33, 61, 49, 46, 53, 46, 42, 44, 32, 60, 50]⟩ : ByteArray).data.toList (⟨#[50, 46, 48, 97, 49]⟩ : ByteArray).data.toList = false from ex_m3] at h
    exact h
  have M4 : Hid (∀ W, Calls Tryz.prog 22 #[.string ⟨#[62, 61, 49, 46, 48, 44, 32, 33, 61, 49, 46, 53, 46, 42, 44, 32, 60, 50]⟩, .string ⟨#[50, 46, 48]⟩] W fun e w' => e = .returned (.bool false) ∧ Below W.heap.size W w') := hide fun W => (Match22_any ⟨#[62, 61, 49, 46, 48, 44, 32, 33, 61, 49, 46, 53, 46, 42, 44, 32, 60, 50]⟩ ⟨#[50, 46, 48]⟩ W (by decide)).mono fun e w' h => by
    rw [show matchP (⟨#[62, 61, 49, 46, 48, 44, 32, 33, 61, 49, 46, 53, 46, 42, 44, 32, 60, 50]⟩ : ByteArray).data.toList (⟨#[50, 46, 48]⟩ : ByteArray).data.toList = false from ex_m4] at h
    exact h
  have M5 : Hid (∀ W, Calls Tryz.prog 22 #[.string ⟨#[126, 61, 49, 46, 52, 46, 50]⟩, .string ⟨#[49, 46, 52, 46, 57]⟩] W fun e w' => e = .returned (.bool true) ∧ Below W.heap.size W w') := hide fun W => (Match22_any ⟨#[126, 61, 49, 46, 52, 46, 50]⟩ ⟨#[49, 46, 52, 46, 57]⟩ W (by decide)).mono fun e w' h => by
    rw [show matchP (⟨#[126, 61, 49, 46, 52, 46, 50]⟩ : ByteArray).data.toList (⟨#[49, 46, 52, 46, 57]⟩ : ByteArray).data.toList = true from ex_m5] at h
    exact h
  have M6 : Hid (∀ W, Calls Tryz.prog 22 #[.string ⟨#[126, 61, 49, 46, 52, 46, 50]⟩, .string ⟨#[49, 46, 53]⟩] W fun e w' => e = .returned (.bool false) ∧ Below W.heap.size W w') := hide fun W => (Match22_any ⟨#[126, 61, 49, 46, 52, 46, 50]⟩ ⟨#[49, 46, 53]⟩ W (by decide)).mono fun e w' h => by
    rw [show matchP (⟨#[126, 61, 49, 46, 52, 46, 50]⟩ : ByteArray).data.toList (⟨#[49, 46, 53]⟩ : ByteArray).data.toList = false from ex_m6] at h
    exact h
  have M7 : Hid (∀ W, Calls Tryz.prog 22 #[.string ⟨#[61, 61, 49, 46, 49]⟩, .string ⟨#[49, 46, 49, 46, 48, 43, 108, 111, 99, 97, 108]⟩] W fun e w' => e = .returned (.bool true) ∧ Below W.heap.size W w') := hide fun W => (Match22_any ⟨#[61, 61, 49, 46, 49]⟩ ⟨#[49, 46, 49, 46, 48, 43, 108, 111, 99, 97, 108]⟩ W (by decide)).mono fun e w' h => by
    rw [show matchP (⟨#[61, 61, 49, 46, 49]⟩ : ByteArray).data.toList (⟨#[49, 46, 49, 46, 48, 43, 108, 111, 99, 97, 108]⟩ : ByteArray).data.toList = true from ex_m7] at h
    exact h
  have M8 : Hid (∀ W, Calls Tryz.prog 22 #[.string ⟨#[62, 49, 46, 55]⟩, .string ⟨#[49, 46, 55, 46, 49]⟩] W fun e w' => e = .returned (.bool true) ∧ Below W.heap.size W w') := hide fun W => (Match22_any ⟨#[62, 49, 46, 55]⟩ ⟨#[49, 46, 55, 46, 49]⟩ W (by decide)).mono fun e w' h => by
    rw [show matchP (⟨#[62, 49, 46, 55]⟩ : ByteArray).data.toList (⟨#[49, 46, 55, 46, 49]⟩ : ByteArray).data.toList = true from ex_m8] at h
    exact h
  have M9 : Hid (∀ W, Calls Tryz.prog 22 #[.string ⟨#[62, 49, 46, 55]⟩, .string ⟨#[49, 46, 55, 46, 48, 46, 112, 111, 115, 116, 49]⟩] W fun e w' => e = .returned (.bool false) ∧ Below W.heap.size W w') := hide fun W => (Match22_any ⟨#[62, 49, 46, 55]⟩ ⟨#[49, 46, 55, 46, 48, 46, 112, 111, 115, 116, 49]⟩ W (by decide)).mono fun e w' h => by
    rw [show matchP (⟨#[62, 49, 46, 55]⟩ : ByteArray).data.toList (⟨#[49, 46, 55, 46, 48, 46, 112, 111, 115, 116, 49]⟩ : ByteArray).data.toList = false from ex_m9] at h
    exact h
  have M10 : Hid (∀ W, Calls Tryz.prog 22 #[.string ⟨#[62, 61, 50, 46, 48, 97, 49]⟩, .string ⟨#[50, 46, 48, 98, 49]⟩] W fun e w' => e = .returned (.bool true) ∧ Below W.heap.size W w') := hide fun W => (Match22_any ⟨#[62, 61, 50, 46, 48, 97, 49]⟩ ⟨#[50, 46, 48, 98, 49]⟩ W (by decide)).mono fun e w' h => by
    rw [show matchP (⟨#[62, 61, 50, 46, 48, 97, 49]⟩ : ByteArray).data.toList (⟨#[50, 46, 48, 98, 49]⟩ : ByteArray).data.toList = true from ex_m10] at h
    exact h
  go_enter Tryz.func13, Tryz.ntmps13
  go_wp2_with fail
  refine (P0.out _).mono ?_
  rintro e w1 ⟨b1, v1, rfl⟩
  have h1 : Below w.heap.size w (w1.alloc (.cells #[.int .i64 10, .int .i64 1] 25)) := b1.alloc b1.size _
  have q1 := fault_at w1 10 1
  have z1 : w1.heap.size < (w1.alloc (.cells #[.int .i64 10, .int .i64 1] 25)).heap.size := by simp
  go_upto_region 3 with fail
  generalize w1.alloc _ = W1 at *
  go_wp2_with fail
  refine (P1.out _).mono ?_
  rintro e w2 ⟨b2, v2, rfl⟩
  have h2 : Below W1.heap.size W1 (w2.alloc (.cells #[.int .i64 10, .int .i64 4] 25)) := b2.alloc b2.size _
  have q2 := fault_at w2 10 4
  have z2 : w2.heap.size < (w2.alloc (.cells #[.int .i64 10, .int .i64 4] 25)).heap.size := by simp
  go_upto_region 4 with fail
  generalize w2.alloc _ = W2 at *
  go_wp2_with fail
  refine (P2.out _).mono ?_
  rintro e w3 ⟨b3, v3, rfl⟩
  have h3 : Below W2.heap.size W2 (w3.alloc (.cells #[.int .i64 19, .int .i64 2] 25)) := b3.alloc b3.size _
  have q3 := fault_at w3 19 2
  have z3 : w3.heap.size < (w3.alloc (.cells #[.int .i64 19, .int .i64 2] 25)).heap.size := by simp
  go_upto_region 5 with fail
  generalize w3.alloc _ = W3 at *
  have H1 := hide h1
  have H2 := hide h2
  have H3 := hide h3
  have Q1 := hide q1
  have Q2 := hide q2
  have Q3 := hide q3
  clear h1 h2 h3 q1 q2 q3 b1 b2 b3 P0 P1 P2
  go_wp2_with fail
  refine (M0.out _).mono ?_
  rintro e V0 ⟨rfl, c0⟩
  have C0 := hide c0
  clear c0
  go_wp2_with fail
  refine (M1.out _).mono ?_
  rintro e V1 ⟨rfl, c1⟩
  have C1 := hide (C0.out.trans (c1.mono C0.out.size))
  clear c1
  go_wp2_with fail
  refine (M2.out _).mono ?_
  rintro e V2 ⟨rfl, c2⟩
  have C2 := hide (C1.out.trans (c2.mono C1.out.size))
  clear c2
  go_wp2_with fail
  refine (M3.out _).mono ?_
  rintro e V3 ⟨rfl, c3⟩
  have C3 := hide (C2.out.trans (c3.mono C2.out.size))
  clear c3
  go_wp2_with fail
  refine (M4.out _).mono ?_
  rintro e V4 ⟨rfl, c4⟩
  have C4 := hide (C3.out.trans (c4.mono C3.out.size))
  clear c4
  go_wp2_with fail
  refine (M5.out _).mono ?_
  rintro e V5 ⟨rfl, c5⟩
  have C5 := hide (C4.out.trans (c5.mono C4.out.size))
  clear c5
  go_wp2_with fail
  refine (M6.out _).mono ?_
  rintro e V6 ⟨rfl, c6⟩
  have C6 := hide (C5.out.trans (c6.mono C5.out.size))
  clear c6
  go_wp2_with fail
  refine (M7.out _).mono ?_
  rintro e V7 ⟨rfl, c7⟩
  have C7 := hide (C6.out.trans (c7.mono C6.out.size))
  clear c7
  go_wp2_with fail
  refine (M8.out _).mono ?_
  rintro e V8 ⟨rfl, c8⟩
  have C8 := hide (C7.out.trans (c8.mono C7.out.size))
  clear c8
  go_wp2_with fail
  refine (M9.out _).mono ?_
  rintro e V9 ⟨rfl, c9⟩
  have C9 := hide (C8.out.trans (c9.mono C8.out.size))
  clear c9
  go_wp2_with fail
  refine (M10.out _).mono ?_
  rintro e V10 ⟨rfl, c10⟩
  have C10 := hide (C9.out.trans (c10.mono C9.out.size))
  have s1 := H2.out.size
  have s2 := H3.out.size
  have s3 := C10.out.size
  have e3 := (C10.out.block _ z3).trans Q3.out
  have e2 := (C10.out.block _ (by omega)).trans ((H3.out.block _ z2).trans Q2.out)
  have e1 := (C10.out.block _ (by omega)).trans ((H3.out.block _ (by omega)).trans ((H2.out.block _ z1).trans Q1.out))
  have a1 := cell_at 0 e1 rfl
  have a2 := cell_at 1 e1 rfl
  have a3 := cell_at 0 e2 rfl
  have a4 := cell_at 1 e2 rfl
  have a5 := cell_at 0 e3 rfl
  have a6 := cell_at 1 e3 rfl
  have HF := hide (H1.out.trans ((H2.out.trans ((H3.out.trans (C10.out.mono (by omega))).mono (by omega))).mono (by have := H1.out.size; omega)))
  clear e1 e2 e3
  clear c10
  go_wp2_with fail
  go_ret
  exact ⟨rfl, HF.out⟩

end Go.Proofs.YtabmfdedbpmfmaaGreat

namespace Go.Proofs.YtabmfdedbpmfmaaGreat
open Go.RowKit Go.Shelf
set_option linter.unusedVariables false

theorem drew_below (k : Nat) (W : World) : Below k W W.drew := below_drewN k W 1
theorem drew_heap {W : World} {B : Nat} {o : Option Obj} (h : W.heap[B]? = o) : W.drew.heap[B]? = o := h
set_option maxRecDepth 100000 in
set_option maxHeartbeats 4000000 in
theorem reads_walk (s : ByteArray) (w : World) : Calls Tryz.prog 3 #[.string s] w fun e w' => e = .returned (.bool true) ∧ Below w.heap.size w w' := by
  have P1 := hide (fun W => Parse9_any s W)
  have P2 := hide (fun W => RPyParse_any s W)
  have VA := hide (fun W => Valid12_any s W)
  have HSH := hide (Nat.le_trans (pyL_len s.data.toList) (show 33 ≤ 1048576 by decide))
  have AW := hide awake13_any
  unfold PfPost at P1 P2
  generalize pyL s.data.toList = R at *
  obtain ⟨re, rp, l⟩ := R
  dsimp only at *
  have hnat : ∃ ra : Int, ra = (rp : Int) := ⟨_, rfl⟩
  obtain ⟨ra, hra⟩ := hnat
  simp only [← hra] at P1 P2
  clear hra
  go_enter Tryz.func3, Tryz.ntmps3
  go_wp2_with fail
  refine (P1.out _).mono ?_
  rintro e w1 ⟨b1, v1, rfl, hv1, _⟩
  obtain ⟨a1, k1, rfl, _⟩ := id hv1
  have n1 := hide (World.alloc_heap_new w1 (.cells #[.int .i64 re, .int .i64 ra] 25))
  have bb := (Below.refl _ w1).alloc (Nat.le_refl _) (.cells #[.int .i64 re, .int .i64 ra] 25)
  have B1 := hide (b1.trans (bb.mono b1.size))
  have H1 := hide (hv1.below bb)
  clear P1 hv1 bb b1
  dsimp only
  go_wp2_with fail
  generalize w1.alloc _ = W1 at *
  generalize w1.heap.size = X1 at *
  refine (P2.out _).mono ?_
  rintro e w2 ⟨b2, v2, rfl, hv2, _⟩
  obtain ⟨a2, k2, rfl, _⟩ := id hv2
  have n2 := hide (World.alloc_heap_new w2 (.cells #[.int .i64 re, .int .i64 ra] 25))
  have bb := (Below.refl _ w2).alloc (Nat.le_refl _) (.cells #[.int .i64 re, .int .i64 ra] 25)
  have B21 := b2.trans (bb.mono b2.size)
  have B2 := hide (B1.out.trans (B21.mono B1.out.size))
  have H2 := hide (hv2.below bb)
  have H12 := hide (H1.out.below B21)
  have F2 : Hid ((w2.alloc (.cells #[.int .i64 re, .int .i64 ra] 25)).heap[X1]? = some (.cells #[.int .i64 re, .int .i64 ra] 25 (0, 0))) := hide ((B21.block _ (Array.getElem?_eq_some_iff.1 n1.out).1).trans n1.out)
  clear P2 hv2 bb b2 B21 n1 B1 H1
  have f0 : (w2.alloc (.cells #[.int .i64 re, .int .i64 ra] 25)).cell? ⟨X1, 0, none⟩ = some (.int .i64 re) := cell_at 0 F2.out rfl
  have f1 : (w2.alloc (.cells #[.int .i64 re, .int .i64 ra] 25)).cell? ⟨X1, 1, none⟩ = some (.int .i64 ra) := cell_at 1 F2.out rfl
  have g0 : (w2.alloc (.cells #[.int .i64 re, .int .i64 ra] 25)).cell? ⟨w2.heap.size, 0, none⟩ = some (.int .i64 re) := cell_at 0 n2.out rfl
  have g1 : (w2.alloc (.cells #[.int .i64 re, .int .i64 ra] 25)).cell? ⟨w2.heap.size, 1, none⟩ = some (.int .i64 ra) := cell_at 1 n2.out rfl
  dsimp only
  go_wp2_with fail
  generalize w2.alloc _ = W2 at *
  generalize w2.heap.size = X3 at *
  have SE := hide (RClauses_same _ _ l _ (H12.out.below (drew_below _ W2)) (H2.out.below (drew_below _ W2)) HSH.out)
  have FW3 : Hid (W2.drew.heap[X1]? = some (.cells #[.int .i64 re, .int .i64 ra] 25 (0, 0))) := hide (drew_heap F2.out)
  have GW3 : Hid (W2.drew.heap[X3]? = some (.cells #[.int .i64 re, .int .i64 ra] 25 (0, 0))) := hide (drew_heap n2.out)
  have BW3 := hide (B2.out.trans (drew_below w.heap.size W2))
  clear H12 H2 F2 n2
  go_region_held3 (fun W' => W'.cell? ⟨X1, 0, none⟩ = some (.int .i64 re) ∧ W'.cell? ⟨X1, 1, none⟩ = some (.int .i64 ra) ∧ W'.cell? ⟨X3, 0, none⟩ = some (.int .i64 re) ∧ W'.cell? ⟨X3, 1, none⟩ = some (.int .i64 ra)) (go_keep) ((first
      | (go_at_call 13
         refine (AW.out _).mono ?_
         rintro e v6 ⟨rfl, bb⟩
         have Fv6 : Hid (v6.heap[X1]? = some (.cells #[.int .i64 re, .int .i64 ra] 25 (0, 0))) := hide ((bb.block _ (Array.getElem?_eq_some_iff.1 Fv5.out).1).trans Fv5.out)
         have Gv6 : Hid (v6.heap[X3]? = some (.cells #[.int .i64 re, .int .i64 ra] 25 (0, 0))) := hide ((bb.block _ (Array.getElem?_eq_some_iff.1 Gv5.out).1).trans Gv5.out)
         have Bv6 := hide (Bv5.out.trans (bb.mono Bv5.out.size))
         clear bb
         have f0 : v6.cell? ⟨X1, 0, none⟩ = some (.int .i64 re) := cell_at 0 Fv6.out rfl
         have f1 : v6.cell? ⟨X1, 1, none⟩ = some (.int .i64 ra) := cell_at 1 Fv6.out rfl
         have g0 : v6.cell? ⟨X3, 0, none⟩ = some (.int .i64 re) := cell_at 0 Gv6.out rfl
         have g1 : v6.cell? ⟨X3, 1, none⟩ = some (.int .i64 ra) := cell_at 1 Gv6.out rfl)
      | (go_at_call 12
         refine (VA.out _).mono ?_
         rintro e v5 ⟨rfl, bb⟩
         have Fv5 : Hid (v5.heap[X1]? = some (.cells #[.int .i64 re, .int .i64 ra] 25 (0, 0))) := hide ((bb.block _ (Array.getElem?_eq_some_iff.1 Fv4.out).1).trans Fv4.out)
         have Gv5 : Hid (v5.heap[X3]? = some (.cells #[.int .i64 re, .int .i64 ra] 25 (0, 0))) := hide ((bb.block _ (Array.getElem?_eq_some_iff.1 Gv4.out).1).trans Gv4.out)
         have Bv5 := hide (Bv4.out.trans (bb.mono Bv4.out.size))
         clear bb
         have f0 : v5.cell? ⟨X1, 0, none⟩ = some (.int .i64 re) := cell_at 0 Fv5.out rfl
         have f1 : v5.cell? ⟨X1, 1, none⟩ = some (.int .i64 ra) := cell_at 1 Fv5.out rfl
         have g0 : v5.cell? ⟨X3, 0, none⟩ = some (.int .i64 re) := cell_at 0 Gv5.out rfl
         have g1 : v5.cell? ⟨X3, 1, none⟩ = some (.int .i64 ra) := cell_at 1 Gv5.out rfl)
      | (go_at_call 11
         refine (SE.out).mono ?_
         rintro e v4 ⟨rfl, bb⟩
         have Fv4 : Hid (v4.heap[X1]? = some (.cells #[.int .i64 re, .int .i64 ra] 25 (0, 0))) := hide ((bb.block _ (Array.getElem?_eq_some_iff.1 FW3.out).1).trans FW3.out)
         have Gv4 : Hid (v4.heap[X3]? = some (.cells #[.int .i64 re, .int .i64 ra] 25 (0, 0))) := hide ((bb.block _ (Array.getElem?_eq_some_iff.1 GW3.out).1).trans GW3.out)
         have Bv4 := hide (BW3.out.trans (bb.mono BW3.out.size))
         clear bb
         have f0 : v4.cell? ⟨X1, 0, none⟩ = some (.int .i64 re) := cell_at 0 Fv4.out rfl
         have f1 : v4.cell? ⟨X1, 1, none⟩ = some (.int .i64 ra) := cell_at 1 Fv4.out rfl
         have g0 : v4.cell? ⟨X3, 0, none⟩ = some (.int .i64 re) := cell_at 0 Gv4.out rfl
         have g1 : v4.cell? ⟨X3, 1, none⟩ = some (.int .i64 ra) := cell_at 1 Gv4.out rfl)
      | fail))

  try dsimp only
  go_wp2_with fail
  go_ret
  exact ⟨rfl, Bv6.out⟩

end Go.Proofs.YtabmfdedbpmfmaaGreat
