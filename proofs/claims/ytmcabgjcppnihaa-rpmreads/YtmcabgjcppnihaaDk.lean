/-
  Walks: the chapter's examples.
-/
import Derived.Test.YtmcabgjcppnihaaDi
namespace Go.Proofs.Ytmcabgjcppnihaa
open Go.RowKit Go.Shelf
set_option linter.unusedVariables false

theorem lies23 {W W' : World} {a b : Array Value} (hb : Below ((W.alloc (.cells a 23)).alloc (.cells b 26)).heap.size ((W.alloc (.cells a 23)).alloc (.cells b 26)) W') :
    W'.heap[W.heap.size]? = some (.cells a 23 (0, 0)) ∧ W'.heap[W.heap.size + 1]? = some (.cells b 26 (0, 0)) := by
  constructor
  · refine (hb.block _ (by simp; omega)).trans ?_
    rw [Below.heap_alloc _ _ _ (by simp)]
    exact World.alloc_heap_new W _
  · refine (hb.block _ (by simp)).trans ?_
    have := World.alloc_heap_new (W.alloc (.cells a 23)) (.cells b 26)
    rwa [World.size_alloc] at this
theorem carry {W W' : World} {k : Nat} {o : Obj} (hb : Below W.heap.size W W') (h : W.heap[k]? = some o) : W'.heap[k]? = some o := (hb.block k (Array.getElem?_eq_some_iff.1 h).1).trans h
theorem carry2 {W W' : World} {k : Nat} {o a b : Obj} (hb : Below ((W.alloc a).alloc b).heap.size ((W.alloc a).alloc b) W') (h : W.heap[k]? = some o) : W'.heap[k]? = some o := by
  have hk := (Array.getElem?_eq_some_iff.1 h).1
  exact carry hb ((Below.heap_alloc _ _ _ (by simp; omega)).trans ((Below.heap_alloc _ _ _ hk).trans h))
theorem step2 {w W W' : World} {a b : Obj} (h : Below w.heap.size w W) (hb : Below ((W.alloc a).alloc b).heap.size ((W.alloc a).alloc b) W') : Below w.heap.size w W' := by
  have h1 := h.alloc h.size a
  have h2 := h1.alloc h1.size b
  exact h2.trans (hb.mono h2.size)
theorem step1 {w W W' : World} (h : Below w.heap.size w W) (hb : Below W.heap.size W W') : Below w.heap.size w W' := h.trans (hb.mono h.size)

theorem ex1 : parseL [50, 58, 49, 46, 48, 45, 51] = .ok ⟨[50], [49, 46, 48], [51], true⟩ := by kernel_rfl
theorem ex2 : parseL [49, 46, 48, 45] = .error (11, 4) := by kernel_rfl
theorem ex3 : parseL [49, 58, 50, 58, 51] = .error (10, 3) := by kernel_rfl
theorem ex4 : partO [49, 46, 48, 126, 114, 99, 49] [49, 46, 48] = -1 := by kernel_rfl
theorem ex5 : partO [49, 46, 48, 94, 103, 105, 116, 49] [49, 46, 48] = 1 := by kernel_rfl
theorem ex6 : partO [49, 46, 48, 94, 103, 105, 116, 49] [49, 46, 48, 46, 49] = -1 := by kernel_rfl
theorem ex7 : partO [49, 46, 48, 53] [49, 46, 53] = 0 := by kernel_rfl
theorem ex8 : partO [97] [49] = -1 := by kernel_rfl
theorem ex9 : cmpT [49, 46, 48] [49, 46, 48, 45, 49] = -1 := by kernel_rfl
theorem seg_ex (a b : ByteArray) (x : Int) (h : partO a.data.toList b.data.toList = x) (ha : a.size ≤ 64) (hb : b.size ≤ 64) (w : World) :
    Calls Try.prog 10 #[.string a, .string b] w fun e w' => e = .returned (.int .i64 x) ∧ Below w.heap.size w w' := by
  subst h
  exact Segments_any a b w (by omega) (by omega)

set_option maxRecDepth 100000 in
set_option maxHeartbeats 2000000 in
theorem awake_any (w : World) :
    Calls Try.prog 14 #[] w fun e w' => e = .returned (.bool true) ∧ Below w.heap.size w w' := by
  have P1 := fun W => Parse_any ⟨#[50, 58, 49, 46, 48, 45, 51]⟩ W
  have P2 := fun W => Parse_any ⟨#[49, 46, 48, 45]⟩ W
  have P3 := fun W => Parse_any ⟨#[49, 58, 50, 58, 51]⟩ W
  rw [pres_ok (show parseL (ByteArray.mk #[50, 58, 49, 46, 48, 45, 51]).data.toList = .ok ⟨[50], [49, 46, 48], [51], true⟩ from ex1)] at P1
  rw [pres_err (show parseL (ByteArray.mk #[49, 46, 48, 45]).data.toList = .error (11, 4) from ex2)] at P2
  rw [pres_err (show parseL (ByteArray.mk #[49, 58, 50, 58, 51]).data.toList = .error (10, 3) from ex3)] at P3
  dsimp only at P1 P2 P3
  have P1 := hide P1
  have P2 := hide P2
  have P3 := hide P3
  have S1 := hide (seg_ex ⟨#[49, 46, 48, 126, 114, 99, 49]⟩ ⟨#[49, 46, 48]⟩ _ ex4 (by decide) (by decide))
  have S2 := hide (seg_ex ⟨#[49, 46, 48, 94, 103, 105, 116, 49]⟩ ⟨#[49, 46, 48]⟩ _ ex5 (by decide) (by decide))
  have S3 := hide (seg_ex ⟨#[49, 46, 48, 94, 103, 105, 116, 49]⟩ ⟨#[49, 46, 48, 46, 49]⟩ _ ex6 (by decide) (by decide))
  have S4 := hide (seg_ex ⟨#[49, 46, 48, 53]⟩ ⟨#[49, 46, 53]⟩ _ ex7 (by decide) (by decide))
  have S5 := hide (seg_ex ⟨#[97]⟩ ⟨#[49]⟩ _ ex8 (by decide) (by decide))
  have C1 : Hid (∀ W, Calls Try.prog 12 #[.string ⟨#[49, 46, 48]⟩, .string ⟨#[49, 46, 48, 45, 49]⟩] W fun e w' => e = .returned (.int .i64 (-1)) ∧ Below W.heap.size W w') := fun W => by
    have := CompareT_any ⟨#[49, 46, 48]⟩ ⟨#[49, 46, 48, 45, 49]⟩ W
    rwa [show cmpT (ByteArray.mk #[49, 46, 48]).data.toList (ByteArray.mk #[49, 46, 48, 45, 49]).data.toList = -1 from ex9] at this
  go_enter Try.func14, Try.ntmps14
  go_wp2_with fail
  refine (P1.out _).mono ?_
  rintro e w1 ⟨rfl, b1⟩
  go_wp2_with fail
  refine (P2.out _).mono ?_
  rintro e w2 ⟨rfl, b2⟩
  obtain ⟨eA, eF⟩ := lies23 b2
  have B2 := step2 b1 b2
  clear b1 b2
  go_wp2_with fail
  refine (P3.out _).mono ?_
  rintro e w3 ⟨rfl, b3⟩
  obtain ⟨_, eG⟩ := lies23 b3
  have eA := carry2 b3 eA
  have eF := carry2 b3 eF
  have B3 := step2 B2 b3
  clear B2 b3
  go_wp2_with fail
  refine (S1.out _).mono ?_
  rintro e w4 ⟨rfl, b4⟩
  obtain ⟨_, eH⟩ := lies23 b4
  have eA := carry2 b4 eA
  have eF := carry2 b4 eF
  have eG := carry2 b4 eG
  have B4 := step2 B3 b4
  clear B3 b4
  go_wp2_with fail
  refine (S2.out _).mono ?_
  rintro e w5 ⟨rfl, b5⟩
  have eA := carry b5 eA
  have eF := carry b5 eF
  have eG := carry b5 eG
  have eH := carry b5 eH
  have B5 := step1 B4 b5
  clear B4 b5
  go_wp2_with fail
  refine (S3.out _).mono ?_
  rintro e w6 ⟨rfl, b6⟩
  have eA := carry b6 eA
  have eF := carry b6 eF
  have eG := carry b6 eG
  have eH := carry b6 eH
  have B6 := step1 B5 b6
  clear B5 b6
  go_wp2_with fail
  refine (S4.out _).mono ?_
  rintro e w7 ⟨rfl, b7⟩
  have eA := carry b7 eA
  have eF := carry b7 eF
  have eG := carry b7 eG
  have eH := carry b7 eH
  have B7 := step1 B6 b7
  clear B6 b7
  go_wp2_with fail
  refine (S5.out _).mono ?_
  rintro e w8 ⟨rfl, b8⟩
  have eA := carry b8 eA
  have eF := carry b8 eF
  have eG := carry b8 eG
  have eH := carry b8 eH
  have B8 := step1 B7 b8
  clear B7 b8
  have a0 := cell_at 0 eA rfl
  have a1 := cell_at 1 eA rfl
  have a2 := cell_at 2 eA rfl
  have a3 := cell_at 3 eA rfl
  have f0 := cell_at 0 eF rfl
  have f1 := cell_at 1 eF rfl
  have g0 := cell_at 0 eG rfl
  have g1 := cell_at 1 eG rfl
  have h0 := cell_at 0 eH rfl
  have h1 := cell_at 1 eH rfl
  have k1 : ((ofL [50]).toList == [50]) = true := by rw [toL, ofL_data]; rfl
  have k2 : ((ofL [49, 46, 48]).toList == [49, 46, 48]) = true := by rw [toL, ofL_data]; rfl
  have k3 : ((ofL [51]).toList == [51]) = true := by rw [toL, ofL_data]; rfl
  go_wp2_with fail
  refine (C1.out _).mono ?_
  rintro e w9 ⟨rfl, b9⟩
  go_wp2_with fail
  go_ret
  exact ⟨rfl, step1 B8 b9⟩

end Go.Proofs.Ytmcabgjcppnihaa
