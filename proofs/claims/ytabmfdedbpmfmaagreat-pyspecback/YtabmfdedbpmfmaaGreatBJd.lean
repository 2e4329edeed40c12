/-
  Walks: the chapter's examples. · Walks: PyspecBack.
-/
import Derived.Deep.Cut
import Derived.Test.YtabmfdedbpmfmaaGreatBIg
import Derived.Test.YtabmfdedbpmfmaaGreatBHw
namespace Go.Proofs.YtabmfdedbpmfmaaGreat
open Go.RowKit Go.Shelf
set_option linter.unusedVariables false

theorem fault_at (W : World) (e p : Int) : (W.alloc (.cells #[.int .i64 e, .int .i64 p] 25)).heap[W.heap.size]? = some (.cells #[.int .i64 e, .int .i64 p] 25 (0, 0)) := World.alloc_heap_new W _
set_option maxRecDepth 100000 in
set_option maxHeartbeats 8000000 in
theorem awake13_any (w : World) : Calls Tryz.prog 13 #[] w fun e w' => e = .returned (.bool true) ∧ Below w.heap.size w w' := by
  have P0 : Hid (∀ W, Calls Tryz.prog 9 #[.string ⟨#[61, 49]⟩] W fun e w' => Below W.heap.size W w' ∧ ∃ v, e = .returned (.tuple #[v, .agg #[.int .i64 10, .int .i64 1]])) := hide fun W => (Parse9_any ⟨#[61, 49]⟩ W).mono fun e w' h => by
    obtain ⟨h1, v, h2, _⟩ := h
    rw [show pyL (⟨#[61, 49]⟩ : ByteArray).data.toList = (10, 1, []) from ex_p0] at h2
    exact ⟨h1, v, h2⟩
  have P1 : Hid (∀ W, Calls Tryz.prog 9 #[.string ⟨#[62, 61, 49, 44, 44, 60, 50]⟩] W fun e w' => Below W.heap.size W w' ∧ ∃ v, e = .returned (.tuple #[v, .agg #[.int .i64 10, .int .i64 4]])) := hide fun W => (Parse9_any ⟨#[62, 61, 49, 44, 44, 60, 50]⟩ W).mono fun e w' h => by
    obtain ⟨h1, v, h2, _⟩ := h
    rw [show pyL (⟨#[62, 61, 49, 44, 44, 60, 50]⟩ : ByteArray).data.toList = (10, 4, []) from ex_p1] at h2
    exact ⟨h1, v, h2⟩
  have P2 : Hid (∀ W, Calls Tryz.prog 9 #[.string ⟨#[126, 61, 49]⟩] W fun e w' => Below W.heap.size W w' ∧ ∃ v, e = .returned (.tuple #[v, .agg #[.int .i64 19, .int .i64 2]])) := hide fun W => (Parse9_any ⟨#[126, 61, 49]⟩ W).mono fun e w' h => by
    obtain ⟨h1, v, h2, _⟩ := h
    rw [show pyL (⟨#[126, 61, 49]⟩ : ByteArray).data.toList = (19, 2, []) from ex_p2] at h2
    exact ⟨h1, v, h2⟩
  have M0 : Hid (∀ W, Calls Tryz.prog 22 #[.string ⟨#[62, 61, 49, 46, 48, 44, 32, 33, 61, 49, 46, 53, 46, 42, 44, 32, 60, 50]⟩, .string ⟨#[49, 46, 52]⟩] W fun e w' => e = .returned (.bool true) ∧ Below W.heap.size W w') := hide fun W => (Match22_any ⟨#[62, 61, 49, 46, 48, 44, 32, 33, 61, 49, 46, 53, 46, 42, 44, 32, 60, 50]⟩ ⟨#[49, 46, 52]⟩ W (by decide)).mono fun e w' h => by
    rw [show matchP (⟨#[62, 61, 49, 46, 48, 44, 32, 33, 61, 49, 46, 53, 46, 42, 44, 32, 60, 50]⟩ : ByteArray).data.toList (⟨#[49, 46, 52]⟩ : ByteArray).data.toList = true from ex_m0] at h
    exact h
  have M1 : Hid (∀ W, Calls Tryz.prog 22 #[.string ⟨#[62, 61, 49, 46, 48, 44, 32, 33, 61, 49, 46, 53, 46, 42, 44, 32, 60, 50]⟩, .string ⟨#[49, 46, 54, 46, 112, 111, 115, 116, 49]⟩] W fun e w' => e = .returned (.bool true) ∧ Below W.heap.size W w') := hide fun W => (Match22_any ⟨#[62, 61, 49, 46, 48, 44, 32, 33, 61, 49, 46, 53, 46, 42, 44, 32, 60, 50]⟩ ⟨#[49, 46, 54, 46, 112, 111, 115, 116, 49]⟩ W (by decide)).mono fun e w' h => by
    rw [show matchP (⟨#[62, 61, 49, 46, 48, 44, 32, 33, 61, 49, 46, 53, 46, 42, 44, 32, 60, 50]⟩ : ByteArray).data.toList (⟨#[49, 46, 54, 46, 112, 111, 115, 116, 49]⟩ : ByteArray).data.toList = true from ex_m1] at h
    exact h
  have M2 : Hid (∀ W, Calls Tryz.prog 22 #[.string ⟨#[62, 61, 49, 46, 48, 44, 32, 33, 61, 49, 46, 53, 46, 42, 44, 32, 60, 50]⟩, .string ⟨#[49, 46, 53, 46, 51]⟩] W fun e w' => e = .returned (.bool false) ∧ Below W.heap.size W w') := hide fun W => (Match22_any ⟨#[62, 61, 49, 46, 48, 44, 32, 33, 61, 49, 46, 53, 46, 42, 44, 32, 60, 50]⟩ ⟨#[49, 46, 53, 46, 51]⟩ W (by decide)).mono fun e w' h => by
    rw [show matchP (⟨#[62, 61, 49, 46, 48, 44, 32, 33, 61, 49, 46, 53, 46, 42, 44, 32, 60, 50]⟩ : ByteArray).data.toList (⟨#[49, 46, 53, 46, 51]⟩ : ByteArray).data.toList = false from ex_m2] at h
    exact h
  have M3 : Hid (∀ W, Calls Tryz.prog 22 #[.string ⟨#[62, 61, 49, 46, 48, 44, 32, 33, 61, 49, 46, 53, 46, 42, 44, 32, 60, 50]⟩, .string ⟨#[50, 46, 48, 97, 49]⟩] W fun e w' => e = .returned (.bool false) ∧ Below W.heap.size W w') := hide fun W => (Match22_any ⟨#[62, 61, 49, 46, 48, 44, 32, 33, 61, 49, 46, 53, 46, 42, 44, 32, 60, 50]⟩ ⟨#[50, 46, 48, 97, 49]⟩ W (by decide)).mono fun e w' h => by
    rw [show matchP (⟨#[62, 61, 49, 46, 48, 44, 32, 33, 61, 49, 46, 53, 46, 42, 44, 32, 60, 50]⟩ : ByteArray).data.toList (⟨#[50, 46, 48, 97, 49]⟩ : ByteArray).data.toList = false from ex_m3] at h
    exact h
  have M4 : Hid (∀ W, Calls Tryz.prog 22 #[.string ⟨#[62, 61, 49, 46, 48, 44, 32, 33, 61, 49, 46, 53, 46, 42, 44, 32, 60, 50]⟩, .string ⟨#[50, 46, 48]⟩] W fun e w' => e = .returned (.bool false) ∧ Below W.heap.size W w') := hide fun W => (Match22_any ⟨#[62, 61, 49, 46, 48, 44, 32, 33, 61, 49, 46, 53, 46, 42, 44, 32, 60, 50]⟩ ⟨#[50, 46, 48]⟩ W (by decide)).mono fun e w' h => by
    rw [show matchP (⟨#[62, 61, 49, 46, 48, 44, 32, 33, 61, 49, 46, 53, 46, 42, 44, 32, 60, 50]⟩ : ByteArray).data.toList (⟨#[50, 46, 48]⟩ : ByteArray).data.toList = false from ex_m4] at h
    exact h
  have M5 : Hid (∀ W, Calls Tryz.prog 22 #[.string ⟨#[126, 61, 49, 46, 52, 46, 50]⟩, .string ⟨#[49, 46, 52, 46, 57]⟩] W fun e w' => e = .returned (.bool true) ∧ Below W.heap.size W w') := hide fun W => (Match22_any ⟨#[126, 61, 49, 46, 52, 46, 50]⟩ ⟨#[49, 46, 52, 46, 57]⟩ W (by decide)).mono fun e w' h => by
    rw [show matchP (⟨#[126, 61, 49, 46, 52, 46, 50]⟩ : ByteArray).data.toList (⟨#[49, 46, 52, 46, 57]⟩ : ByteArray).data.toList = true from ex_m5] at h
    exact h
  have M6 : Hid (∀ W, Calls Tryz.prog 22 #[.string ⟨#[126, 61, 49, 46, 52, 46, 50]⟩, .string ⟨#[49, 46, 53]⟩] W fun e w' => e = .returned (.bool false) ∧ Below W.heap.size W w') := hide fun W => (Match22_any ⟨#[126, 61, 49, 46, 52, 46, 50]⟩ ⟨#[49, 46, 53]⟩ W (by decide)).mono fun e w' h => by
    rw [show matchP (⟨#[126, 61, 49, 46, 52, 46, 50]⟩ : ByteArray).data.toList (⟨#[49, 46, 53]⟩ : ByteArray).data.toList = false from ex_m6] at h
    exact h
  have M7 : Hid (∀ W, Calls Tryz.prog 22 #[.string ⟨#[61, 61, 49, 46, 49]⟩, .string ⟨#[49, 46, 49, 46, 48, 43, 108, 111, 99, 97, 108]⟩] W fun e w' => e = .returned (.bool true) ∧ Below W.heap.size W w') := hide fun W => (Match22_any ⟨#[61, 61, 49, 46, 49]⟩ ⟨#[49, 46, 49, 46, 48, 43, 108, 111, 99, 97, 108]⟩ W (by decide)).mono fun e w' h => by
    rw [show matchP (⟨#[61, 61, 49, 46, 49]⟩ : ByteArray).data.toList (⟨#[49, 46, 49, 46, 48, 43, 108, 111, 99, 97, 108]⟩ : ByteArray).data.toList = true from ex_m7] at h
    exact h
  have M8 : Hid (∀ W, Calls Tryz.prog 22 #[.string ⟨#[62, 49, 46, 55]⟩, .string ⟨#[49, 46, 55, 46, 49]⟩] W fun e w' => e = .returned (.bool true) ∧ Below W.heap.size W w') := hide fun W => (Match22_any ⟨#[62, 49, 46, 55]⟩ ⟨#[49, 46, 55, 46, 49]⟩ W (by decide)).mono fun e w' h => by
    rw [show matchP (⟨#[62, 49, 46, 55]⟩ : ByteArray).data.toList (⟨#[49, 46, 55, 46, 49]⟩ : ByteArray).data.toList = true from ex_m8] at h
    exact h
  have M9 : Hid (∀ W, Calls Tryz.prog 22 #[.string ⟨#[62, 49, 46, 55]⟩, .string ⟨#[49, 46, 55, 46, 48, 46, 112, 111, 115, 116, 49]⟩] W fun e w' => e = .returned (.bool false) ∧ Below W.heap.size W w') := hide fun W => (Match22_any ⟨#[62, 49, 46, 55]⟩ ⟨#[49, 46, 55, 46, 48, 46, 112, 111, 115, 116, 49]⟩ W (by decide)).mono fun e w' h => by
    rw [show matchP (⟨#[62, 49, 46, 55]⟩ : ByteArray).data.toList (⟨#[49, 46, 55, 46, 48, 46, 112, 111, 115, 116, 49]⟩ : ByteArray).data.toList = false from ex_m9] at h
    exact h
  have M10 : Hid (∀ W, Calls Tryz.prog 22 #[.string ⟨#[62, 61, 50, 46, 48, 97, 49]⟩, .string ⟨#[50, 46, 48, 98, 49]⟩] W fun e w' => e = .returned (.bool true) ∧ Below W.heap.size W w') := hide fun W => (Match22_any ⟨#[62, 61, 50, 46, 48, 97, 49]⟩ ⟨#[50, 46, 48, 98, 49]⟩ W (by decide)).mono fun e w' h => by
    rw [show matchP (⟨#[62, 61, 50, 46, 48, 97, 49]⟩ : ByteArray).data.toList (⟨#[50, 46, 48, 98, 49]⟩ : ByteArray).data.toList = true from ex_m10] at h
    exact h
  go_enter Tryz.func13, Tryz.ntmps13
  go_wp2_with fail
  refine (P0.out _).mono ?_
  rintro e w1 ⟨b1, v1, rfl⟩
  have h1 : Below w.heap.size w (w1.alloc (.cells #[.int .i64 10, .int .i64 1] 25)) := b1.alloc b1.size _
  have q1 := fault_at w1 10 1
  have z1 : w1.heap.size < (w1.alloc (.cells #[.int .i64 10, .int .i64 1] 25)).heap.size := by simp
  go_upto_region 3 with fail
  generalize w1.alloc _ = W1 at *
  go_wp2_with fail
  refine (P1.out _).mono ?_
  rintro e w2 ⟨b2, v2, rfl⟩
  have h2 : Below W1.heap.size W1 (w2.alloc (.cells #[.int .i64 10, .int .i64 4] 25)) := b2.alloc b2.size _
  have q2 := fault_at w2 10 4
  have z2 : w2.heap.size < (w2.alloc (.cells #[.int .i64 10, .int .i64 4] 25)).heap.size := by simp
  go_upto_region 4 with fail
  generalize w2.alloc _ = W2 at *
  go_wp2_with fail
  refine (P2.out _).mono ?_
  rintro e w3 ⟨b3, v3, rfl⟩
  have h3 : Below W2.heap.size W2 (w3.alloc (.cells #[.int .i64 19, .int .i64 2] 25)) := b3.alloc b3.size _
  have q3 := fault_at w3 19 2
  have z3 : w3.heap.size < (w3.alloc (.cells #[.int .i64 19, .int .i64 2] 25)).heap.size := by simp
  go_upto_region 5 with fail
  generalize w3.alloc _ = W3 at *
  have H1 := hide h1
  have H2 := hide h2
  have H3 := hide h3
  have Q1 := hide q1
  have Q2 := hide q2
  have Q3 := hide q3
  clear h1 h2 h3 q1 q2 q3 b1 b2 b3 P0 P1 P2
  go_wp2_with fail
  refine (M0.out _).mono ?_
  rintro e V0 ⟨rfl, c0⟩
  have C0 := hide c0
  clear c0
  go_wp2_with fail
  refine (M1.out _).mono ?_
  rintro e V1 ⟨rfl, c1⟩
  have C1 := hide (C0.out.trans (c1.mono C0.out.size))
  clear c1
  go_wp2_with fail
  refine (M2.out _).mono ?_
  rintro e V2 ⟨rfl, c2⟩
  have C2 := hide (C1.out.trans (c2.mono C1.out.size))
  clear c2
  go_wp2_with fail
  refine (M3.out _).mono ?_
  rintro e V3 ⟨rfl, c3⟩
  have C3 := hide (C2.out.trans (c3.mono C2.out.size))
  clear c3
  go_wp2_with fail
  refine (M4.out _).mono ?_
  rintro e V4 ⟨rfl, c4⟩
  have C4 := hide (C3.out.trans (c4.mono C3.out.size))
  clear c4
  go_wp2_with fail
  refine (M5.out _).mono ?_
  rintro e V5 ⟨rfl, c5⟩
  have C5 := hide (C4.out.trans (c5.mono C4.out.size))
  clear c5
  go_wp2_with fail
  refine (M6.out _).mono ?_
  rintro e V6 ⟨rfl, c6⟩
  have C6 := hide (C5.out.trans (c6.mono C5.out.size))
  clear c6
  go_wp2_with fail
  refine (M7.out _).mono ?_
  rintro e V7 ⟨rfl, c7⟩
  have C7 := hide (C6.out.trans (c7.mono C6.out.size))
  clear c7
  go_wp2_with fail
  refine (M8.out _).mono ?_
  rintro e V8 ⟨rfl, c8⟩
  have C8 := hide (C7.out.trans (c8.mono C7.out.size))
  clear c8
  go_wp2_with fail
  refine (M9.out _).mono ?_
  rintro e V9 ⟨rfl, c9⟩
  have C9 := hide (C8.out.trans (c9.mono C8.out.size))
  clear c9
  go_wp2_with fail
  refine (M10.out _).mono ?_
  rintro e V10 ⟨rfl, c10⟩
  have C10 := hide (C9.out.trans (c10.mono C9.out.size))
  have s1 := H2.out.size
  have s2 := H3.out.size
  have s3 := C10.out.size
  have e3 := (C10.out.block _ z3).trans Q3.out
  have e2 := (C10.out.block _ (by omega)).trans ((H3.out.block _ z2).trans Q2.out)
  have e1 := (C10.out.block _ (by omega)).trans ((H3.out.block _ (by omega)).trans ((H2.out.block _ z1).trans Q1.out))
  have a1 := cell_at 0 e1 rfl
  have a2 := cell_at 1 e1 rfl
  have a3 := cell_at 0 e2 rfl
  have a4 := cell_at 1 e2 rfl
  have a5 := cell_at 0 e3 rfl
  have a6 := cell_at 1 e3 rfl
  have HF := hide (H1.out.trans ((H2.out.trans ((H3.out.trans (C10.out.mono (by omega))).mono (by omega))).mono (by have := H1.out.size; omega)))
  clear e1 e2 e3
  clear c10
  go_wp2_with fail
  go_ret
  exact ⟨rfl, HF.out⟩

end Go.Proofs.YtabmfdedbpmfmaaGreat

namespace Go.Proofs.YtabmfdedbpmfmaaGreat
open Go.RowKit Go.Shelf
set_option linter.unusedVariables false

theorem wrL_join : ∀ cs : List Cl, joinT (cs.map triC) = wrL cs
  | [] => rfl
  | [c] => by simp [joinT, Lib.join, wrL, List.intercalate, wrT, triC, wrC, wdC]
  | c :: d :: r => by
    have ih := wrL_join (d :: r)
    unfold joinT Lib.join at ih ⊢
    simp only [List.map_cons, List.intercalate] at ih ⊢
    rw [List.intersperse_cons_cons, List.flatten_cons, List.flatten_cons, ih]
    simp [wrL, wrT, triC, wrC, wdC]
theorem go_bad (l : List UInt8) : ∀ (n a : Nat) (acc : List Cl) (e : Int) (p : Nat) (cs : List Cl), pyGo l n a acc = (e, p, cs) → e ≠ 0 → cs = []
  | 0, _, _, _, _, _, h, _ => by unfold pyGo at h; cases h; rfl
  | n + 1, a, acc, e, p, cs, h, he => by
    unfold pyGo at h
    split at h
    · cases h; rfl
    · split at h
      · cases h; rfl
      · split at h
        · exact go_bad l n _ _ e p cs h he
        · cases h; exact absurd rfl he
theorem py_bad {l : List UInt8} {e : Int} {p : Nat} {cs : List Cl} (h : pyL l = (e, p, cs)) (he : e ≠ 0) : cs = [] := by
  unfold pyL at h
  split at h
  · cases h; rfl
  · split at h
    · cases h; rfl
    · exact go_bad l 33 0 [] e p cs h he
theorem go_zero (l : List UInt8) : ∀ (n a : Nat) (acc : List Cl) (p : Nat) (cs : List Cl), pyGo l n a acc = (0, p, cs) → p = 0
  | 0, _, _, _, _, h => by unfold pyGo at h; cases h
  | n + 1, a, acc, p, cs, h => by
    unfold pyGo at h
    split at h
    · cases h
    · split at h
      · rename_i h1
        rw [Prod.mk.injEq] at h
        exact absurd h.1 h1
      · split at h
        · exact go_zero l n _ _ p cs h
        · cases h; rfl
theorem py_zero {l : List UInt8} {p : Nat} {cs : List Cl} (h : pyL l = (0, p, cs)) : p = 0 := by
  unfold pyL at h
  split at h
  · cases h
  · split at h
    · cases h; rfl
    · exact go_zero l 33 0 [] p cs h
theorem core_map {α : Type} (f : Cl → α) (g : Nat × PepL × List UInt8 × Bool → α) (hf : ∀ c, f c = g (coreC c)) {ds cs : List Cl} (h : ds.map coreC = cs.map coreC) : ds.map f = cs.map f := by
  have e : ∀ xs : List Cl, xs.map f = (xs.map coreC).map g := fun xs => by
    rw [List.map_map]
    exact List.map_congr_left fun x _ => hf x
  rw [e, e, h]
theorem core_tri {ds cs : List Cl} (h : ds.map coreC = cs.map coreC) : ds.map triC = cs.map triC := core_map triC (fun q => (sgn q.1, q.2.2.1, q.2.2.2)) (fun _ => rfl) h
theorem PyAt.same {W : World} {v : Value} {ds cs : List Cl} (h : PyAt W v ds) (hs : ds.map coreC = cs.map coreC) : PyAt W v cs := by
  obtain ⟨a, c, rfl, h1⟩ := h
  have hl : ds.length = cs.length := by simpa using congrArg List.length hs
  have hp : ds.map plL = cs.map plL := core_map plL (fun q => [.string (ofL (sgn q.1)), .string (ofL q.2.2.1), .bool q.2.2.2]) (fun _ => rfl) hs
  have hf : ds.flatMap plL = cs.flatMap plL := by rw [List.flatMap_def, List.flatMap_def, hp]
  refine ⟨a, c, by rw [hl], ?_⟩
  rcases h1 with h1 | h1
  · left
    apply List.length_eq_zero_iff.1
    rw [← hl, h1]
    rfl
  · right
    rw [← hf]
    exact h1
theorem py_fmt {l : List UInt8} {p : Nat} {cs : List Cl} (h : pyL l = (0, p, cs)) :
    SmallT (cs.map triC) ∧ (fmtT (cs.map triC)).length ≤ l.length ∧ ∃ ds, pyL (fmtT (cs.map triC)) = (0, 0, ds) ∧ ds.map coreC = cs.map coreC := by
  obtain ⟨h1, h2, h3, h4⟩ := py_wr h
  obtain ⟨ds, e1, e2⟩ := py_there h
  have hk := pyL_ok l
  rw [h] at hk
  have hf : fmtT (cs.map triC) = wrL cs := by
    unfold fmtT
    rw [wrL_join, e1, if_pos (core_tri e2)]
  refine ⟨⟨by rw [List.length_map]; omega, fun q hq => ?_⟩, by rw [hf]; exact h3, ds, by rw [hf]; exact e1, e2⟩
  obtain ⟨c, hc, rfl⟩ := List.mem_map.1 hq
  have := (hk c hc).tl
  have := sgn_len c.k
  unfold triC
  dsimp only
  omega

set_option maxRecDepth 100000 in
set_option maxHeartbeats 4000000 in
theorem back_walk (s : ByteArray) (w : World) : Calls Tryz.prog 6 #[.string s] w fun e w' => e = .returned (.bool true) ∧ Below w.heap.size w w' := by
  have P1 := hide (fun W => Parse9_any s W)
  have AW := hide awake13_any
  have HLN := hide (Nat.le_trans (pyL_len s.data.toList) (show 33 ≤ 1048576 by decide))
  unfold PfPost at P1
  by_cases he : (pyL s.data.toList).1 = 0
  · obtain ⟨p, cs, hR⟩ : ∃ p cs, pyL s.data.toList = (0, p, cs) := ⟨_, _, Prod.ext he rfl⟩
    rw [hR] at P1 HLN
    obtain ⟨hsm, hle, ds, hd1, hd2⟩ := py_fmt hR
    obtain rfl := py_zero hR
    have F14 := fun v W (h : PyAt W v cs) => Format14_any v (cs.map triC) W h.tri hsm
    have P2 := fun W => Parse9_any (ofL (fmtT (cs.map triC))) W
    rw [ofL_data, hd1] at P2
    unfold PfPost at P2
    have hle2 : (((ofL (fmtT (cs.map triC))).size : Nat) : Int) ≤ (s.size : Int) := by rw [ofL_size]; rw [len_data] at hle; omega
    have HD := hide hd2
    have F14 := hide F14
    have P2 := hide P2
    generalize ofL (fmtT (cs.map triC)) = T at *
    clear he hR hsm hle hd1 hd2
    dsimp only at *
    go_enter Tryz.func6, Tryz.ntmps6
    go_wp2_with fail
    refine (P1.out _).mono ?_
    rintro e w1 ⟨b1, v1, rfl, hv1, _⟩
    obtain ⟨a1, k1, rfl, _⟩ := id hv1
    have n1 := hide (World.alloc_heap_new w1 (.cells #[.int .i64 0, .int .i64 0] 25))
    have bb := (Below.refl _ w1).alloc (Nat.le_refl _) (.cells #[.int .i64 0, .int .i64 0] 25)
    have B1 := hide (b1.trans (bb.mono b1.size))
    have H1 := hide (hv1.below bb)
    have f0 : (w1.alloc (.cells #[.int .i64 0, .int .i64 0] 25)).cell? ⟨w1.heap.size, 0, none⟩ = some (.int .i64 0) := cell_at 0 n1.out rfl
    clear P1 hv1 bb b1
    go_upto_region 2 with fail
    have F := hide (F14.out _ _ H1.out)
    generalize w1.alloc _ = W1 at *
    generalize w1.heap.size = X1 at *
    go_wp2_with fail
    refine (F.out).mono ?_
    rintro e w2 ⟨rfl, b2⟩
    have B2 := hide (B1.out.trans (b2.mono B1.out.size))
    have H2 := hide (H1.out.below b2)
    clear b2 F F14
    go_wp2_with fail
    refine (P2.out _).mono ?_
    rintro e w3 ⟨b3, v3, rfl, hv3, _⟩
    obtain ⟨a3, k3, rfl, _⟩ := id hv3
    have n3 := hide (World.alloc_heap_new w3 (.cells #[.int .i64 0, .int .i64 0] 25))
    have bb := (Below.refl _ w3).alloc (Nat.le_refl _) (.cells #[.int .i64 0, .int .i64 0] 25)
    have B31 := b3.trans (bb.mono b3.size)
    have B3 := hide (B2.out.trans (B31.mono B2.out.size))
    have H3 := hide (H2.out.below B31)
    have hl3 : ds.length = cs.length := by simpa using congrArg List.length HD.out
    have H4 := hide ((hv3.below bb).same HD.out)
    rw [hl3] at H4
    have g0 : (w3.alloc (.cells #[.int .i64 0, .int .i64 0] 25)).cell? ⟨w3.heap.size, 0, none⟩ = some (.int .i64 0) := cell_at 0 n3.out rfl
    have g1 : (w3.alloc (.cells #[.int .i64 0, .int .i64 0] 25)).cell? ⟨w3.heap.size, 1, none⟩ = some (.int .i64 0) := cell_at 1 n3.out rfl
    clear hv3 bb b3 B31 P2
    go_upto_region 6 with fail
    have SE := hide (RClauses_same _ _ cs _ H3.out H4.out HLN.out)
    generalize w3.alloc _ = W3 at *
    generalize w3.heap.size = X3 at *
    go_wp2_with fail
    refine (SE.out).mono ?_
    rintro e w4 ⟨rfl, b4⟩
    have B4 := hide (B3.out.trans (b4.mono B3.out.size))
    clear b4
    go_wp2_with fail
    refine (AW.out _).mono ?_
    rintro e w5 ⟨rfl, b5⟩
    have B5 := hide (B4.out.trans (b5.mono B4.out.size))
    clear b5
    go_wp2_with fail
    go_ret
    exact ⟨rfl, B5.out⟩
  · obtain ⟨er, p, cs, hR⟩ : ∃ er p cs, pyL s.data.toList = (er, p, cs) := ⟨_, _, _, rfl⟩
    rw [hR] at P1 he HLN
    dsimp only at *
    obtain rfl := py_bad hR he
    have he1 : (er == 0) = false := by simpa using he
    have he2 : (er != 0) = true := by simpa using he
    clear hR
    go_enter Tryz.func6, Tryz.ntmps6
    go_wp2_with fail
    refine (P1.out _).mono ?_
    rintro e w1 ⟨b1, v1, rfl, hv1, _⟩
    obtain ⟨a1, k1, rfl, _⟩ := id hv1
    have n1 := hide (World.alloc_heap_new w1 (.cells #[.int .i64 er, .int .i64 (p : Int)] 25))
    have bb := (Below.refl _ w1).alloc (Nat.le_refl _) (.cells #[.int .i64 er, .int .i64 (p : Int)] 25)
    have B1 := hide (b1.trans (bb.mono b1.size))
    have f0 : (w1.alloc (.cells #[.int .i64 er, .int .i64 (p : Int)] 25)).cell? ⟨w1.heap.size, 0, none⟩ = some (.int .i64 er) := cell_at 0 n1.out rfl
    clear P1 hv1 bb b1
    go_upto_region 2 with fail
    generalize w1.alloc _ = W1 at *
    go_wp2_with fail
    refine (AW.out _).mono ?_
    rintro e w5 ⟨rfl, b5⟩
    have B5 := hide (B1.out.trans (b5.mono B1.out.size))
    clear b5
    go_wp2_with fail
    go_ret
    exact ⟨rfl, B5.out⟩

end Go.Proofs.YtabmfdedbpmfmaaGreat
