/-
  Walks: what the document's operators mean, the first four.
-/
import Derived.Test.YtpdlgiioahjhiaaGreatQLu
namespace Go.Proofs.YtpdlgiioahjhiaaGreat
open Go.RowKit Go.Shelf
set_option linter.unusedVariables false

variable {A : Nat → Prop}

set_option maxRecDepth 100000 in
set_option maxHeartbeats 4000000 in
theorem means_eq0_0 (t : ByteArray) (htl : t.data.toList = []) (a b c : List UInt8) (pr : List (List UInt8)) (x : Option Addr) (n m : Nat) (w : World) (hA : ∀ b, w.heap.size ≤ b → A b) (ht : Txt w (.slice x n m) pr) (hc : CapA A (.slice x n m)) (l1 : a.length ≤ 1024) (l2 : b.length ≤ 1024) (l3 : c.length ≤ 1024) :
    Calls Tryz.prog 98 #[.string t, .agg #[.string (ofL a), .string (ofL b), .string (ofL c), .slice x n m, .int .i64 0]] w (CompsR A w []) := by
  have g0 : t.toList.isEmpty = true := by rw [toL, htl]; rfl
  have g61 : (t.toList == [61]) = false := by rw [toL, htl]; rfl
  have g62 : (t.toList == [62]) = false := by rw [toL, htl]; rfl
  have g62_61 : (t.toList == [62, 61]) = false := by rw [toL, htl]; rfl
  have g60 : (t.toList == [60]) = false := by rw [toL, htl]; rfl
  have g60_61 : (t.toList == [60, 61]) = false := by rw [toL, htl]; rfl
  have g126 : (t.toList == [126]) = false := by rw [toL, htl]; rfl
  have HA := hide hA
  have T0 := hide ht
  have C0 := hide hc
  clear htl hA ht hc
  have b0 := hide ((Below.refl _ w).alloc (Nat.le_refl _) (.cells #[.string (ofL a), .string (ofL b), .string (ofL c), .slice x n m, .int .i64 0] 123))
  have n0 := World.alloc_heap_new w (.cells #[.string (ofL a), .string (ofL b), .string (ofL c), .slice x n m, .int .i64 0] 123)
  clear n0

  go_enter Tryz.func98, Tryz.ntmps98
  go_wp2_with fail
  go_ret
  exact ⟨b0.out, _, [], rfl, World.ownsRow_nil _ _ _ _, rfl⟩

set_option maxRecDepth 100000 in
set_option maxHeartbeats 4000000 in
theorem means_eq0_1 (t : ByteArray) (htl : t.data.toList = []) (a b c : List UInt8) (pr : List (List UInt8)) (x : Option Addr) (n m : Nat) (w : World) (hA : ∀ b, w.heap.size ≤ b → A b) (ht : Txt w (.slice x n m) pr) (hc : CapA A (.slice x n m)) (l1 : a.length ≤ 1024) (l2 : b.length ≤ 1024) (l3 : c.length ≤ 1024) :
    Calls Tryz.prog 98 #[.string t, .agg #[.string (ofL a), .string (ofL b), .string (ofL c), .slice x n m, .int .i64 1]] w (CompsR A w [(4, (⟨zN a, zN b, zN c, pr, []⟩ : SemL)), (1, nxD a b c 0)]) := by
  have g0 : t.toList.isEmpty = true := by rw [toL, htl]; rfl
  have g61 : (t.toList == [61]) = false := by rw [toL, htl]; rfl
  have g62 : (t.toList == [62]) = false := by rw [toL, htl]; rfl
  have g62_61 : (t.toList == [62, 61]) = false := by rw [toL, htl]; rfl
  have g60 : (t.toList == [60]) = false := by rw [toL, htl]; rfl
  have g60_61 : (t.toList == [60, 61]) = false := by rw [toL, htl]; rfl
  have g126 : (t.toList == [126]) = false := by rw [toL, htl]; rfl
  have HA := hide hA
  have T0 := hide ht
  have C0 := hide hc
  clear htl hA ht hc
  have b0 := hide ((Below.refl _ w).alloc (Nat.le_refl _) (.cells #[.string (ofL a), .string (ofL b), .string (ofL c), .slice x n m, .int .i64 1] 123))
  have n0 := World.alloc_heap_new w (.cells #[.string (ofL a), .string (ofL b), .string (ofL c), .slice x n m, .int .i64 1] 123)

  go_enter Tryz.func98, Tryz.ntmps98
  go_wp2_with fail

  generalize w.alloc _ = W0 at *
  have hl0 := hide (Array.getElem?_eq_some_iff.1 n0).1
  have N0 := hide n0
  clear n0
  have q0 := cell_at 0 N0.out rfl
  have q1 := cell_at 1 N0.out rfl
  have q2 := cell_at 2 N0.out rfl
  have q3 := cell_at 3 N0.out rfl
  have q4 := cell_at 4 N0.out rfl

  have bD := hide (b0.out.trans (drew_below w.heap.size W0))
  go_region_held3 (fun W' => W'.cell? ⟨w.heap.size, 0, none⟩ = some (.string (ofL a)) ∧ W'.cell? ⟨w.heap.size, 1, none⟩ = some (.string (ofL b)) ∧ W'.cell? ⟨w.heap.size, 2, none⟩ = some (.string (ofL c)) ∧ W'.cell? ⟨w.heap.size, 3, none⟩ = some (.slice x n m) ∧ W'.cell? ⟨w.heap.size, 4, none⟩ = some (.int .i64 1)) (go_keep) ((first
    | (go_at_call 133
       refine (between_any (A := A) a b c pr x n m 1 0 (by omega) w1 (fun b hb => HA.out b (Nat.le_trans B1.out.size hb)) (T0.out.below B1.out) C0.out l1 l2 l3).mono ?_
       rintro e w2 h2
       have HR := hide (h2.back B1.out)
       have P2 : Hid (w2.heap[w.heap.size]? = some (.cells #[.string (ofL a), .string (ofL b), .string (ofL c), .slice x n m, .int .i64 1] 123 (0, 0))) := (h2.1.block w.heap.size LT1.out).trans P1.out
       have e0 : w2.cell? ⟨w.heap.size, 0, none⟩ = some (.string (ofL a)) := cell_at 0 P2.out rfl
       have e1 : w2.cell? ⟨w.heap.size, 1, none⟩ = some (.string (ofL b)) := cell_at 1 P2.out rfl
       have e2 : w2.cell? ⟨w.heap.size, 2, none⟩ = some (.string (ofL c)) := cell_at 2 P2.out rfl
       have e3 : w2.cell? ⟨w.heap.size, 3, none⟩ = some (.slice x n m) := cell_at 3 P2.out rfl
       have e4 : w2.cell? ⟨w.heap.size, 4, none⟩ = some (.int .i64 1) := cell_at 4 P2.out rfl
       obtain ⟨_, v2, x2, rfl, _⟩ := h2)
    | (go_at_call 134
       refine (rlast_any a b c x n m 1 _ (by omega)).mono ?_
       rintro e w1 ⟨rfl, hf0⟩
       have B1 := hide (bD.out.trans (hf0.mono bD.out.size))
       have P1 : Hid (w1.heap[w.heap.size]? = some (.cells #[.string (ofL a), .string (ofL b), .string (ofL c), .slice x n m, .int .i64 1] 123 (0, 0))) := (hf0.block w.heap.size hl0.out).trans N0.out
       have LT1 : Hid (w.heap.size < w1.heap.size) := (Array.getElem?_eq_some_iff.1 P1.out).1
       have e0 : w1.cell? ⟨w.heap.size, 0, none⟩ = some (.string (ofL a)) := cell_at 0 P1.out rfl
       have e1 : w1.cell? ⟨w.heap.size, 1, none⟩ = some (.string (ofL b)) := cell_at 1 P1.out rfl
       have e2 : w1.cell? ⟨w.heap.size, 2, none⟩ = some (.string (ofL c)) := cell_at 2 P1.out rfl
       have e3 : w1.cell? ⟨w.heap.size, 3, none⟩ = some (.slice x n m) := cell_at 3 P1.out rfl
       have e4 : w1.cell? ⟨w.heap.size, 4, none⟩ = some (.int .i64 1) := cell_at 4 P1.out rfl
       clear hf0)
    | fail))
  try dsimp only
  go_wp2_with fail
  go_ret
  exact HR.out

set_option maxRecDepth 100000 in
set_option maxHeartbeats 4000000 in
theorem means_eq0_2 (t : ByteArray) (htl : t.data.toList = []) (a b c : List UInt8) (pr : List (List UInt8)) (x : Option Addr) (n m : Nat) (w : World) (hA : ∀ b, w.heap.size ≤ b → A b) (ht : Txt w (.slice x n m) pr) (hc : CapA A (.slice x n m)) (l1 : a.length ≤ 1024) (l2 : b.length ≤ 1024) (l3 : c.length ≤ 1024) :
    Calls Tryz.prog 98 #[.string t, .agg #[.string (ofL a), .string (ofL b), .string (ofL c), .slice x n m, .int .i64 2]] w (CompsR A w [(4, (⟨zN a, zN b, zN c, pr, []⟩ : SemL)), (1, nxD a b c 1)]) := by
  have g0 : t.toList.isEmpty = true := by rw [toL, htl]; rfl
  have g61 : (t.toList == [61]) = false := by rw [toL, htl]; rfl
  have g62 : (t.toList == [62]) = false := by rw [toL, htl]; rfl
  have g62_61 : (t.toList == [62, 61]) = false := by rw [toL, htl]; rfl
  have g60 : (t.toList == [60]) = false := by rw [toL, htl]; rfl
  have g60_61 : (t.toList == [60, 61]) = false := by rw [toL, htl]; rfl
  have g126 : (t.toList == [126]) = false := by rw [toL, htl]; rfl
  have HA := hide hA
  have T0 := hide ht
  have C0 := hide hc
  clear htl hA ht hc
  have b0 := hide ((Below.refl _ w).alloc (Nat.le_refl _) (.cells #[.string (ofL a), .string (ofL b), .string (ofL c), .slice x n m, .int .i64 2] 123))
  have n0 := World.alloc_heap_new w (.cells #[.string (ofL a), .string (ofL b), .string (ofL c), .slice x n m, .int .i64 2] 123)

  go_enter Tryz.func98, Tryz.ntmps98
  go_wp2_with fail

  generalize w.alloc _ = W0 at *
  have hl0 := hide (Array.getElem?_eq_some_iff.1 n0).1
  have N0 := hide n0
  clear n0
  have q0 := cell_at 0 N0.out rfl
  have q1 := cell_at 1 N0.out rfl
  have q2 := cell_at 2 N0.out rfl
  have q3 := cell_at 3 N0.out rfl
  have q4 := cell_at 4 N0.out rfl

  have bD := hide (b0.out.trans (drew_below w.heap.size W0))
  go_region_held3 (fun W' => W'.cell? ⟨w.heap.size, 0, none⟩ = some (.string (ofL a)) ∧ W'.cell? ⟨w.heap.size, 1, none⟩ = some (.string (ofL b)) ∧ W'.cell? ⟨w.heap.size, 2, none⟩ = some (.string (ofL c)) ∧ W'.cell? ⟨w.heap.size, 3, none⟩ = some (.slice x n m) ∧ W'.cell? ⟨w.heap.size, 4, none⟩ = some (.int .i64 2)) (go_keep) ((first
    | (go_at_call 133
       refine (between_any (A := A) a b c pr x n m 2 1 (by omega) w1 (fun b hb => HA.out b (Nat.le_trans B1.out.size hb)) (T0.out.below B1.out) C0.out l1 l2 l3).mono ?_
       rintro e w2 h2
       have HR := hide (h2.back B1.out)
       have P2 : Hid (w2.heap[w.heap.size]? = some (.cells #[.string (ofL a), .string (ofL b), .string (ofL c), .slice x n m, .int .i64 2] 123 (0, 0))) := (h2.1.block w.heap.size LT1.out).trans P1.out
       have e0 : w2.cell? ⟨w.heap.size, 0, none⟩ = some (.string (ofL a)) := cell_at 0 P2.out rfl
       have e1 : w2.cell? ⟨w.heap.size, 1, none⟩ = some (.string (ofL b)) := cell_at 1 P2.out rfl
       have e2 : w2.cell? ⟨w.heap.size, 2, none⟩ = some (.string (ofL c)) := cell_at 2 P2.out rfl
       have e3 : w2.cell? ⟨w.heap.size, 3, none⟩ = some (.slice x n m) := cell_at 3 P2.out rfl
       have e4 : w2.cell? ⟨w.heap.size, 4, none⟩ = some (.int .i64 2) := cell_at 4 P2.out rfl
       obtain ⟨_, v2, x2, rfl, _⟩ := h2)
    | (go_at_call 134
       refine (rlast_any a b c x n m 2 _ (by omega)).mono ?_
       rintro e w1 ⟨rfl, hf0⟩
       have B1 := hide (bD.out.trans (hf0.mono bD.out.size))
       have P1 : Hid (w1.heap[w.heap.size]? = some (.cells #[.string (ofL a), .string (ofL b), .string (ofL c), .slice x n m, .int .i64 2] 123 (0, 0))) := (hf0.block w.heap.size hl0.out).trans N0.out
       have LT1 : Hid (w.heap.size < w1.heap.size) := (Array.getElem?_eq_some_iff.1 P1.out).1
       have e0 : w1.cell? ⟨w.heap.size, 0, none⟩ = some (.string (ofL a)) := cell_at 0 P1.out rfl
       have e1 : w1.cell? ⟨w.heap.size, 1, none⟩ = some (.string (ofL b)) := cell_at 1 P1.out rfl
       have e2 : w1.cell? ⟨w.heap.size, 2, none⟩ = some (.string (ofL c)) := cell_at 2 P1.out rfl
       have e3 : w1.cell? ⟨w.heap.size, 3, none⟩ = some (.slice x n m) := cell_at 3 P1.out rfl
       have e4 : w1.cell? ⟨w.heap.size, 4, none⟩ = some (.int .i64 2) := cell_at 4 P1.out rfl
       clear hf0)
    | fail))
  try dsimp only
  go_wp2_with fail
  go_ret
  exact HR.out

set_option maxRecDepth 100000 in
set_option maxHeartbeats 4000000 in
theorem means_eq0_3 (t : ByteArray) (htl : t.data.toList = []) (a b c : List UInt8) (pr : List (List UInt8)) (x : Option Addr) (n m : Nat) (w : World) (hA : ∀ b, w.heap.size ≤ b → A b) (ht : Txt w (.slice x n m) pr) (hc : CapA A (.slice x n m)) (l1 : a.length ≤ 1024) (l2 : b.length ≤ 1024) (l3 : c.length ≤ 1024) :
    Calls Tryz.prog 98 #[.string t, .agg #[.string (ofL a), .string (ofL b), .string (ofL c), .slice x n m, .int .i64 3]] w (CompsR A w [(5, (⟨zN a, zN b, zN c, pr, []⟩ : SemL))]) := by
  have g0 : t.toList.isEmpty = true := by rw [toL, htl]; rfl
  have g61 : (t.toList == [61]) = false := by rw [toL, htl]; rfl
  have g62 : (t.toList == [62]) = false := by rw [toL, htl]; rfl
  have g62_61 : (t.toList == [62, 61]) = false := by rw [toL, htl]; rfl
  have g60 : (t.toList == [60]) = false := by rw [toL, htl]; rfl
  have g60_61 : (t.toList == [60, 61]) = false := by rw [toL, htl]; rfl
  have g126 : (t.toList == [126]) = false := by rw [toL, htl]; rfl
  have HA := hide hA
  have T0 := hide ht
  have C0 := hide hc
  clear htl hA ht hc
  have b0 := hide ((Below.refl _ w).alloc (Nat.le_refl _) (.cells #[.string (ofL a), .string (ofL b), .string (ofL c), .slice x n m, .int .i64 3] 123))
  have n0 := World.alloc_heap_new w (.cells #[.string (ofL a), .string (ofL b), .string (ofL c), .slice x n m, .int .i64 3] 123)

  go_enter Tryz.func98, Tryz.ntmps98
  go_wp2_with fail

  generalize w.alloc _ = W0 at *
  have hl0 := hide (Array.getElem?_eq_some_iff.1 n0).1
  have N0 := hide n0
  clear n0

  refine (rbegin_any a b c x n m 3 W0).mono ?_
  rintro e w1 ⟨rfl, h1⟩
  have B1 := hide (b0.out.trans (h1.mono b0.out.size))
  clear h1
  go_wp2_with fail
  refine (rcomp_any (A := A) 5 _ (⟨zN a, zN b, zN c, pr, []⟩ : SemL) w1 ⟨_, _, rfl, T0.out.below B1.out, txt_nil _, C0.out, capZ (txt_nil w)⟩).mono ?_
  rintro e w2 h2
  have HR := hide ((h2.toR (by simp)).back B1.out)
  obtain ⟨b1, x1, rfl, _⟩ := comp_one h2
  clear h2
  go_wp2_with fail
  go_ret
  exact HR.out

set_option maxRecDepth 100000 in
set_option maxHeartbeats 4000000 in
theorem means_eq1_0 (t : ByteArray) (htl : t.data.toList = [61]) (a b c : List UInt8) (pr : List (List UInt8)) (x : Option Addr) (n m : Nat) (w : World) (hA : ∀ b, w.heap.size ≤ b → A b) (ht : Txt w (.slice x n m) pr) (hc : CapA A (.slice x n m)) (l1 : a.length ≤ 1024) (l2 : b.length ≤ 1024) (l3 : c.length ≤ 1024) :
    Calls Tryz.prog 98 #[.string t, .agg #[.string (ofL a), .string (ofL b), .string (ofL c), .slice x n m, .int .i64 0]] w (CompsR A w []) := by
  have g0 : t.toList.isEmpty = false := by rw [toL, htl]; rfl
  have g61 : (t.toList == [61]) = true := by rw [toL, htl]; rfl
  have g62 : (t.toList == [62]) = false := by rw [toL, htl]; rfl
  have g62_61 : (t.toList == [62, 61]) = false := by rw [toL, htl]; rfl
  have g60 : (t.toList == [60]) = false := by rw [toL, htl]; rfl
  have g60_61 : (t.toList == [60, 61]) = false := by rw [toL, htl]; rfl
  have g126 : (t.toList == [126]) = false := by rw [toL, htl]; rfl
  have HA := hide hA
  have T0 := hide ht
  have C0 := hide hc
  clear htl hA ht hc
  have b0 := hide ((Below.refl _ w).alloc (Nat.le_refl _) (.cells #[.string (ofL a), .string (ofL b), .string (ofL c), .slice x n m, .int .i64 0] 123))
  have n0 := World.alloc_heap_new w (.cells #[.string (ofL a), .string (ofL b), .string (ofL c), .slice x n m, .int .i64 0] 123)
  clear n0

  go_enter Tryz.func98, Tryz.ntmps98
  go_wp2_with fail
  go_ret
  exact ⟨b0.out, _, [], rfl, World.ownsRow_nil _ _ _ _, rfl⟩

set_option maxRecDepth 100000 in
set_option maxHeartbeats 4000000 in
theorem means_eq1_1 (t : ByteArray) (htl : t.data.toList = [61]) (a b c : List UInt8) (pr : List (List UInt8)) (x : Option Addr) (n m : Nat) (w : World) (hA : ∀ b, w.heap.size ≤ b → A b) (ht : Txt w (.slice x n m) pr) (hc : CapA A (.slice x n m)) (l1 : a.length ≤ 1024) (l2 : b.length ≤ 1024) (l3 : c.length ≤ 1024) :
    Calls Tryz.prog 98 #[.string t, .agg #[.string (ofL a), .string (ofL b), .string (ofL c), .slice x n m, .int .i64 1]] w (CompsR A w [(4, (⟨zN a, zN b, zN c, pr, []⟩ : SemL)), (1, nxD a b c 0)]) := by
  have g0 : t.toList.isEmpty = false := by rw [toL, htl]; rfl
  have g61 : (t.toList == [61]) = true := by rw [toL, htl]; rfl
  have g62 : (t.toList == [62]) = false := by rw [toL, htl]; rfl
  have g62_61 : (t.toList == [62, 61]) = false := by rw [toL, htl]; rfl
  have g60 : (t.toList == [60]) = false := by rw [toL, htl]; rfl
  have g60_61 : (t.toList == [60, 61]) = false := by rw [toL, htl]; rfl
  have g126 : (t.toList == [126]) = false := by rw [toL, htl]; rfl
  have HA := hide hA
  have T0 := hide ht
  have C0 := hide hc
  clear htl hA ht hc
  have b0 := hide ((Below.refl _ w).alloc (Nat.le_refl _) (.cells #[.string (ofL a), .string (ofL b), .string (ofL c), .slice x n m, .int .i64 1] 123))
  have n0 := World.alloc_heap_new w (.cells #[.string (ofL a), .string (ofL b), .string (ofL c), .slice x n m, .int .i64 1] 123)

  go_enter Tryz.func98, Tryz.ntmps98
  go_wp2_with fail

  generalize w.alloc _ = W0 at *
  have hl0 := hide (Array.getElem?_eq_some_iff.1 n0).1
  have N0 := hide n0
  clear n0
  have q0 := cell_at 0 N0.out rfl
  have q1 := cell_at 1 N0.out rfl
  have q2 := cell_at 2 N0.out rfl
  have q3 := cell_at 3 N0.out rfl
  have q4 := cell_at 4 N0.out rfl

  have bD := hide (b0.out.trans (drew_below w.heap.size W0))
  go_region_held3 (fun W' => W'.cell? ⟨w.heap.size, 0, none⟩ = some (.string (ofL a)) ∧ W'.cell? ⟨w.heap.size, 1, none⟩ = some (.string (ofL b)) ∧ W'.cell? ⟨w.heap.size, 2, none⟩ = some (.string (ofL c)) ∧ W'.cell? ⟨w.heap.size, 3, none⟩ = some (.slice x n m) ∧ W'.cell? ⟨w.heap.size, 4, none⟩ = some (.int .i64 1)) (go_keep) ((first
    | (go_at_call 133
       refine (between_any (A := A) a b c pr x n m 1 0 (by omega) w1 (fun b hb => HA.out b (Nat.le_trans B1.out.size hb)) (T0.out.below B1.out) C0.out l1 l2 l3).mono ?_
       rintro e w2 h2
       have HR := hide (h2.back B1.out)
       have P2 : Hid (w2.heap[w.heap.size]? = some (.cells #[.string (ofL a), .string (ofL b), .string (ofL c), .slice x n m, .int .i64 1] 123 (0, 0))) := (h2.1.block w.heap.size LT1.out).trans P1.out
       have e0 : w2.cell? ⟨w.heap.size, 0, none⟩ = some (.string (ofL a)) := cell_at 0 P2.out rfl
       have e1 : w2.cell? ⟨w.heap.size, 1, none⟩ = some (.string (ofL b)) := cell_at 1 P2.out rfl
       have e2 : w2.cell? ⟨w.heap.size, 2, none⟩ = some (.string (ofL c)) := cell_at 2 P2.out rfl
       have e3 : w2.cell? ⟨w.heap.size, 3, none⟩ = some (.slice x n m) := cell_at 3 P2.out rfl
       have e4 : w2.cell? ⟨w.heap.size, 4, none⟩ = some (.int .i64 1) := cell_at 4 P2.out rfl
       obtain ⟨_, v2, x2, rfl, _⟩ := h2)
    | (go_at_call 134
       refine (rlast_any a b c x n m 1 _ (by omega)).mono ?_
       rintro e w1 ⟨rfl, hf0⟩
       have B1 := hide (bD.out.trans (hf0.mono bD.out.size))
       have P1 : Hid (w1.heap[w.heap.size]? = some (.cells #[.string (ofL a), .string (ofL b), .string (ofL c), .slice x n m, .int .i64 1] 123 (0, 0))) := (hf0.block w.heap.size hl0.out).trans N0.out
       have LT1 : Hid (w.heap.size < w1.heap.size) := (Array.getElem?_eq_some_iff.1 P1.out).1
       have e0 : w1.cell? ⟨w.heap.size, 0, none⟩ = some (.string (ofL a)) := cell_at 0 P1.out rfl
       have e1 : w1.cell? ⟨w.heap.size, 1, none⟩ = some (.string (ofL b)) := cell_at 1 P1.out rfl
       have e2 : w1.cell? ⟨w.heap.size, 2, none⟩ = some (.string (ofL c)) := cell_at 2 P1.out rfl
       have e3 : w1.cell? ⟨w.heap.size, 3, none⟩ = some (.slice x n m) := cell_at 3 P1.out rfl
       have e4 : w1.cell? ⟨w.heap.size, 4, none⟩ = some (.int .i64 1) := cell_at 4 P1.out rfl
       clear hf0)
    | fail))
  try dsimp only
  go_wp2_with fail
  go_ret
  exact HR.out

set_option maxRecDepth 100000 in
set_option maxHeartbeats 4000000 in
theorem means_eq1_2 (t : ByteArray) (htl : t.data.toList = [61]) (a b c : List UInt8) (pr : List (List UInt8)) (x : Option Addr) (n m : Nat) (w : World) (hA : ∀ b, w.heap.size ≤ b → A b) (ht : Txt w (.slice x n m) pr) (hc : CapA A (.slice x n m)) (l1 : a.length ≤ 1024) (l2 : b.length ≤ 1024) (l3 : c.length ≤ 1024) :
    Calls Tryz.prog 98 #[.string t, .agg #[.string (ofL a), .string (ofL b), .string (ofL c), .slice x n m, .int .i64 2]] w (CompsR A w [(4, (⟨zN a, zN b, zN c, pr, []⟩ : SemL)), (1, nxD a b c 1)]) := by
  have g0 : t.toList.isEmpty = false := by rw [toL, htl]; rfl
  have g61 : (t.toList == [61]) = true := by rw [toL, htl]; rfl
  have g62 : (t.toList == [62]) = false := by rw [toL, htl]; rfl
  have g62_61 : (t.toList == [62, 61]) = false := by rw [toL, htl]; rfl
  have g60 : (t.toList == [60]) = false := by rw [toL, htl]; rfl
  have g60_61 : (t.toList == [60, 61]) = false := by rw [toL, htl]; rfl
  have g126 : (t.toList == [126]) = false := by rw [toL, htl]; rfl
  have HA := hide hA
  have T0 := hide ht
  have C0 := hide hc
  clear htl hA ht hc
  have b0 := hide ((Below.refl _ w).alloc (Nat.le_refl _) (.cells #[.string (ofL a), .string (ofL b), .string (ofL c), .slice x n m, .int .i64 2] 123))
  have n0 := World.alloc_heap_new w (.cells #[.string (ofL a), .string (ofL b), .string (ofL c), .slice x n m, .int .i64 2] 123)

  go_enter Tryz.func98, Tryz.ntmps98
  go_wp2_with fail

  generalize w.alloc _ = W0 at *
  have hl0 := hide (Array.getElem?_eq_some_iff.1 n0).1
  have N0 := hide n0
  clear n0
  have q0 := cell_at 0 N0.out rfl
  have q1 := cell_at 1 N0.out rfl
  have q2 := cell_at 2 N0.out rfl
  have q3 := cell_at 3 N0.out rfl
  have q4 := cell_at 4 N0.out rfl

  have bD := hide (b0.out.trans (drew_below w.heap.size W0))
  go_region_held3 (fun W' => W'.cell? ⟨w.heap.size, 0, none⟩ = some (.string (ofL a)) ∧ W'.cell? ⟨w.heap.size, 1, none⟩ = some (.string (ofL b)) ∧ W'.cell? ⟨w.heap.size, 2, none⟩ = some (.string (ofL c)) ∧ W'.cell? ⟨w.heap.size, 3, none⟩ = some (.slice x n m) ∧ W'.cell? ⟨w.heap.size, 4, none⟩ = some (.int .i64 2)) (go_keep) ((first
    | (go_at_call 133
       refine (between_any (A := A) a b c pr x n m 2 1 (by omega) w1 (fun b hb => HA.out b (Nat.le_trans B1.out.size hb)) (T0.out.below B1.out) C0.out l1 l2 l3).mono ?_
       rintro e w2 h2
       have HR := hide (h2.back B1.out)
       have P2 : Hid (w2.heap[w.heap.size]? = some (.cells #[.string (ofL a), .string (ofL b), .string (ofL c), .slice x n m, .int .i64 2] 123 (0, 0))) := (h2.1.block w.heap.size LT1.out).trans P1.out
       have e0 : w2.cell? ⟨w.heap.size, 0, none⟩ = some (.string (ofL a)) := cell_at 0 P2.out rfl
       have e1 : w2.cell? ⟨w.heap.size, 1, none⟩ = some (.string (ofL b)) := cell_at 1 P2.out rfl
       have e2 : w2.cell? ⟨w.heap.size, 2, none⟩ = some (.string (ofL c)) := cell_at 2 P2.out rfl
       have e3 : w2.cell? ⟨w.heap.size, 3, none⟩ = some (.slice x n m) := cell_at 3 P2.out rfl
       have e4 : w2.cell? ⟨w.heap.size, 4, none⟩ = some (.int .i64 2) := cell_at 4 P2.out rfl
       obtain ⟨_, v2, x2, rfl, _⟩ := h2)
    | (go_at_call 134
       refine (rlast_any a b c x n m 2 _ (by omega)).mono ?_
       rintro e w1 ⟨rfl, hf0⟩
       have B1 := hide (bD.out.trans (hf0.mono bD.out.size))
       have P1 : Hid (w1.heap[w.heap.size]? = some (.cells #[.string (ofL a), .string (ofL b), .string (ofL c), .slice x n m, .int .i64 2] 123 (0, 0))) := (hf0.block w.heap.size hl0.out).trans N0.out
       have LT1 : Hid (w.heap.size < w1.heap.size) := (Array.getElem?_eq_some_iff.1 P1.out).1
       have e0 : w1.cell? ⟨w.heap.size, 0, none⟩ = some (.string (ofL a)) := cell_at 0 P1.out rfl
       have e1 : w1.cell? ⟨w.heap.size, 1, none⟩ = some (.string (ofL b)) := cell_at 1 P1.out rfl
       have e2 : w1.cell? ⟨w.heap.size, 2, none⟩ = some (.string (ofL c)) := cell_at 2 P1.out rfl
       have e3 : w1.cell? ⟨w.heap.size, 3, none⟩ = some (.slice x n m) := cell_at 3 P1.out rfl
       have e4 : w1.cell? ⟨w.heap.size, 4, none⟩ = some (.int .i64 2) := cell_at 4 P1.out rfl
       clear hf0)
    | fail))
  try dsimp only
  go_wp2_with fail
  go_ret
  exact HR.out

set_option maxRecDepth 100000 in
set_option maxHeartbeats 4000000 in
theorem means_eq1_3 (t : ByteArray) (htl : t.data.toList = [61]) (a b c : List UInt8) (pr : List (List UInt8)) (x : Option Addr) (n m : Nat) (w : World) (hA : ∀ b, w.heap.size ≤ b → A b) (ht : Txt w (.slice x n m) pr) (hc : CapA A (.slice x n m)) (l1 : a.length ≤ 1024) (l2 : b.length ≤ 1024) (l3 : c.length ≤ 1024) :
    Calls Tryz.prog 98 #[.string t, .agg #[.string (ofL a), .string (ofL b), .string (ofL c), .slice x n m, .int .i64 3]] w (CompsR A w [(5, (⟨zN a, zN b, zN c, pr, []⟩ : SemL))]) := by
  have g0 : t.toList.isEmpty = false := by rw [toL, htl]; rfl
  have g61 : (t.toList == [61]) = true := by rw [toL, htl]; rfl
  have g62 : (t.toList == [62]) = false := by rw [toL, htl]; rfl
  have g62_61 : (t.toList == [62, 61]) = false := by rw [toL, htl]; rfl
  have g60 : (t.toList == [60]) = false := by rw [toL, htl]; rfl
  have g60_61 : (t.toList == [60, 61]) = false := by rw [toL, htl]; rfl
  have g126 : (t.toList == [126]) = false := by rw [toL, htl]; rfl
  have HA := hide hA
  have T0 := hide ht
  have C0 := hide hc
  clear htl hA ht hc
  have b0 := hide ((Below.refl _ w).alloc (Nat.le_refl _) (.cells #[.string (ofL a), .string (ofL b), .string (ofL c), .slice x n m, .int .i64 3] 123))
  have n0 := World.alloc_heap_new w (.cells #[.string (ofL a), .string (ofL b), .string (ofL c), .slice x n m, .int .i64 3] 123)

  go_enter Tryz.func98, Tryz.ntmps98
  go_wp2_with fail

  generalize w.alloc _ = W0 at *
  have hl0 := hide (Array.getElem?_eq_some_iff.1 n0).1
  have N0 := hide n0
  clear n0

  refine (rbegin_any a b c x n m 3 W0).mono ?_
  rintro e w1 ⟨rfl, h1⟩
  have B1 := hide (b0.out.trans (h1.mono b0.out.size))
  clear h1
  go_wp2_with fail
  refine (rcomp_any (A := A) 5 _ (⟨zN a, zN b, zN c, pr, []⟩ : SemL) w1 ⟨_, _, rfl, T0.out.below B1.out, txt_nil _, C0.out, capZ (txt_nil w)⟩).mono ?_
  rintro e w2 h2
  have HR := hide ((h2.toR (by simp)).back B1.out)
  obtain ⟨b1, x1, rfl, _⟩ := comp_one h2
  clear h2
  go_wp2_with fail
  go_ret
  exact HR.out

set_option maxRecDepth 100000 in
set_option maxHeartbeats 4000000 in
theorem means_more_0 (t : ByteArray) (htl : t.data.toList = [62]) (a b c : List UInt8) (pr : List (List UInt8)) (x : Option Addr) (n m : Nat) (w : World) (hA : ∀ b, w.heap.size ≤ b → A b) (ht : Txt w (.slice x n m) pr) (hc : CapA A (.slice x n m)) (l1 : a.length ≤ 1024) (l2 : b.length ≤ 1024) (l3 : c.length ≤ 1024) :
    Calls Tryz.prog 98 #[.string t, .agg #[.string (ofL a), .string (ofL b), .string (ofL c), .slice x n m, .int .i64 0]] w (CompsR A w noneL) := by
  have g0 : t.toList.isEmpty = false := by rw [toL, htl]; rfl
  have g61 : (t.toList == [61]) = false := by rw [toL, htl]; rfl
  have g62 : (t.toList == [62]) = true := by rw [toL, htl]; rfl
  have g62_61 : (t.toList == [62, 61]) = false := by rw [toL, htl]; rfl
  have g60 : (t.toList == [60]) = false := by rw [toL, htl]; rfl
  have g60_61 : (t.toList == [60, 61]) = false := by rw [toL, htl]; rfl
  have g126 : (t.toList == [126]) = false := by rw [toL, htl]; rfl
  have HA := hide hA
  have T0 := hide ht
  have C0 := hide hc
  clear htl hA ht hc
  have b0 := hide ((Below.refl _ w).alloc (Nat.le_refl _) (.cells #[.string (ofL a), .string (ofL b), .string (ofL c), .slice x n m, .int .i64 0] 123))
  have n0 := World.alloc_heap_new w (.cells #[.string (ofL a), .string (ofL b), .string (ofL c), .slice x n m, .int .i64 0] 123)

  go_enter Tryz.func98, Tryz.ntmps98
  go_wp2_with fail

  generalize w.alloc _ = W0 at *
  have hl0 := hide (Array.getElem?_eq_some_iff.1 n0).1
  have N0 := hide n0
  clear n0

  refine (rnever_any (A := A) W0 (fun b hb => HA.out b (Nat.le_trans b0.out.size hb))).mono ?_
  rintro e w2 h2
  have HR := hide ((h2.toR (by simp [noneL])).back b0.out)
  obtain ⟨b1, x1, rfl, _⟩ := comp_one h2
  clear h2
  go_wp2_with fail
  go_ret
  exact HR.out

set_option maxRecDepth 100000 in
set_option maxHeartbeats 4000000 in
theorem means_more_1 (t : ByteArray) (htl : t.data.toList = [62]) (a b c : List UInt8) (pr : List (List UInt8)) (x : Option Addr) (n m : Nat) (w : World) (hA : ∀ b, w.heap.size ≤ b → A b) (ht : Txt w (.slice x n m) pr) (hc : CapA A (.slice x n m)) (l1 : a.length ≤ 1024) (l2 : b.length ≤ 1024) (l3 : c.length ≤ 1024) :
    Calls Tryz.prog 98 #[.string t, .agg #[.string (ofL a), .string (ofL b), .string (ofL c), .slice x n m, .int .i64 1]] w (CompsR A w [(4, (⟨(nxD a b c 0).maj, (nxD a b c 0).min, (nxD a b c 0).pat, [], []⟩ : SemL))]) := by
  have g0 : t.toList.isEmpty = false := by rw [toL, htl]; rfl
  have g61 : (t.toList == [61]) = false := by rw [toL, htl]; rfl
  have g62 : (t.toList == [62]) = true := by rw [toL, htl]; rfl
  have g62_61 : (t.toList == [62, 61]) = false := by rw [toL, htl]; rfl
  have g60 : (t.toList == [60]) = false := by rw [toL, htl]; rfl
  have g60_61 : (t.toList == [60, 61]) = false := by rw [toL, htl]; rfl
  have g126 : (t.toList == [126]) = false := by rw [toL, htl]; rfl
  have HA := hide hA
  have T0 := hide ht
  have C0 := hide hc
  clear htl hA ht hc
  have b0 := hide ((Below.refl _ w).alloc (Nat.le_refl _) (.cells #[.string (ofL a), .string (ofL b), .string (ofL c), .slice x n m, .int .i64 1] 123))
  have n0 := World.alloc_heap_new w (.cells #[.string (ofL a), .string (ofL b), .string (ofL c), .slice x n m, .int .i64 1] 123)

  go_enter Tryz.func98, Tryz.ntmps98
  go_wp2_with fail

  generalize w.alloc _ = W0 at *
  have hl0 := hide (Array.getElem?_eq_some_iff.1 n0).1
  have N0 := hide n0
  clear n0
  have q0 := cell_at 0 N0.out rfl
  have q1 := cell_at 1 N0.out rfl
  have q2 := cell_at 2 N0.out rfl
  have q3 := cell_at 3 N0.out rfl
  have q4 := cell_at 4 N0.out rfl

  have bD := hide (b0.out.trans (drew_below w.heap.size W0))
  go_region_held3 (fun W' => W'.cell? ⟨w.heap.size, 0, none⟩ = some (.string (ofL a)) ∧ W'.cell? ⟨w.heap.size, 1, none⟩ = some (.string (ofL b)) ∧ W'.cell? ⟨w.heap.size, 2, none⟩ = some (.string (ofL c)) ∧ W'.cell? ⟨w.heap.size, 3, none⟩ = some (.slice x n m) ∧ W'.cell? ⟨w.heap.size, 4, none⟩ = some (.int .i64 1)) (go_keep) ((first
    | (go_at_call 131
       refine (rcomp_any (A := A) 4 _ (⟨(nxD a b c 0).maj, (nxD a b c 0).min, (nxD a b c 0).pat, [], []⟩ : SemL) w2 ⟨_, _, rfl, txt_nil _, txt_nil _, capZ (txt_nil w), capZ (txt_nil w)⟩).mono ?_
       rintro e w3 h3
       have HR := hide ((h3.toR (by simp)).back B2.out)
       have P3 : Hid (w3.heap[w.heap.size]? = some (.cells #[.string (ofL a), .string (ofL b), .string (ofL c), .slice x n m, .int .i64 1] 123 (0, 0))) := (h3.1.block w.heap.size LT2.out).trans P2.out
       have e0 : w3.cell? ⟨w.heap.size, 0, none⟩ = some (.string (ofL a)) := cell_at 0 P3.out rfl
       have e1 : w3.cell? ⟨w.heap.size, 1, none⟩ = some (.string (ofL b)) := cell_at 1 P3.out rfl
       have e2 : w3.cell? ⟨w.heap.size, 2, none⟩ = some (.string (ofL c)) := cell_at 2 P3.out rfl
       have e3 : w3.cell? ⟨w.heap.size, 3, none⟩ = some (.slice x n m) := cell_at 3 P3.out rfl
       have e4 : w3.cell? ⟨w.heap.size, 4, none⟩ = some (.int .i64 1) := cell_at 4 P3.out rfl
       obtain ⟨b3, x3, rfl, _⟩ := comp_one h3
       clear h3)
    | (go_at_call 136
       refine (rnextK_any a b c x n m 1 0 (by omega) none 0 0 w1 l1 l2 l3).mono ?_
       rintro e w2 ⟨rfl, hf1⟩
       have B2 := hide (B1.out.trans (hf1.mono B1.out.size))
       have P2 : Hid (w2.heap[w.heap.size]? = some (.cells #[.string (ofL a), .string (ofL b), .string (ofL c), .slice x n m, .int .i64 1] 123 (0, 0))) := (hf1.block w.heap.size LT1.out).trans P1.out
       have LT2 := hide (Nat.lt_of_lt_of_le LT1.out hf1.size)
       have e0 : w2.cell? ⟨w.heap.size, 0, none⟩ = some (.string (ofL a)) := cell_at 0 P2.out rfl
       have e1 : w2.cell? ⟨w.heap.size, 1, none⟩ = some (.string (ofL b)) := cell_at 1 P2.out rfl
       have e2 : w2.cell? ⟨w.heap.size, 2, none⟩ = some (.string (ofL c)) := cell_at 2 P2.out rfl
       have e3 : w2.cell? ⟨w.heap.size, 3, none⟩ = some (.slice x n m) := cell_at 3 P2.out rfl
       have e4 : w2.cell? ⟨w.heap.size, 4, none⟩ = some (.int .i64 1) := cell_at 4 P2.out rfl
       clear hf1)
    | (go_at_call 134
       refine (rlast_any a b c x n m 1 _ (by omega)).mono ?_
       rintro e w1 ⟨rfl, hf0⟩
       have B1 := hide (bD.out.trans (hf0.mono bD.out.size))
       have P1 : Hid (w1.heap[w.heap.size]? = some (.cells #[.string (ofL a), .string (ofL b), .string (ofL c), .slice x n m, .int .i64 1] 123 (0, 0))) := (hf0.block w.heap.size hl0.out).trans N0.out
       have LT1 : Hid (w.heap.size < w1.heap.size) := (Array.getElem?_eq_some_iff.1 P1.out).1
       have e0 : w1.cell? ⟨w.heap.size, 0, none⟩ = some (.string (ofL a)) := cell_at 0 P1.out rfl
       have e1 : w1.cell? ⟨w.heap.size, 1, none⟩ = some (.string (ofL b)) := cell_at 1 P1.out rfl
       have e2 : w1.cell? ⟨w.heap.size, 2, none⟩ = some (.string (ofL c)) := cell_at 2 P1.out rfl
       have e3 : w1.cell? ⟨w.heap.size, 3, none⟩ = some (.slice x n m) := cell_at 3 P1.out rfl
       have e4 : w1.cell? ⟨w.heap.size, 4, none⟩ = some (.int .i64 1) := cell_at 4 P1.out rfl
       clear hf0)
    | fail))
  try dsimp only
  go_wp2_with fail
  go_ret
  exact HR.out

set_option maxRecDepth 100000 in
set_option maxHeartbeats 4000000 in
theorem means_more_2 (t : ByteArray) (htl : t.data.toList = [62]) (a b c : List UInt8) (pr : List (List UInt8)) (x : Option Addr) (n m : Nat) (w : World) (hA : ∀ b, w.heap.size ≤ b → A b) (ht : Txt w (.slice x n m) pr) (hc : CapA A (.slice x n m)) (l1 : a.length ≤ 1024) (l2 : b.length ≤ 1024) (l3 : c.length ≤ 1024) :
    Calls Tryz.prog 98 #[.string t, .agg #[.string (ofL a), .string (ofL b), .string (ofL c), .slice x n m, .int .i64 2]] w (CompsR A w [(4, (⟨(nxD a b c 1).maj, (nxD a b c 1).min, (nxD a b c 1).pat, [], []⟩ : SemL))]) := by
  have g0 : t.toList.isEmpty = false := by rw [toL, htl]; rfl
  have g61 : (t.toList == [61]) = false := by rw [toL, htl]; rfl
  have g62 : (t.toList == [62]) = true := by rw [toL, htl]; rfl
  have g62_61 : (t.toList == [62, 61]) = false := by rw [toL, htl]; rfl
  have g60 : (t.toList == [60]) = false := by rw [toL, htl]; rfl
  have g60_61 : (t.toList == [60, 61]) = false := by rw [toL, htl]; rfl
  have g126 : (t.toList == [126]) = false := by rw [toL, htl]; rfl
  have HA := hide hA
  have T0 := hide ht
  have C0 := hide hc
  clear htl hA ht hc
  have b0 := hide ((Below.refl _ w).alloc (Nat.le_refl _) (.cells #[.string (ofL a), .string (ofL b), .string (ofL c), .slice x n m, .int .i64 2] 123))
  have n0 := World.alloc_heap_new w (.cells #[.string (ofL a), .string (ofL b), .string (ofL c), .slice x n m, .int .i64 2] 123)

  go_enter Tryz.func98, Tryz.ntmps98
  go_wp2_with fail

  generalize w.alloc _ = W0 at *
  have hl0 := hide (Array.getElem?_eq_some_iff.1 n0).1
  have N0 := hide n0
  clear n0
  have q0 := cell_at 0 N0.out rfl
  have q1 := cell_at 1 N0.out rfl
  have q2 := cell_at 2 N0.out rfl
  have q3 := cell_at 3 N0.out rfl
  have q4 := cell_at 4 N0.out rfl

  have bD := hide (b0.out.trans (drew_below w.heap.size W0))
  go_region_held3 (fun W' => W'.cell? ⟨w.heap.size, 0, none⟩ = some (.string (ofL a)) ∧ W'.cell? ⟨w.heap.size, 1, none⟩ = some (.string (ofL b)) ∧ W'.cell? ⟨w.heap.size, 2, none⟩ = some (.string (ofL c)) ∧ W'.cell? ⟨w.heap.size, 3, none⟩ = some (.slice x n m) ∧ W'.cell? ⟨w.heap.size, 4, none⟩ = some (.int .i64 2)) (go_keep) ((first
    | (go_at_call 131
       refine (rcomp_any (A := A) 4 _ (⟨(nxD a b c 1).maj, (nxD a b c 1).min, (nxD a b c 1).pat, [], []⟩ : SemL) w2 ⟨_, _, rfl, txt_nil _, txt_nil _, capZ (txt_nil w), capZ (txt_nil w)⟩).mono ?_
       rintro e w3 h3
       have HR := hide ((h3.toR (by simp)).back B2.out)
       have P3 : Hid (w3.heap[w.heap.size]? = some (.cells #[.string (ofL a), .string (ofL b), .string (ofL c), .slice x n m, .int .i64 2] 123 (0, 0))) := (h3.1.block w.heap.size LT2.out).trans P2.out
       have e0 : w3.cell? ⟨w.heap.size, 0, none⟩ = some (.string (ofL a)) := cell_at 0 P3.out rfl
       have e1 : w3.cell? ⟨w.heap.size, 1, none⟩ = some (.string (ofL b)) := cell_at 1 P3.out rfl
       have e2 : w3.cell? ⟨w.heap.size, 2, none⟩ = some (.string (ofL c)) := cell_at 2 P3.out rfl
       have e3 : w3.cell? ⟨w.heap.size, 3, none⟩ = some (.slice x n m) := cell_at 3 P3.out rfl
       have e4 : w3.cell? ⟨w.heap.size, 4, none⟩ = some (.int .i64 2) := cell_at 4 P3.out rfl
       obtain ⟨b3, x3, rfl, _⟩ := comp_one h3
       clear h3)
    | (go_at_call 136
       refine (rnextK_any a b c x n m 2 1 (by omega) none 0 0 w1 l1 l2 l3).mono ?_
       rintro e w2 ⟨rfl, hf1⟩
       have B2 := hide (B1.out.trans (hf1.mono B1.out.size))
       have P2 : Hid (w2.heap[w.heap.size]? = some (.cells #[.string (ofL a), .string (ofL b), .string (ofL c), .slice x n m, .int .i64 2] 123 (0, 0))) := (hf1.block w.heap.size LT1.out).trans P1.out
       have LT2 := hide (Nat.lt_of_lt_of_le LT1.out hf1.size)
       have e0 : w2.cell? ⟨w.heap.size, 0, none⟩ = some (.string (ofL a)) := cell_at 0 P2.out rfl
       have e1 : w2.cell? ⟨w.heap.size, 1, none⟩ = some (.string (ofL b)) := cell_at 1 P2.out rfl
       have e2 : w2.cell? ⟨w.heap.size, 2, none⟩ = some (.string (ofL c)) := cell_at 2 P2.out rfl
       have e3 : w2.cell? ⟨w.heap.size, 3, none⟩ = some (.slice x n m) := cell_at 3 P2.out rfl
       have e4 : w2.cell? ⟨w.heap.size, 4, none⟩ = some (.int .i64 2) := cell_at 4 P2.out rfl
       clear hf1)
    | (go_at_call 134
       refine (rlast_any a b c x n m 2 _ (by omega)).mono ?_
       rintro e w1 ⟨rfl, hf0⟩
       have B1 := hide (bD.out.trans (hf0.mono bD.out.size))
       have P1 : Hid (w1.heap[w.heap.size]? = some (.cells #[.string (ofL a), .string (ofL b), .string (ofL c), .slice x n m, .int .i64 2] 123 (0, 0))) := (hf0.block w.heap.size hl0.out).trans N0.out
       have LT1 : Hid (w.heap.size < w1.heap.size) := (Array.getElem?_eq_some_iff.1 P1.out).1
       have e0 : w1.cell? ⟨w.heap.size, 0, none⟩ = some (.string (ofL a)) := cell_at 0 P1.out rfl
       have e1 : w1.cell? ⟨w.heap.size, 1, none⟩ = some (.string (ofL b)) := cell_at 1 P1.out rfl
       have e2 : w1.cell? ⟨w.heap.size, 2, none⟩ = some (.string (ofL c)) := cell_at 2 P1.out rfl
       have e3 : w1.cell? ⟨w.heap.size, 3, none⟩ = some (.slice x n m) := cell_at 3 P1.out rfl
       have e4 : w1.cell? ⟨w.heap.size, 4, none⟩ = some (.int .i64 2) := cell_at 4 P1.out rfl
       clear hf0)
    | fail))
  try dsimp only
  go_wp2_with fail
  go_ret
  exact HR.out

set_option maxRecDepth 100000 in
set_option maxHeartbeats 4000000 in
theorem means_more_3 (t : ByteArray) (htl : t.data.toList = [62]) (a b c : List UInt8) (pr : List (List UInt8)) (x : Option Addr) (n m : Nat) (w : World) (hA : ∀ b, w.heap.size ≤ b → A b) (ht : Txt w (.slice x n m) pr) (hc : CapA A (.slice x n m)) (l1 : a.length ≤ 1024) (l2 : b.length ≤ 1024) (l3 : c.length ≤ 1024) :
    Calls Tryz.prog 98 #[.string t, .agg #[.string (ofL a), .string (ofL b), .string (ofL c), .slice x n m, .int .i64 3]] w (CompsR A w [(3, (⟨zN a, zN b, zN c, pr, []⟩ : SemL))]) := by
  have g0 : t.toList.isEmpty = false := by rw [toL, htl]; rfl
  have g61 : (t.toList == [61]) = false := by rw [toL, htl]; rfl
  have g62 : (t.toList == [62]) = true := by rw [toL, htl]; rfl
  have g62_61 : (t.toList == [62, 61]) = false := by rw [toL, htl]; rfl
  have g60 : (t.toList == [60]) = false := by rw [toL, htl]; rfl
  have g60_61 : (t.toList == [60, 61]) = false := by rw [toL, htl]; rfl
  have g126 : (t.toList == [126]) = false := by rw [toL, htl]; rfl
  have HA := hide hA
  have T0 := hide ht
  have C0 := hide hc
  clear htl hA ht hc
  have b0 := hide ((Below.refl _ w).alloc (Nat.le_refl _) (.cells #[.string (ofL a), .string (ofL b), .string (ofL c), .slice x n m, .int .i64 3] 123))
  have n0 := World.alloc_heap_new w (.cells #[.string (ofL a), .string (ofL b), .string (ofL c), .slice x n m, .int .i64 3] 123)

  go_enter Tryz.func98, Tryz.ntmps98
  go_wp2_with fail

  generalize w.alloc _ = W0 at *
  have hl0 := hide (Array.getElem?_eq_some_iff.1 n0).1
  have N0 := hide n0
  clear n0

  refine (rbegin_any a b c x n m 3 W0).mono ?_
  rintro e w1 ⟨rfl, h1⟩
  have B1 := hide (b0.out.trans (h1.mono b0.out.size))
  clear h1
  go_wp2_with fail
  refine (rcomp_any (A := A) 3 _ (⟨zN a, zN b, zN c, pr, []⟩ : SemL) w1 ⟨_, _, rfl, T0.out.below B1.out, txt_nil _, C0.out, capZ (txt_nil w)⟩).mono ?_
  rintro e w2 h2
  have HR := hide ((h2.toR (by simp)).back B1.out)
  obtain ⟨b1, x1, rfl, _⟩ := comp_one h2
  clear h2
  go_wp2_with fail
  go_ret
  exact HR.out

set_option maxRecDepth 100000 in
set_option maxHeartbeats 4000000 in
theorem means_from_0 (t : ByteArray) (htl : t.data.toList = [62, 61]) (a b c : List UInt8) (pr : List (List UInt8)) (x : Option Addr) (n m : Nat) (w : World) (hA : ∀ b, w.heap.size ≤ b → A b) (ht : Txt w (.slice x n m) pr) (hc : CapA A (.slice x n m)) (l1 : a.length ≤ 1024) (l2 : b.length ≤ 1024) (l3 : c.length ≤ 1024) :
    Calls Tryz.prog 98 #[.string t, .agg #[.string (ofL a), .string (ofL b), .string (ofL c), .slice x n m, .int .i64 0]] w (CompsR A w []) := by
  have g0 : t.toList.isEmpty = false := by rw [toL, htl]; rfl
  have g61 : (t.toList == [61]) = false := by rw [toL, htl]; rfl
  have g62 : (t.toList == [62]) = false := by rw [toL, htl]; rfl
  have g62_61 : (t.toList == [62, 61]) = true := by rw [toL, htl]; rfl
  have g60 : (t.toList == [60]) = false := by rw [toL, htl]; rfl
  have g60_61 : (t.toList == [60, 61]) = false := by rw [toL, htl]; rfl
  have g126 : (t.toList == [126]) = false := by rw [toL, htl]; rfl
  have HA := hide hA
  have T0 := hide ht
  have C0 := hide hc
  clear htl hA ht hc
  have b0 := hide ((Below.refl _ w).alloc (Nat.le_refl _) (.cells #[.string (ofL a), .string (ofL b), .string (ofL c), .slice x n m, .int .i64 0] 123))
  have n0 := World.alloc_heap_new w (.cells #[.string (ofL a), .string (ofL b), .string (ofL c), .slice x n m, .int .i64 0] 123)
  clear n0

  go_enter Tryz.func98, Tryz.ntmps98
  go_wp2_with fail
  go_ret
  exact ⟨b0.out, _, [], rfl, World.ownsRow_nil _ _ _ _, rfl⟩

set_option maxRecDepth 100000 in
set_option maxHeartbeats 4000000 in
theorem means_from_1 (t : ByteArray) (htl : t.data.toList = [62, 61]) (a b c : List UInt8) (pr : List (List UInt8)) (x : Option Addr) (n m : Nat) (w : World) (hA : ∀ b, w.heap.size ≤ b → A b) (ht : Txt w (.slice x n m) pr) (hc : CapA A (.slice x n m)) (l1 : a.length ≤ 1024) (l2 : b.length ≤ 1024) (l3 : c.length ≤ 1024) :
    Calls Tryz.prog 98 #[.string t, .agg #[.string (ofL a), .string (ofL b), .string (ofL c), .slice x n m, .int .i64 1]] w (CompsR A w [(4, (⟨zN a, zN b, zN c, pr, []⟩ : SemL))]) := by
  have g0 : t.toList.isEmpty = false := by rw [toL, htl]; rfl
  have g61 : (t.toList == [61]) = false := by rw [toL, htl]; rfl
  have g62 : (t.toList == [62]) = false := by rw [toL, htl]; rfl
  have g62_61 : (t.toList == [62, 61]) = true := by rw [toL, htl]; rfl
  have g60 : (t.toList == [60]) = false := by rw [toL, htl]; rfl
  have g60_61 : (t.toList == [60, 61]) = false := by rw [toL, htl]; rfl
  have g126 : (t.toList == [126]) = false := by rw [toL, htl]; rfl
  have HA := hide hA
  have T0 := hide ht
  have C0 := hide hc
  clear htl hA ht hc
  have b0 := hide ((Below.refl _ w).alloc (Nat.le_refl _) (.cells #[.string (ofL a), .string (ofL b), .string (ofL c), .slice x n m, .int .i64 1] 123))
  have n0 := World.alloc_heap_new w (.cells #[.string (ofL a), .string (ofL b), .string (ofL c), .slice x n m, .int .i64 1] 123)

  go_enter Tryz.func98, Tryz.ntmps98
  go_wp2_with fail

  generalize w.alloc _ = W0 at *
  have hl0 := hide (Array.getElem?_eq_some_iff.1 n0).1
  have N0 := hide n0
  clear n0

  refine (rbegin_any a b c x n m 1 W0).mono ?_
  rintro e w1 ⟨rfl, h1⟩
  have B1 := hide (b0.out.trans (h1.mono b0.out.size))
  clear h1
  go_wp2_with fail
  refine (rcomp_any (A := A) 4 _ (⟨zN a, zN b, zN c, pr, []⟩ : SemL) w1 ⟨_, _, rfl, T0.out.below B1.out, txt_nil _, C0.out, capZ (txt_nil w)⟩).mono ?_
  rintro e w2 h2
  have HR := hide ((h2.toR (by simp)).back B1.out)
  obtain ⟨b1, x1, rfl, _⟩ := comp_one h2
  clear h2
  go_wp2_with fail
  go_ret
  exact HR.out

set_option maxRecDepth 100000 in
set_option maxHeartbeats 4000000 in
theorem means_from_2 (t : ByteArray) (htl : t.data.toList = [62, 61]) (a b c : List UInt8) (pr : List (List UInt8)) (x : Option Addr) (n m : Nat) (w : World) (hA : ∀ b, w.heap.size ≤ b → A b) (ht : Txt w (.slice x n m) pr) (hc : CapA A (.slice x n m)) (l1 : a.length ≤ 1024) (l2 : b.length ≤ 1024) (l3 : c.length ≤ 1024) :
    Calls Tryz.prog 98 #[.string t, .agg #[.string (ofL a), .string (ofL b), .string (ofL c), .slice x n m, .int .i64 2]] w (CompsR A w [(4, (⟨zN a, zN b, zN c, pr, []⟩ : SemL))]) := by
  have g0 : t.toList.isEmpty = false := by rw [toL, htl]; rfl
  have g61 : (t.toList == [61]) = false := by rw [toL, htl]; rfl
  have g62 : (t.toList == [62]) = false := by rw [toL, htl]; rfl
  have g62_61 : (t.toList == [62, 61]) = true := by rw [toL, htl]; rfl
  have g60 : (t.toList == [60]) = false := by rw [toL, htl]; rfl
  have g60_61 : (t.toList == [60, 61]) = false := by rw [toL, htl]; rfl
  have g126 : (t.toList == [126]) = false := by rw [toL, htl]; rfl
  have HA := hide hA
  have T0 := hide ht
  have C0 := hide hc
  clear htl hA ht hc
  have b0 := hide ((Below.refl _ w).alloc (Nat.le_refl _) (.cells #[.string (ofL a), .string (ofL b), .string (ofL c), .slice x n m, .int .i64 2] 123))
  have n0 := World.alloc_heap_new w (.cells #[.string (ofL a), .string (ofL b), .string (ofL c), .slice x n m, .int .i64 2] 123)

  go_enter Tryz.func98, Tryz.ntmps98
  go_wp2_with fail

  generalize w.alloc _ = W0 at *
  have hl0 := hide (Array.getElem?_eq_some_iff.1 n0).1
  have N0 := hide n0
  clear n0

  refine (rbegin_any a b c x n m 2 W0).mono ?_
  rintro e w1 ⟨rfl, h1⟩
  have B1 := hide (b0.out.trans (h1.mono b0.out.size))
  clear h1
  go_wp2_with fail
  refine (rcomp_any (A := A) 4 _ (⟨zN a, zN b, zN c, pr, []⟩ : SemL) w1 ⟨_, _, rfl, T0.out.below B1.out, txt_nil _, C0.out, capZ (txt_nil w)⟩).mono ?_
  rintro e w2 h2
  have HR := hide ((h2.toR (by simp)).back B1.out)
  obtain ⟨b1, x1, rfl, _⟩ := comp_one h2
  clear h2
  go_wp2_with fail
  go_ret
  exact HR.out

set_option maxRecDepth 100000 in
set_option maxHeartbeats 4000000 in
theorem means_from_3 (t : ByteArray) (htl : t.data.toList = [62, 61]) (a b c : List UInt8) (pr : List (List UInt8)) (x : Option Addr) (n m : Nat) (w : World) (hA : ∀ b, w.heap.size ≤ b → A b) (ht : Txt w (.slice x n m) pr) (hc : CapA A (.slice x n m)) (l1 : a.length ≤ 1024) (l2 : b.length ≤ 1024) (l3 : c.length ≤ 1024) :
    Calls Tryz.prog 98 #[.string t, .agg #[.string (ofL a), .string (ofL b), .string (ofL c), .slice x n m, .int .i64 3]] w (CompsR A w [(4, (⟨zN a, zN b, zN c, pr, []⟩ : SemL))]) := by
  have g0 : t.toList.isEmpty = false := by rw [toL, htl]; rfl
  have g61 : (t.toList == [61]) = false := by rw [toL, htl]; rfl
  have g62 : (t.toList == [62]) = false := by rw [toL, htl]; rfl
  have g62_61 : (t.toList == [62, 61]) = true := by rw [toL, htl]; rfl
  have g60 : (t.toList == [60]) = false := by rw [toL, htl]; rfl
  have g60_61 : (t.toList == [60, 61]) = false := by rw [toL, htl]; rfl
  have g126 : (t.toList == [126]) = false := by rw [toL, htl]; rfl
  have HA := hide hA
  have T0 := hide ht
  have C0 := hide hc
  clear htl hA ht hc
  have b0 := hide ((Below.refl _ w).alloc (Nat.le_refl _) (.cells #[.string (ofL a), .string (ofL b), .string (ofL c), .slice x n m, .int .i64 3] 123))
  have n0 := World.alloc_heap_new w (.cells #[.string (ofL a), .string (ofL b), .string (ofL c), .slice x n m, .int .i64 3] 123)

  go_enter Tryz.func98, Tryz.ntmps98
  go_wp2_with fail

  generalize w.alloc _ = W0 at *
  have hl0 := hide (Array.getElem?_eq_some_iff.1 n0).1
  have N0 := hide n0
  clear n0

  refine (rbegin_any a b c x n m 3 W0).mono ?_
  rintro e w1 ⟨rfl, h1⟩
  have B1 := hide (b0.out.trans (h1.mono b0.out.size))
  clear h1
  go_wp2_with fail
  refine (rcomp_any (A := A) 4 _ (⟨zN a, zN b, zN c, pr, []⟩ : SemL) w1 ⟨_, _, rfl, T0.out.below B1.out, txt_nil _, C0.out, capZ (txt_nil w)⟩).mono ?_
  rintro e w2 h2
  have HR := hide ((h2.toR (by simp)).back B1.out)
  obtain ⟨b1, x1, rfl, _⟩ := comp_one h2
  clear h2
  go_wp2_with fail
  go_ret
  exact HR.out

end Go.Proofs.YtpdlgiioahjhiaaGreat
