/-
  Walks: what the document's operators mean, the others. · Plain: a fit version's text is read back as a partial that tells all of it.
-/
import Derived.Test.YtpdlgiioahjhiaaGreatQLu
import Derived.Test.YtpdlgiioahjhiaaGreatQLf
namespace Go.Proofs.YtpdlgiioahjhiaaGreat
open Go.RowKit Go.Shelf
set_option linter.unusedVariables false

variable {A : Nat → Prop}

set_option maxRecDepth 100000 in
set_option maxHeartbeats 4000000 in
theorem means_less_0 (t : ByteArray) (htl : t.data.toList = [60]) (a b c : List UInt8) (pr : List (List UInt8)) (x : Option Addr) (n m : Nat) (w : World) (hA : ∀ b, w.heap.size ≤ b → A b) (ht : Txt w (.slice x n m) pr) (hc : CapA A (.slice x n m)) (l1 : a.length ≤ 1024) (l2 : b.length ≤ 1024) (l3 : c.length ≤ 1024) :
    Calls Tryz.prog 98 #[.string t, .agg #[.string (ofL a), .string (ofL b), .string (ofL c), .slice x n m, .int .i64 0]] w (CompsR A w noneL) := by
  have g0 : t.toList.isEmpty = false := by rw [toL, htl]; rfl
  have g61 : (t.toList == [61]) = false := by rw [toL, htl]; rfl
  have g62 : (t.toList == [62]) = false := by rw [toL, htl]; rfl
  have g62_61 : (t.toList == [62, 61]) = false := by rw [toL, htl]; rfl
  have g60 : (t.toList == [60]) = true := by rw [toL, htl]; rfl
  have g60_61 : (t.toList == [60, 61]) = false := by rw [toL, htl]; rfl
  have g126 : (t.toList == [126]) = false := by rw [toL, htl]; rfl
  have HA := hide hA
  have T0 := hide ht
  have C0 := hide hc
  clear htl hA ht hc
  have b0 := hide ((Below.refl _ w).alloc (Nat.le_refl _) (.cells #[.string (ofL a), .string (ofL b), .string (ofL c), .slice x n m, .int .i64 0] 123))
  have n0 := World.alloc_heap_new w (.cells #[.string (ofL a), .string (ofL b), .string (ofL c), .slice x n m, .int .i64 0] 123)

  go_enter Tryz.func98, Tryz.ntmps98
  go_wp2_with fail

  generalize w.alloc _ = W0 at *
  have hl0 := hide (Array.getElem?_eq_some_iff.1 n0).1
  have N0 := hide n0
  clear n0

  refine (rnever_any (A := A) W0 (fun b hb => HA.out b (Nat.le_trans b0.out.size hb))).mono ?_
  rintro e w2 h2
  have HR := hide ((h2.toR (by simp [noneL])).back b0.out)
  obtain ⟨b1, x1, rfl, _⟩ := comp_one h2
  clear h2
  go_wp2_with fail
  go_ret
  exact HR.out

set_option maxRecDepth 100000 in
set_option maxHeartbeats 4000000 in
theorem means_less_1 (t : ByteArray) (htl : t.data.toList = [60]) (a b c : List UInt8) (pr : List (List UInt8)) (x : Option Addr) (n m : Nat) (w : World) (hA : ∀ b, w.heap.size ≤ b → A b) (ht : Txt w (.slice x n m) pr) (hc : CapA A (.slice x n m)) (l1 : a.length ≤ 1024) (l2 : b.length ≤ 1024) (l3 : c.length ≤ 1024) :
    Calls Tryz.prog 98 #[.string t, .agg #[.string (ofL a), .string (ofL b), .string (ofL c), .slice x n m, .int .i64 1]] w (CompsR A w [(1, (⟨zN a, zN b, zN c, [[48]], []⟩ : SemL))]) := by
  have g0 : t.toList.isEmpty = false := by rw [toL, htl]; rfl
  have g61 : (t.toList == [61]) = false := by rw [toL, htl]; rfl
  have g62 : (t.toList == [62]) = false := by rw [toL, htl]; rfl
  have g62_61 : (t.toList == [62, 61]) = false := by rw [toL, htl]; rfl
  have g60 : (t.toList == [60]) = true := by rw [toL, htl]; rfl
  have g60_61 : (t.toList == [60, 61]) = false := by rw [toL, htl]; rfl
  have g126 : (t.toList == [126]) = false := by rw [toL, htl]; rfl
  have HA := hide hA
  have T0 := hide ht
  have C0 := hide hc
  clear htl hA ht hc
  have b0 := hide ((Below.refl _ w).alloc (Nat.le_refl _) (.cells #[.string (ofL a), .string (ofL b), .string (ofL c), .slice x n m, .int .i64 1] 123))
  have n0 := World.alloc_heap_new w (.cells #[.string (ofL a), .string (ofL b), .string (ofL c), .slice x n m, .int .i64 1] 123)

  go_enter Tryz.func98, Tryz.ntmps98
  go_wp2_with fail

  generalize w.alloc _ = W0 at *
  have hl0 := hide (Array.getElem?_eq_some_iff.1 n0).1
  have N0 := hide n0
  clear n0

  refine (rbegin_any a b c x n m 1 W0).mono ?_
  rintro e w1 ⟨rfl, h1⟩
  have B1 := hide (b0.out.trans (h1.mono b0.out.size))
  clear h1
  have m1 := World.alloc_heap_new w1 (.cells #[.string (ofL (zN a)), .string (ofL (zN b)), .string (ofL (zN c)), .slice x n m, .slice none 0 0] 33)
  have B2 := hide (B1.out.alloc B1.out.size (.cells #[.string (ofL (zN a)), .string (ofL (zN b)), .string (ofL (zN c)), .slice x n m, .slice none 0 0] 33))
  go_wp2_with fail
  generalize w1.alloc _ = W2 at *
  have M1 := hide m1
  have hl1 := hide (Array.getElem?_eq_some_iff.1 m1).1
  clear m1
  refine (rzero_any W2).mono ?_
  rintro e w3 ⟨rfl, hw3⟩
  have F3 : Hid (Below W2.heap.size W2 w3) := (hw3 ▸ (Below.refl _ W2).alloc (Nat.le_refl _) _)
  have Z3 : Hid (w3.heap[W2.heap.size]? = some (.cells #[.string ⟨#[48]⟩] 9 (0, 0))) := hw3 ▸ World.alloc_heap_new W2 _
  have m3 := (F3.out.block w1.heap.size hl1.out).trans M1.out
  have B3 := hide (B2.out.trans (F3.out.mono B2.out.size))
  have hwb := hide B1.out.size
  obtain ⟨zb, hzb⟩ : ∃ zb, W2.heap.size = zb := ⟨_, rfl⟩
  obtain ⟨sb, hsb⟩ : ∃ sb, w1.heap.size = sb := ⟨_, rfl⟩
  have HAz : Hid (A zb) := HA.out zb (by have := B2.out.size; omega)
  have hne : zb ≠ sb := by have := hl1.out; omega
  rw [hzb] at Z3 ⊢
  rw [hsb] at m3 hwb ⊢
  clear hw3 hzb hsb F3 M1 hl1
  have c0 := cell_at 0 m3 rfl
  have c1 := cell_at 1 m3 rfl
  have c2 := cell_at 2 m3 rfl
  have c3 := cell_at 3 m3 rfl
  have c4 := cell_at 4 m3 rfl
  have f3 := one_free 3 m3
  have B4 : Hid (Below w.heap.size w (w3.setCell ⟨sb, 3, none⟩ (.slice (some ⟨zb, 0, none⟩) 1 1))) := B3.out.setCell hwb.out _
  have Z4 : Hid ((w3.setCell ⟨sb, 3, none⟩ (.slice (some ⟨zb, 0, none⟩) 1 1)).heap[zb]? = some (.cells #[.string ⟨#[48]⟩] 9 (0, 0))) := (Below.heap_setCell _ _ _ _ hne).trans Z3.out
  clear m3
  go_wp2_with fail
  refine (rcomp_any (A := A) 1 _ (⟨zN a, zN b, zN c, [[48]], []⟩ : SemL) _ ⟨_, _, rfl, txt_z Z4.out, txt_nil _, capA_one HAz.out, capZ (txt_nil w)⟩).mono ?_
  rintro e w5 h5
  have HR := hide ((h5.toR (by simp)).back B4.out)
  obtain ⟨b5, x5, rfl, _⟩ := comp_one h5
  clear h5
  go_wp2_with fail
  go_ret
  exact HR.out

set_option maxRecDepth 100000 in
set_option maxHeartbeats 4000000 in
theorem means_less_2 (t : ByteArray) (htl : t.data.toList = [60]) (a b c : List UInt8) (pr : List (List UInt8)) (x : Option Addr) (n m : Nat) (w : World) (hA : ∀ b, w.heap.size ≤ b → A b) (ht : Txt w (.slice x n m) pr) (hc : CapA A (.slice x n m)) (l1 : a.length ≤ 1024) (l2 : b.length ≤ 1024) (l3 : c.length ≤ 1024) :
    Calls Tryz.prog 98 #[.string t, .agg #[.string (ofL a), .string (ofL b), .string (ofL c), .slice x n m, .int .i64 2]] w (CompsR A w [(1, (⟨zN a, zN b, zN c, [[48]], []⟩ : SemL))]) := by
  have g0 : t.toList.isEmpty = false := by rw [toL, htl]; rfl
  have g61 : (t.toList == [61]) = false := by rw [toL, htl]; rfl
  have g62 : (t.toList == [62]) = false := by rw [toL, htl]; rfl
  have g62_61 : (t.toList == [62, 61]) = false := by rw [toL, htl]; rfl
  have g60 : (t.toList == [60]) = true := by rw [toL, htl]; rfl
  have g60_61 : (t.toList == [60, 61]) = false := by rw [toL, htl]; rfl
  have g126 : (t.toList == [126]) = false := by rw [toL, htl]; rfl
  have HA := hide hA
  have T0 := hide ht
  have C0 := hide hc
  clear htl hA ht hc
  have b0 := hide ((Below.refl _ w).alloc (Nat.le_refl _) (.cells #[.string (ofL a), .string (ofL b), .string (ofL c), .slice x n m, .int .i64 2] 123))
  have n0 := World.alloc_heap_new w (.cells #[.string (ofL a), .string (ofL b), .string (ofL c), .slice x n m, .int .i64 2] 123)

  go_enter Tryz.func98, Tryz.ntmps98
  go_wp2_with fail

  generalize w.alloc _ = W0 at *
  have hl0 := hide (Array.getElem?_eq_some_iff.1 n0).1
  have N0 := hide n0
  clear n0

  refine (rbegin_any a b c x n m 2 W0).mono ?_
  rintro e w1 ⟨rfl, h1⟩
  have B1 := hide (b0.out.trans (h1.mono b0.out.size))
  clear h1
  have m1 := World.alloc_heap_new w1 (.cells #[.string (ofL (zN a)), .string (ofL (zN b)), .string (ofL (zN c)), .slice x n m, .slice none 0 0] 33)
  have B2 := hide (B1.out.alloc B1.out.size (.cells #[.string (ofL (zN a)), .string (ofL (zN b)), .string (ofL (zN c)), .slice x n m, .slice none 0 0] 33))
  go_wp2_with fail
  generalize w1.alloc _ = W2 at *
  have M1 := hide m1
  have hl1 := hide (Array.getElem?_eq_some_iff.1 m1).1
  clear m1
  refine (rzero_any W2).mono ?_
  rintro e w3 ⟨rfl, hw3⟩
  have F3 : Hid (Below W2.heap.size W2 w3) := (hw3 ▸ (Below.refl _ W2).alloc (Nat.le_refl _) _)
  have Z3 : Hid (w3.heap[W2.heap.size]? = some (.cells #[.string ⟨#[48]⟩] 9 (0, 0))) := hw3 ▸ World.alloc_heap_new W2 _
  have m3 := (F3.out.block w1.heap.size hl1.out).trans M1.out
  have B3 := hide (B2.out.trans (F3.out.mono B2.out.size))
  have hwb := hide B1.out.size
  obtain ⟨zb, hzb⟩ : ∃ zb, W2.heap.size = zb := ⟨_, rfl⟩
  obtain ⟨sb, hsb⟩ : ∃ sb, w1.heap.size = sb := ⟨_, rfl⟩
  have HAz : Hid (A zb) := HA.out zb (by have := B2.out.size; omega)
  have hne : zb ≠ sb := by have := hl1.out; omega
  rw [hzb] at Z3 ⊢
  rw [hsb] at m3 hwb ⊢
  clear hw3 hzb hsb F3 M1 hl1
  have c0 := cell_at 0 m3 rfl
  have c1 := cell_at 1 m3 rfl
  have c2 := cell_at 2 m3 rfl
  have c3 := cell_at 3 m3 rfl
  have c4 := cell_at 4 m3 rfl
  have f3 := one_free 3 m3
  have B4 : Hid (Below w.heap.size w (w3.setCell ⟨sb, 3, none⟩ (.slice (some ⟨zb, 0, none⟩) 1 1))) := B3.out.setCell hwb.out _
  have Z4 : Hid ((w3.setCell ⟨sb, 3, none⟩ (.slice (some ⟨zb, 0, none⟩) 1 1)).heap[zb]? = some (.cells #[.string ⟨#[48]⟩] 9 (0, 0))) := (Below.heap_setCell _ _ _ _ hne).trans Z3.out
  clear m3
  go_wp2_with fail
  refine (rcomp_any (A := A) 1 _ (⟨zN a, zN b, zN c, [[48]], []⟩ : SemL) _ ⟨_, _, rfl, txt_z Z4.out, txt_nil _, capA_one HAz.out, capZ (txt_nil w)⟩).mono ?_
  rintro e w5 h5
  have HR := hide ((h5.toR (by simp)).back B4.out)
  obtain ⟨b5, x5, rfl, _⟩ := comp_one h5
  clear h5
  go_wp2_with fail
  go_ret
  exact HR.out

set_option maxRecDepth 100000 in
set_option maxHeartbeats 4000000 in
theorem means_less_3 (t : ByteArray) (htl : t.data.toList = [60]) (a b c : List UInt8) (pr : List (List UInt8)) (x : Option Addr) (n m : Nat) (w : World) (hA : ∀ b, w.heap.size ≤ b → A b) (ht : Txt w (.slice x n m) pr) (hc : CapA A (.slice x n m)) (l1 : a.length ≤ 1024) (l2 : b.length ≤ 1024) (l3 : c.length ≤ 1024) :
    Calls Tryz.prog 98 #[.string t, .agg #[.string (ofL a), .string (ofL b), .string (ofL c), .slice x n m, .int .i64 3]] w (CompsR A w [(1, (⟨zN a, zN b, zN c, pr, []⟩ : SemL))]) := by
  have g0 : t.toList.isEmpty = false := by rw [toL, htl]; rfl
  have g61 : (t.toList == [61]) = false := by rw [toL, htl]; rfl
  have g62 : (t.toList == [62]) = false := by rw [toL, htl]; rfl
  have g62_61 : (t.toList == [62, 61]) = false := by rw [toL, htl]; rfl
  have g60 : (t.toList == [60]) = true := by rw [toL, htl]; rfl
  have g60_61 : (t.toList == [60, 61]) = false := by rw [toL, htl]; rfl
  have g126 : (t.toList == [126]) = false := by rw [toL, htl]; rfl
  have HA := hide hA
  have T0 := hide ht
  have C0 := hide hc
  clear htl hA ht hc
  have b0 := hide ((Below.refl _ w).alloc (Nat.le_refl _) (.cells #[.string (ofL a), .string (ofL b), .string (ofL c), .slice x n m, .int .i64 3] 123))
  have n0 := World.alloc_heap_new w (.cells #[.string (ofL a), .string (ofL b), .string (ofL c), .slice x n m, .int .i64 3] 123)

  go_enter Tryz.func98, Tryz.ntmps98
  go_wp2_with fail

  generalize w.alloc _ = W0 at *
  have hl0 := hide (Array.getElem?_eq_some_iff.1 n0).1
  have N0 := hide n0
  clear n0

  refine (rbegin_any a b c x n m 3 W0).mono ?_
  rintro e w1 ⟨rfl, h1⟩
  have B1 := hide (b0.out.trans (h1.mono b0.out.size))
  clear h1
  go_wp2_with fail
  refine (rcomp_any (A := A) 1 _ (⟨zN a, zN b, zN c, pr, []⟩ : SemL) w1 ⟨_, _, rfl, T0.out.below B1.out, txt_nil _, C0.out, capZ (txt_nil w)⟩).mono ?_
  rintro e w2 h2
  have HR := hide ((h2.toR (by simp)).back B1.out)
  obtain ⟨b1, x1, rfl, _⟩ := comp_one h2
  clear h2
  go_wp2_with fail
  go_ret
  exact HR.out

set_option maxRecDepth 100000 in
set_option maxHeartbeats 4000000 in
theorem means_upto_0 (t : ByteArray) (htl : t.data.toList = [60, 61]) (a b c : List UInt8) (pr : List (List UInt8)) (x : Option Addr) (n m : Nat) (w : World) (hA : ∀ b, w.heap.size ≤ b → A b) (ht : Txt w (.slice x n m) pr) (hc : CapA A (.slice x n m)) (l1 : a.length ≤ 1024) (l2 : b.length ≤ 1024) (l3 : c.length ≤ 1024) :
    Calls Tryz.prog 98 #[.string t, .agg #[.string (ofL a), .string (ofL b), .string (ofL c), .slice x n m, .int .i64 0]] w (CompsR A w []) := by
  have g0 : t.toList.isEmpty = false := by rw [toL, htl]; rfl
  have g61 : (t.toList == [61]) = false := by rw [toL, htl]; rfl
  have g62 : (t.toList == [62]) = false := by rw [toL, htl]; rfl
  have g62_61 : (t.toList == [62, 61]) = false := by rw [toL, htl]; rfl
  have g60 : (t.toList == [60]) = false := by rw [toL, htl]; rfl
  have g60_61 : (t.toList == [60, 61]) = true := by rw [toL, htl]; rfl
  have g126 : (t.toList == [126]) = false := by rw [toL, htl]; rfl
  have HA := hide hA
  have T0 := hide ht
  have C0 := hide hc
  clear htl hA ht hc
  have b0 := hide ((Below.refl _ w).alloc (Nat.le_refl _) (.cells #[.string (ofL a), .string (ofL b), .string (ofL c), .slice x n m, .int .i64 0] 123))
  have n0 := World.alloc_heap_new w (.cells #[.string (ofL a), .string (ofL b), .string (ofL c), .slice x n m, .int .i64 0] 123)
  clear n0

  go_enter Tryz.func98, Tryz.ntmps98
  go_wp2_with fail
  go_ret
  exact ⟨b0.out, _, [], rfl, World.ownsRow_nil _ _ _ _, rfl⟩

set_option maxRecDepth 100000 in
set_option maxHeartbeats 4000000 in
theorem means_upto_1 (t : ByteArray) (htl : t.data.toList = [60, 61]) (a b c : List UInt8) (pr : List (List UInt8)) (x : Option Addr) (n m : Nat) (w : World) (hA : ∀ b, w.heap.size ≤ b → A b) (ht : Txt w (.slice x n m) pr) (hc : CapA A (.slice x n m)) (l1 : a.length ≤ 1024) (l2 : b.length ≤ 1024) (l3 : c.length ≤ 1024) :
    Calls Tryz.prog 98 #[.string t, .agg #[.string (ofL a), .string (ofL b), .string (ofL c), .slice x n m, .int .i64 1]] w (CompsR A w [(1, (⟨(nxD a b c 0).maj, (nxD a b c 0).min, (nxD a b c 0).pat, [[48]], []⟩ : SemL))]) := by
  have g0 : t.toList.isEmpty = false := by rw [toL, htl]; rfl
  have g61 : (t.toList == [61]) = false := by rw [toL, htl]; rfl
  have g62 : (t.toList == [62]) = false := by rw [toL, htl]; rfl
  have g62_61 : (t.toList == [62, 61]) = false := by rw [toL, htl]; rfl
  have g60 : (t.toList == [60]) = false := by rw [toL, htl]; rfl
  have g60_61 : (t.toList == [60, 61]) = true := by rw [toL, htl]; rfl
  have g126 : (t.toList == [126]) = false := by rw [toL, htl]; rfl
  have HA := hide hA
  have T0 := hide ht
  have C0 := hide hc
  clear htl hA ht hc
  have b0 := hide ((Below.refl _ w).alloc (Nat.le_refl _) (.cells #[.string (ofL a), .string (ofL b), .string (ofL c), .slice x n m, .int .i64 1] 123))
  have n0 := World.alloc_heap_new w (.cells #[.string (ofL a), .string (ofL b), .string (ofL c), .slice x n m, .int .i64 1] 123)

  go_enter Tryz.func98, Tryz.ntmps98
  go_wp2_with fail

  generalize w.alloc _ = W0 at *
  have hl0 := hide (Array.getElem?_eq_some_iff.1 n0).1
  have N0 := hide n0
  clear n0
  have q0 := cell_at 0 N0.out rfl
  have q1 := cell_at 1 N0.out rfl
  have q2 := cell_at 2 N0.out rfl
  have q3 := cell_at 3 N0.out rfl
  have q4 := cell_at 4 N0.out rfl

  have bD := hide (b0.out.trans (drew_below w.heap.size W0))
  go_region_held3 (fun W' => W'.cell? ⟨w.heap.size, 0, none⟩ = some (.string (ofL a)) ∧ W'.cell? ⟨w.heap.size, 1, none⟩ = some (.string (ofL b)) ∧ W'.cell? ⟨w.heap.size, 2, none⟩ = some (.string (ofL c)) ∧ W'.cell? ⟨w.heap.size, 3, none⟩ = some (.slice x n m) ∧ W'.cell? ⟨w.heap.size, 4, none⟩ = some (.int .i64 1)) (go_keep) ((first
    | (go_at_call 131
       refine (rcomp_any (A := A) 1 _ (⟨(nxD a b c 0).maj, (nxD a b c 0).min, (nxD a b c 0).pat, [[48]], []⟩ : SemL) w3 ⟨_, _, rfl, txt_z Z3.out, txt_nil _, capA_one HAz.out, capZ (txt_nil w)⟩).mono ?_
       rintro e w4 h4
       have HR := hide ((h4.toR (by simp)).back B3.out)
       have P4 : Hid (w4.heap[w.heap.size]? = some (.cells #[.string (ofL a), .string (ofL b), .string (ofL c), .slice x n m, .int .i64 1] 123 (0, 0))) := (h4.1.block w.heap.size LT3.out).trans P3.out
       have e0 : w4.cell? ⟨w.heap.size, 0, none⟩ = some (.string (ofL a)) := cell_at 0 P4.out rfl
       have e1 : w4.cell? ⟨w.heap.size, 1, none⟩ = some (.string (ofL b)) := cell_at 1 P4.out rfl
       have e2 : w4.cell? ⟨w.heap.size, 2, none⟩ = some (.string (ofL c)) := cell_at 2 P4.out rfl
       have e3 : w4.cell? ⟨w.heap.size, 3, none⟩ = some (.slice x n m) := cell_at 3 P4.out rfl
       have e4 : w4.cell? ⟨w.heap.size, 4, none⟩ = some (.int .i64 1) := cell_at 4 P4.out rfl
       obtain ⟨b4, x4, rfl, _⟩ := comp_one h4
       clear h4)
    | (go_at_call 136
       refine (rnextK_any a b c x n m 1 0 (by omega) (some ⟨zb, 0, none⟩) 1 1 w2 l1 l2 l3).mono ?_
       rintro e w3 ⟨rfl, hf2⟩
       have B3 := hide (B2.out.trans (hf2.mono B2.out.size))
       have Z3 : Hid (w3.heap[zb]? = some (.cells #[.string ⟨#[48]⟩] 9 (0, 0))) := (hf2.block zb (Array.getElem?_eq_some_iff.1 Z2.out).1).trans Z2.out
       have P3 : Hid (w3.heap[w.heap.size]? = some (.cells #[.string (ofL a), .string (ofL b), .string (ofL c), .slice x n m, .int .i64 1] 123 (0, 0))) := (hf2.block w.heap.size LT2.out).trans P2.out
       have LT3 := hide (Nat.lt_of_lt_of_le LT2.out hf2.size)
       have e0 : w3.cell? ⟨w.heap.size, 0, none⟩ = some (.string (ofL a)) := cell_at 0 P3.out rfl
       have e1 : w3.cell? ⟨w.heap.size, 1, none⟩ = some (.string (ofL b)) := cell_at 1 P3.out rfl
       have e2 : w3.cell? ⟨w.heap.size, 2, none⟩ = some (.string (ofL c)) := cell_at 2 P3.out rfl
       have e3 : w3.cell? ⟨w.heap.size, 3, none⟩ = some (.slice x n m) := cell_at 3 P3.out rfl
       have e4 : w3.cell? ⟨w.heap.size, 4, none⟩ = some (.int .i64 1) := cell_at 4 P3.out rfl
       clear hf2)
    | (go_at_call 137
       refine (rzero_any w1).mono ?_
       rintro e w2 ⟨rfl, hw2⟩
       have F2 : Hid (Below w1.heap.size w1 w2) := (hw2 ▸ (Below.refl _ w1).alloc (Nat.le_refl _) _)
       have Z2' : w2.heap[w1.heap.size]? = some (.cells #[.string ⟨#[48]⟩] 9 (0, 0)) := hw2 ▸ World.alloc_heap_new w1 _
       obtain ⟨zb, hzb⟩ : ∃ zb, w1.heap.size = zb := ⟨_, rfl⟩
       rw [hzb] at Z2' ⊢
       have Z2 := hide Z2'
       have HAz : Hid (A zb) := HA.out zb (by have := B1.out.size; omega)
       have B2 := hide (B1.out.trans (F2.out.mono B1.out.size))
       have P2 : Hid (w2.heap[w.heap.size]? = some (.cells #[.string (ofL a), .string (ofL b), .string (ofL c), .slice x n m, .int .i64 1] 123 (0, 0))) := (F2.out.block w.heap.size LT1.out).trans P1.out
       have LT2 := hide (Nat.lt_of_lt_of_le LT1.out F2.out.size)
       have e0 : w2.cell? ⟨w.heap.size, 0, none⟩ = some (.string (ofL a)) := cell_at 0 P2.out rfl
       have e1 : w2.cell? ⟨w.heap.size, 1, none⟩ = some (.string (ofL b)) := cell_at 1 P2.out rfl
       have e2 : w2.cell? ⟨w.heap.size, 2, none⟩ = some (.string (ofL c)) := cell_at 2 P2.out rfl
       have e3 : w2.cell? ⟨w.heap.size, 3, none⟩ = some (.slice x n m) := cell_at 3 P2.out rfl
       have e4 : w2.cell? ⟨w.heap.size, 4, none⟩ = some (.int .i64 1) := cell_at 4 P2.out rfl
       clear hw2 Z2' hzb)
    | (go_at_call 134
       refine (rlast_any a b c x n m 1 _ (by omega)).mono ?_
       rintro e w1 ⟨rfl, hf0⟩
       have B1 := hide (bD.out.trans (hf0.mono bD.out.size))
       have P1 : Hid (w1.heap[w.heap.size]? = some (.cells #[.string (ofL a), .string (ofL b), .string (ofL c), .slice x n m, .int .i64 1] 123 (0, 0))) := (hf0.block w.heap.size hl0.out).trans N0.out
       have LT1 : Hid (w.heap.size < w1.heap.size) := (Array.getElem?_eq_some_iff.1 P1.out).1
       have e0 : w1.cell? ⟨w.heap.size, 0, none⟩ = some (.string (ofL a)) := cell_at 0 P1.out rfl
       have e1 : w1.cell? ⟨w.heap.size, 1, none⟩ = some (.string (ofL b)) := cell_at 1 P1.out rfl
       have e2 : w1.cell? ⟨w.heap.size, 2, none⟩ = some (.string (ofL c)) := cell_at 2 P1.out rfl
       have e3 : w1.cell? ⟨w.heap.size, 3, none⟩ = some (.slice x n m) := cell_at 3 P1.out rfl
       have e4 : w1.cell? ⟨w.heap.size, 4, none⟩ = some (.int .i64 1) := cell_at 4 P1.out rfl
       clear hf0)
    | fail))
  try dsimp only
  go_wp2_with fail
  go_ret
  exact HR.out

set_option maxRecDepth 100000 in
set_option maxHeartbeats 4000000 in
theorem means_upto_2 (t : ByteArray) (htl : t.data.toList = [60, 61]) (a b c : List UInt8) (pr : List (List UInt8)) (x : Option Addr) (n m : Nat) (w : World) (hA : ∀ b, w.heap.size ≤ b → A b) (ht : Txt w (.slice x n m) pr) (hc : CapA A (.slice x n m)) (l1 : a.length ≤ 1024) (l2 : b.length ≤ 1024) (l3 : c.length ≤ 1024) :
    Calls Tryz.prog 98 #[.string t, .agg #[.string (ofL a), .string (ofL b), .string (ofL c), .slice x n m, .int .i64 2]] w (CompsR A w [(1, (⟨(nxD a b c 1).maj, (nxD a b c 1).min, (nxD a b c 1).pat, [[48]], []⟩ : SemL))]) := by
  have g0 : t.toList.isEmpty = false := by rw [toL, htl]; rfl
  have g61 : (t.toList == [61]) = false := by rw [toL, htl]; rfl
  have g62 : (t.toList == [62]) = false := by rw [toL, htl]; rfl
  have g62_61 : (t.toList == [62, 61]) = false := by rw [toL, htl]; rfl
  have g60 : (t.toList == [60]) = false := by rw [toL, htl]; rfl
  have g60_61 : (t.toList == [60, 61]) = true := by rw [toL, htl]; rfl
  have g126 : (t.toList == [126]) = false := by rw [toL, htl]; rfl
  have HA := hide hA
  have T0 := hide ht
  have C0 := hide hc
  clear htl hA ht hc
  have b0 := hide ((Below.refl _ w).alloc (Nat.le_refl _) (.cells #[.string (ofL a), .string (ofL b), .string (ofL c), .slice x n m, .int .i64 2] 123))
  have n0 := World.alloc_heap_new w (.cells #[.string (ofL a), .string (ofL b), .string (ofL c), .slice x n m, .int .i64 2] 123)

  go_enter Tryz.func98, Tryz.ntmps98
  go_wp2_with fail

  generalize w.alloc _ = W0 at *
  have hl0 := hide (Array.getElem?_eq_some_iff.1 n0).1
  have N0 := hide n0
  clear n0
  have q0 := cell_at 0 N0.out rfl
  have q1 := cell_at 1 N0.out rfl
  have q2 := cell_at 2 N0.out rfl
  have q3 := cell_at 3 N0.out rfl
  have q4 := cell_at 4 N0.out rfl

  have bD := hide (b0.out.trans (drew_below w.heap.size W0))
  go_region_held3 (fun W' => W'.cell? ⟨w.heap.size, 0, none⟩ = some (.string (ofL a)) ∧ W'.cell? ⟨w.heap.size, 1, none⟩ = some (.string (ofL b)) ∧ W'.cell? ⟨w.heap.size, 2, none⟩ = some (.string (ofL c)) ∧ W'.cell? ⟨w.heap.size, 3, none⟩ = some (.slice x n m) ∧ W'.cell? ⟨w.heap.size, 4, none⟩ = some (.int .i64 2)) (go_keep) ((first
    | (go_at_call 131
       refine (rcomp_any (A := A) 1 _ (⟨(nxD a b c 1).maj, (nxD a b c 1).min, (nxD a b c 1).pat, [[48]], []⟩ : SemL) w3 ⟨_, _, rfl, txt_z Z3.out, txt_nil _, capA_one HAz.out, capZ (txt_nil w)⟩).mono ?_
       rintro e w4 h4
       have HR := hide ((h4.toR (by simp)).back B3.out)
       have P4 : Hid (w4.heap[w.heap.size]? = some (.cells #[.string (ofL a), .string (ofL b), .string (ofL c), .slice x n m, .int .i64 2] 123 (0, 0))) := (h4.1.block w.heap.size LT3.out).trans P3.out
       have e0 : w4.cell? ⟨w.heap.size, 0, none⟩ = some (.string (ofL a)) := cell_at 0 P4.out rfl
       have e1 : w4.cell? ⟨w.heap.size, 1, none⟩ = some (.string (ofL b)) := cell_at 1 P4.out rfl
       have e2 : w4.cell? ⟨w.heap.size, 2, none⟩ = some (.string (ofL c)) := cell_at 2 P4.out rfl
       have e3 : w4.cell? ⟨w.heap.size, 3, none⟩ = some (.slice x n m) := cell_at 3 P4.out rfl
       have e4 : w4.cell? ⟨w.heap.size, 4, none⟩ = some (.int .i64 2) := cell_at 4 P4.out rfl
       obtain ⟨b4, x4, rfl, _⟩ := comp_one h4
       clear h4)
    | (go_at_call 136
       refine (rnextK_any a b c x n m 2 1 (by omega) (some ⟨zb, 0, none⟩) 1 1 w2 l1 l2 l3).mono ?_
       rintro e w3 ⟨rfl, hf2⟩
       have B3 := hide (B2.out.trans (hf2.mono B2.out.size))
       have Z3 : Hid (w3.heap[zb]? = some (.cells #[.string ⟨#[48]⟩] 9 (0, 0))) := (hf2.block zb (Array.getElem?_eq_some_iff.1 Z2.out).1).trans Z2.out
       have P3 : Hid (w3.heap[w.heap.size]? = some (.cells #[.string (ofL a), .string (ofL b), .string (ofL c), .slice x n m, .int .i64 2] 123 (0, 0))) := (hf2.block w.heap.size LT2.out).trans P2.out
       have LT3 := hide (Nat.lt_of_lt_of_le LT2.out hf2.size)
       have e0 : w3.cell? ⟨w.heap.size, 0, none⟩ = some (.string (ofL a)) := cell_at 0 P3.out rfl
       have e1 : w3.cell? ⟨w.heap.size, 1, none⟩ = some (.string (ofL b)) := cell_at 1 P3.out rfl
       have e2 : w3.cell? ⟨w.heap.size, 2, none⟩ = some (.string (ofL c)) := cell_at 2 P3.out rfl
       have e3 : w3.cell? ⟨w.heap.size, 3, none⟩ = some (.slice x n m) := cell_at 3 P3.out rfl
       have e4 : w3.cell? ⟨w.heap.size, 4, none⟩ = some (.int .i64 2) := cell_at 4 P3.out rfl
       clear hf2)
    | (go_at_call 137
       refine (rzero_any w1).mono ?_
       rintro e w2 ⟨rfl, hw2⟩
       have F2 : Hid (Below w1.heap.size w1 w2) := (hw2 ▸ (Below.refl _ w1).alloc (Nat.le_refl _) _)
       have Z2' : w2.heap[w1.heap.size]? = some (.cells #[.string ⟨#[48]⟩] 9 (0, 0)) := hw2 ▸ World.alloc_heap_new w1 _
       obtain ⟨zb, hzb⟩ : ∃ zb, w1.heap.size = zb := ⟨_, rfl⟩
       rw [hzb] at Z2' ⊢
       have Z2 := hide Z2'
       have HAz : Hid (A zb) := HA.out zb (by have := B1.out.size; omega)
       have B2 := hide (B1.out.trans (F2.out.mono B1.out.size))
       have P2 : Hid (w2.heap[w.heap.size]? = some (.cells #[.string (ofL a), .string (ofL b), .string (ofL c), .slice x n m, .int .i64 2] 123 (0, 0))) := (F2.out.block w.heap.size LT1.out).trans P1.out
       have LT2 := hide (Nat.lt_of_lt_of_le LT1.out F2.out.size)
       have e0 : w2.cell? ⟨w.heap.size, 0, none⟩ = some (.string (ofL a)) := cell_at 0 P2.out rfl
       have e1 : w2.cell? ⟨w.heap.size, 1, none⟩ = some (.string (ofL b)) := cell_at 1 P2.out rfl
       have e2 : w2.cell? ⟨w.heap.size, 2, none⟩ = some (.string (ofL c)) := cell_at 2 P2.out rfl
       have e3 : w2.cell? ⟨w.heap.size, 3, none⟩ = some (.slice x n m) := cell_at 3 P2.out rfl
       have e4 : w2.cell? ⟨w.heap.size, 4, none⟩ = some (.int .i64 2) := cell_at 4 P2.out rfl
       clear hw2 Z2' hzb)
    | (go_at_call 134
       refine (rlast_any a b c x n m 2 _ (by omega)).mono ?_
       rintro e w1 ⟨rfl, hf0⟩
       have B1 := hide (bD.out.trans (hf0.mono bD.out.size))
       have P1 : Hid (w1.heap[w.heap.size]? = some (.cells #[.string (ofL a), .string (ofL b), .string (ofL c), .slice x n m, .int .i64 2] 123 (0, 0))) := (hf0.block w.heap.size hl0.out).trans N0.out
       have LT1 : Hid (w.heap.size < w1.heap.size) := (Array.getElem?_eq_some_iff.1 P1.out).1
       have e0 : w1.cell? ⟨w.heap.size, 0, none⟩ = some (.string (ofL a)) := cell_at 0 P1.out rfl
       have e1 : w1.cell? ⟨w.heap.size, 1, none⟩ = some (.string (ofL b)) := cell_at 1 P1.out rfl
       have e2 : w1.cell? ⟨w.heap.size, 2, none⟩ = some (.string (ofL c)) := cell_at 2 P1.out rfl
       have e3 : w1.cell? ⟨w.heap.size, 3, none⟩ = some (.slice x n m) := cell_at 3 P1.out rfl
       have e4 : w1.cell? ⟨w.heap.size, 4, none⟩ = some (.int .i64 2) := cell_at 4 P1.out rfl
       clear hf0)
    | fail))
  try dsimp only
  go_wp2_with fail
  go_ret
  exact HR.out

set_option maxRecDepth 100000 in
set_option maxHeartbeats 4000000 in
theorem means_upto_3 (t : ByteArray) (htl : t.data.toList = [60, 61]) (a b c : List UInt8) (pr : List (List UInt8)) (x : Option Addr) (n m : Nat) (w : World) (hA : ∀ b, w.heap.size ≤ b → A b) (ht : Txt w (.slice x n m) pr) (hc : CapA A (.slice x n m)) (l1 : a.length ≤ 1024) (l2 : b.length ≤ 1024) (l3 : c.length ≤ 1024) :
    Calls Tryz.prog 98 #[.string t, .agg #[.string (ofL a), .string (ofL b), .string (ofL c), .slice x n m, .int .i64 3]] w (CompsR A w [(2, (⟨zN a, zN b, zN c, pr, []⟩ : SemL))]) := by
  have g0 : t.toList.isEmpty = false := by rw [toL, htl]; rfl
  have g61 : (t.toList == [61]) = false := by rw [toL, htl]; rfl
  have g62 : (t.toList == [62]) = false := by rw [toL, htl]; rfl
  have g62_61 : (t.toList == [62, 61]) = false := by rw [toL, htl]; rfl
  have g60 : (t.toList == [60]) = false := by rw [toL, htl]; rfl
  have g60_61 : (t.toList == [60, 61]) = true := by rw [toL, htl]; rfl
  have g126 : (t.toList == [126]) = false := by rw [toL, htl]; rfl
  have HA := hide hA
  have T0 := hide ht
  have C0 := hide hc
  clear htl hA ht hc
  have b0 := hide ((Below.refl _ w).alloc (Nat.le_refl _) (.cells #[.string (ofL a), .string (ofL b), .string (ofL c), .slice x n m, .int .i64 3] 123))
  have n0 := World.alloc_heap_new w (.cells #[.string (ofL a), .string (ofL b), .string (ofL c), .slice x n m, .int .i64 3] 123)

  go_enter Tryz.func98, Tryz.ntmps98
  go_wp2_with fail

  generalize w.alloc _ = W0 at *
  have hl0 := hide (Array.getElem?_eq_some_iff.1 n0).1
  have N0 := hide n0
  clear n0

  refine (rbegin_any a b c x n m 3 W0).mono ?_
  rintro e w1 ⟨rfl, h1⟩
  have B1 := hide (b0.out.trans (h1.mono b0.out.size))
  clear h1
  go_wp2_with fail
  refine (rcomp_any (A := A) 2 _ (⟨zN a, zN b, zN c, pr, []⟩ : SemL) w1 ⟨_, _, rfl, T0.out.below B1.out, txt_nil _, C0.out, capZ (txt_nil w)⟩).mono ?_
  rintro e w2 h2
  have HR := hide ((h2.toR (by simp)).back B1.out)
  obtain ⟨b1, x1, rfl, _⟩ := comp_one h2
  clear h2
  go_wp2_with fail
  go_ret
  exact HR.out

set_option maxRecDepth 100000 in
set_option maxHeartbeats 4000000 in
theorem means_tilde_0 (t : ByteArray) (htl : t.data.toList = [126]) (a b c : List UInt8) (pr : List (List UInt8)) (x : Option Addr) (n m : Nat) (w : World) (hA : ∀ b, w.heap.size ≤ b → A b) (ht : Txt w (.slice x n m) pr) (hc : CapA A (.slice x n m)) (l1 : a.length ≤ 1024) (l2 : b.length ≤ 1024) (l3 : c.length ≤ 1024) :
    Calls Tryz.prog 98 #[.string t, .agg #[.string (ofL a), .string (ofL b), .string (ofL c), .slice x n m, .int .i64 0]] w (CompsR A w []) := by
  have g0 : t.toList.isEmpty = false := by rw [toL, htl]; rfl
  have g61 : (t.toList == [61]) = false := by rw [toL, htl]; rfl
  have g62 : (t.toList == [62]) = false := by rw [toL, htl]; rfl
  have g62_61 : (t.toList == [62, 61]) = false := by rw [toL, htl]; rfl
  have g60 : (t.toList == [60]) = false := by rw [toL, htl]; rfl
  have g60_61 : (t.toList == [60, 61]) = false := by rw [toL, htl]; rfl
  have g126 : (t.toList == [126]) = true := by rw [toL, htl]; rfl
  have HA := hide hA
  have T0 := hide ht
  have C0 := hide hc
  clear htl hA ht hc
  have b0 := hide ((Below.refl _ w).alloc (Nat.le_refl _) (.cells #[.string (ofL a), .string (ofL b), .string (ofL c), .slice x n m, .int .i64 0] 123))
  have n0 := World.alloc_heap_new w (.cells #[.string (ofL a), .string (ofL b), .string (ofL c), .slice x n m, .int .i64 0] 123)
  clear n0

  go_enter Tryz.func98, Tryz.ntmps98
  go_wp2_with fail
  go_ret
  exact ⟨b0.out, _, [], rfl, World.ownsRow_nil _ _ _ _, rfl⟩

set_option maxRecDepth 100000 in
set_option maxHeartbeats 4000000 in
theorem means_tilde_1 (t : ByteArray) (htl : t.data.toList = [126]) (a b c : List UInt8) (pr : List (List UInt8)) (x : Option Addr) (n m : Nat) (w : World) (hA : ∀ b, w.heap.size ≤ b → A b) (ht : Txt w (.slice x n m) pr) (hc : CapA A (.slice x n m)) (l1 : a.length ≤ 1024) (l2 : b.length ≤ 1024) (l3 : c.length ≤ 1024) :
    Calls Tryz.prog 98 #[.string t, .agg #[.string (ofL a), .string (ofL b), .string (ofL c), .slice x n m, .int .i64 1]] w (CompsR A w [(4, (⟨zN a, zN b, zN c, pr, []⟩ : SemL)), (1, nxD a b c 0)]) := by
  have g0 : t.toList.isEmpty = false := by rw [toL, htl]; rfl
  have g61 : (t.toList == [61]) = false := by rw [toL, htl]; rfl
  have g62 : (t.toList == [62]) = false := by rw [toL, htl]; rfl
  have g62_61 : (t.toList == [62, 61]) = false := by rw [toL, htl]; rfl
  have g60 : (t.toList == [60]) = false := by rw [toL, htl]; rfl
  have g60_61 : (t.toList == [60, 61]) = false := by rw [toL, htl]; rfl
  have g126 : (t.toList == [126]) = true := by rw [toL, htl]; rfl
  have HA := hide hA
  have T0 := hide ht
  have C0 := hide hc
  clear htl hA ht hc
  have b0 := hide ((Below.refl _ w).alloc (Nat.le_refl _) (.cells #[.string (ofL a), .string (ofL b), .string (ofL c), .slice x n m, .int .i64 1] 123))
  have n0 := World.alloc_heap_new w (.cells #[.string (ofL a), .string (ofL b), .string (ofL c), .slice x n m, .int .i64 1] 123)

  go_enter Tryz.func98, Tryz.ntmps98
  go_wp2_with fail

  generalize w.alloc _ = W0 at *
  have hl0 := hide (Array.getElem?_eq_some_iff.1 n0).1
  have N0 := hide n0
  clear n0
  have q0 := cell_at 0 N0.out rfl
  have q1 := cell_at 1 N0.out rfl
  have q2 := cell_at 2 N0.out rfl
  have q3 := cell_at 3 N0.out rfl
  have q4 := cell_at 4 N0.out rfl

  have bD := hide (b0.out.trans (drew_below w.heap.size W0))
  go_region_held3 (fun W' => W'.cell? ⟨w.heap.size, 0, none⟩ = some (.string (ofL a)) ∧ W'.cell? ⟨w.heap.size, 1, none⟩ = some (.string (ofL b)) ∧ W'.cell? ⟨w.heap.size, 2, none⟩ = some (.string (ofL c)) ∧ W'.cell? ⟨w.heap.size, 3, none⟩ = some (.slice x n m) ∧ W'.cell? ⟨w.heap.size, 4, none⟩ = some (.int .i64 1)) (go_keep) ((first
    | (go_at_call 133
       refine (between_any (A := A) a b c pr x n m 1 0 (by omega) w1 (fun b hb => HA.out b (Nat.le_trans B1.out.size hb)) (T0.out.below B1.out) C0.out l1 l2 l3).mono ?_
       rintro e w2 h2
       have HR := hide (h2.back B1.out)
       have P2 : Hid (w2.heap[w.heap.size]? = some (.cells #[.string (ofL a), .string (ofL b), .string (ofL c), .slice x n m, .int .i64 1] 123 (0, 0))) := (h2.1.block w.heap.size LT1.out).trans P1.out
       have e0 : w2.cell? ⟨w.heap.size, 0, none⟩ = some (.string (ofL a)) := cell_at 0 P2.out rfl
       have e1 : w2.cell? ⟨w.heap.size, 1, none⟩ = some (.string (ofL b)) := cell_at 1 P2.out rfl
       have e2 : w2.cell? ⟨w.heap.size, 2, none⟩ = some (.string (ofL c)) := cell_at 2 P2.out rfl
       have e3 : w2.cell? ⟨w.heap.size, 3, none⟩ = some (.slice x n m) := cell_at 3 P2.out rfl
       have e4 : w2.cell? ⟨w.heap.size, 4, none⟩ = some (.int .i64 1) := cell_at 4 P2.out rfl
       obtain ⟨_, v2, x2, rfl, _⟩ := h2)
    | (go_at_call 134
       refine (rlast_any a b c x n m 1 _ (by omega)).mono ?_
       rintro e w1 ⟨rfl, hf0⟩
       have B1 := hide (bD.out.trans (hf0.mono bD.out.size))
       have P1 : Hid (w1.heap[w.heap.size]? = some (.cells #[.string (ofL a), .string (ofL b), .string (ofL c), .slice x n m, .int .i64 1] 123 (0, 0))) := (hf0.block w.heap.size hl0.out).trans N0.out
       have LT1 : Hid (w.heap.size < w1.heap.size) := (Array.getElem?_eq_some_iff.1 P1.out).1
       have e0 : w1.cell? ⟨w.heap.size, 0, none⟩ = some (.string (ofL a)) := cell_at 0 P1.out rfl
       have e1 : w1.cell? ⟨w.heap.size, 1, none⟩ = some (.string (ofL b)) := cell_at 1 P1.out rfl
       have e2 : w1.cell? ⟨w.heap.size, 2, none⟩ = some (.string (ofL c)) := cell_at 2 P1.out rfl
       have e3 : w1.cell? ⟨w.heap.size, 3, none⟩ = some (.slice x n m) := cell_at 3 P1.out rfl
       have e4 : w1.cell? ⟨w.heap.size, 4, none⟩ = some (.int .i64 1) := cell_at 4 P1.out rfl
       clear hf0)
    | fail))
  try dsimp only
  go_wp2_with fail
  go_ret
  exact HR.out

set_option maxRecDepth 100000 in
set_option maxHeartbeats 4000000 in
theorem means_tilde_2 (t : ByteArray) (htl : t.data.toList = [126]) (a b c : List UInt8) (pr : List (List UInt8)) (x : Option Addr) (n m : Nat) (w : World) (hA : ∀ b, w.heap.size ≤ b → A b) (ht : Txt w (.slice x n m) pr) (hc : CapA A (.slice x n m)) (l1 : a.length ≤ 1024) (l2 : b.length ≤ 1024) (l3 : c.length ≤ 1024) :
    Calls Tryz.prog 98 #[.string t, .agg #[.string (ofL a), .string (ofL b), .string (ofL c), .slice x n m, .int .i64 2]] w (CompsR A w [(4, (⟨zN a, zN b, zN c, pr, []⟩ : SemL)), (1, nxD a b c 1)]) := by
  have g0 : t.toList.isEmpty = false := by rw [toL, htl]; rfl
  have g61 : (t.toList == [61]) = false := by rw [toL, htl]; rfl
  have g62 : (t.toList == [62]) = false := by rw [toL, htl]; rfl
  have g62_61 : (t.toList == [62, 61]) = false := by rw [toL, htl]; rfl
  have g60 : (t.toList == [60]) = false := by rw [toL, htl]; rfl
  have g60_61 : (t.toList == [60, 61]) = false := by rw [toL, htl]; rfl
  have g126 : (t.toList == [126]) = true := by rw [toL, htl]; rfl
  have HA := hide hA
  have T0 := hide ht
  have C0 := hide hc
  clear htl hA ht hc
  have b0 := hide ((Below.refl _ w).alloc (Nat.le_refl _) (.cells #[.string (ofL a), .string (ofL b), .string (ofL c), .slice x n m, .int .i64 2] 123))
  have n0 := World.alloc_heap_new w (.cells #[.string (ofL a), .string (ofL b), .string (ofL c), .slice x n m, .int .i64 2] 123)

  go_enter Tryz.func98, Tryz.ntmps98
  go_wp2_with fail

  generalize w.alloc _ = W0 at *
  have hl0 := hide (Array.getElem?_eq_some_iff.1 n0).1
  have N0 := hide n0
  clear n0
  have q0 := cell_at 0 N0.out rfl
  have q1 := cell_at 1 N0.out rfl
  have q2 := cell_at 2 N0.out rfl
  have q3 := cell_at 3 N0.out rfl
  have q4 := cell_at 4 N0.out rfl

  have bD := hide (b0.out.trans (drew_below w.heap.size W0))
  go_region_held3 (fun W' => W'.cell? ⟨w.heap.size, 0, none⟩ = some (.string (ofL a)) ∧ W'.cell? ⟨w.heap.size, 1, none⟩ = some (.string (ofL b)) ∧ W'.cell? ⟨w.heap.size, 2, none⟩ = some (.string (ofL c)) ∧ W'.cell? ⟨w.heap.size, 3, none⟩ = some (.slice x n m) ∧ W'.cell? ⟨w.heap.size, 4, none⟩ = some (.int .i64 2)) (go_keep) ((first
    | (go_at_call 133
       refine (between_any (A := A) a b c pr x n m 2 1 (by omega) w1 (fun b hb => HA.out b (Nat.le_trans B1.out.size hb)) (T0.out.below B1.out) C0.out l1 l2 l3).mono ?_
       rintro e w2 h2
       have HR := hide (h2.back B1.out)
       have P2 : Hid (w2.heap[w.heap.size]? = some (.cells #[.string (ofL a), .string (ofL b), .string (ofL c), .slice x n m, .int .i64 2] 123 (0, 0))) := (h2.1.block w.heap.size LT1.out).trans P1.out
       have e0 : w2.cell? ⟨w.heap.size, 0, none⟩ = some (.string (ofL a)) := cell_at 0 P2.out rfl
       have e1 : w2.cell? ⟨w.heap.size, 1, none⟩ = some (.string (ofL b)) := cell_at 1 P2.out rfl
       have e2 : w2.cell? ⟨w.heap.size, 2, none⟩ = some (.string (ofL c)) := cell_at 2 P2.out rfl
       have e3 : w2.cell? ⟨w.heap.size, 3, none⟩ = some (.slice x n m) := cell_at 3 P2.out rfl
       have e4 : w2.cell? ⟨w.heap.size, 4, none⟩ = some (.int .i64 2) := cell_at 4 P2.out rfl
       obtain ⟨_, v2, x2, rfl, _⟩ := h2)
    | (go_at_call 134
       refine (rlast_any a b c x n m 2 _ (by omega)).mono ?_
       rintro e w1 ⟨rfl, hf0⟩
       have B1 := hide (bD.out.trans (hf0.mono bD.out.size))
       have P1 : Hid (w1.heap[w.heap.size]? = some (.cells #[.string (ofL a), .string (ofL b), .string (ofL c), .slice x n m, .int .i64 2] 123 (0, 0))) := (hf0.block w.heap.size hl0.out).trans N0.out
       have LT1 : Hid (w.heap.size < w1.heap.size) := (Array.getElem?_eq_some_iff.1 P1.out).1
       have e0 : w1.cell? ⟨w.heap.size, 0, none⟩ = some (.string (ofL a)) := cell_at 0 P1.out rfl
       have e1 : w1.cell? ⟨w.heap.size, 1, none⟩ = some (.string (ofL b)) := cell_at 1 P1.out rfl
       have e2 : w1.cell? ⟨w.heap.size, 2, none⟩ = some (.string (ofL c)) := cell_at 2 P1.out rfl
       have e3 : w1.cell? ⟨w.heap.size, 3, none⟩ = some (.slice x n m) := cell_at 3 P1.out rfl
       have e4 : w1.cell? ⟨w.heap.size, 4, none⟩ = some (.int .i64 2) := cell_at 4 P1.out rfl
       clear hf0)
    | fail))
  try dsimp only
  go_wp2_with fail
  go_ret
  exact HR.out

set_option maxRecDepth 100000 in
set_option maxHeartbeats 4000000 in
theorem means_tilde_3 (t : ByteArray) (htl : t.data.toList = [126]) (a b c : List UInt8) (pr : List (List UInt8)) (x : Option Addr) (n m : Nat) (w : World) (hA : ∀ b, w.heap.size ≤ b → A b) (ht : Txt w (.slice x n m) pr) (hc : CapA A (.slice x n m)) (l1 : a.length ≤ 1024) (l2 : b.length ≤ 1024) (l3 : c.length ≤ 1024) :
    Calls Tryz.prog 98 #[.string t, .agg #[.string (ofL a), .string (ofL b), .string (ofL c), .slice x n m, .int .i64 3]] w (CompsR A w [(4, (⟨zN a, zN b, zN c, pr, []⟩ : SemL)), (1, nxD a b c 1)]) := by
  have g0 : t.toList.isEmpty = false := by rw [toL, htl]; rfl
  have g61 : (t.toList == [61]) = false := by rw [toL, htl]; rfl
  have g62 : (t.toList == [62]) = false := by rw [toL, htl]; rfl
  have g62_61 : (t.toList == [62, 61]) = false := by rw [toL, htl]; rfl
  have g60 : (t.toList == [60]) = false := by rw [toL, htl]; rfl
  have g60_61 : (t.toList == [60, 61]) = false := by rw [toL, htl]; rfl
  have g126 : (t.toList == [126]) = true := by rw [toL, htl]; rfl
  have HA := hide hA
  have T0 := hide ht
  have C0 := hide hc
  clear htl hA ht hc
  have b0 := hide ((Below.refl _ w).alloc (Nat.le_refl _) (.cells #[.string (ofL a), .string (ofL b), .string (ofL c), .slice x n m, .int .i64 3] 123))
  have n0 := World.alloc_heap_new w (.cells #[.string (ofL a), .string (ofL b), .string (ofL c), .slice x n m, .int .i64 3] 123)

  go_enter Tryz.func98, Tryz.ntmps98
  go_wp2_with fail

  generalize w.alloc _ = W0 at *
  have hl0 := hide (Array.getElem?_eq_some_iff.1 n0).1
  have N0 := hide n0
  clear n0
  have q0 := cell_at 0 N0.out rfl
  have q1 := cell_at 1 N0.out rfl
  have q2 := cell_at 2 N0.out rfl
  have q3 := cell_at 3 N0.out rfl
  have q4 := cell_at 4 N0.out rfl

  have bD := hide (b0.out.trans (drew_below w.heap.size W0))
  go_region_held3 (fun W' => W'.cell? ⟨w.heap.size, 0, none⟩ = some (.string (ofL a)) ∧ W'.cell? ⟨w.heap.size, 1, none⟩ = some (.string (ofL b)) ∧ W'.cell? ⟨w.heap.size, 2, none⟩ = some (.string (ofL c)) ∧ W'.cell? ⟨w.heap.size, 3, none⟩ = some (.slice x n m) ∧ W'.cell? ⟨w.heap.size, 4, none⟩ = some (.int .i64 3)) (go_keep) ((first
    | (go_at_call 133
       refine (between_any (A := A) a b c pr x n m 3 1 (by omega) w1 (fun b hb => HA.out b (Nat.le_trans B1.out.size hb)) (T0.out.below B1.out) C0.out l1 l2 l3).mono ?_
       rintro e w2 h2
       have HR := hide (h2.back B1.out)
       have P2 : Hid (w2.heap[w.heap.size]? = some (.cells #[.string (ofL a), .string (ofL b), .string (ofL c), .slice x n m, .int .i64 3] 123 (0, 0))) := (h2.1.block w.heap.size LT1.out).trans P1.out
       have e0 : w2.cell? ⟨w.heap.size, 0, none⟩ = some (.string (ofL a)) := cell_at 0 P2.out rfl
       have e1 : w2.cell? ⟨w.heap.size, 1, none⟩ = some (.string (ofL b)) := cell_at 1 P2.out rfl
       have e2 : w2.cell? ⟨w.heap.size, 2, none⟩ = some (.string (ofL c)) := cell_at 2 P2.out rfl
       have e3 : w2.cell? ⟨w.heap.size, 3, none⟩ = some (.slice x n m) := cell_at 3 P2.out rfl
       have e4 : w2.cell? ⟨w.heap.size, 4, none⟩ = some (.int .i64 3) := cell_at 4 P2.out rfl
       obtain ⟨_, v2, x2, rfl, _⟩ := h2)
    | (go_at_call 134
       refine (rlast_any a b c x n m 3 _ (by omega)).mono ?_
       rintro e w1 ⟨rfl, hf0⟩
       have B1 := hide (bD.out.trans (hf0.mono bD.out.size))
       have P1 : Hid (w1.heap[w.heap.size]? = some (.cells #[.string (ofL a), .string (ofL b), .string (ofL c), .slice x n m, .int .i64 3] 123 (0, 0))) := (hf0.block w.heap.size hl0.out).trans N0.out
       have LT1 : Hid (w.heap.size < w1.heap.size) := (Array.getElem?_eq_some_iff.1 P1.out).1
       have e0 : w1.cell? ⟨w.heap.size, 0, none⟩ = some (.string (ofL a)) := cell_at 0 P1.out rfl
       have e1 : w1.cell? ⟨w.heap.size, 1, none⟩ = some (.string (ofL b)) := cell_at 1 P1.out rfl
       have e2 : w1.cell? ⟨w.heap.size, 2, none⟩ = some (.string (ofL c)) := cell_at 2 P1.out rfl
       have e3 : w1.cell? ⟨w.heap.size, 3, none⟩ = some (.slice x n m) := cell_at 3 P1.out rfl
       have e4 : w1.cell? ⟨w.heap.size, 4, none⟩ = some (.int .i64 3) := cell_at 4 P1.out rfl
       clear hf0)
    | fail))
  try dsimp only
  go_wp2_with fail
  go_ret
  exact HR.out

set_option maxRecDepth 100000 in
set_option maxHeartbeats 4000000 in
theorem means_caret_0 (t : ByteArray) (htl : t.data.toList = [94]) (a b c : List UInt8) (pr : List (List UInt8)) (x : Option Addr) (n m : Nat) (w : World) (hA : ∀ b, w.heap.size ≤ b → A b) (ht : Txt w (.slice x n m) pr) (hc : CapA A (.slice x n m)) (l1 : a.length ≤ 1024) (l2 : b.length ≤ 1024) (l3 : c.length ≤ 1024) :
    Calls Tryz.prog 98 #[.string t, .agg #[.string (ofL a), .string (ofL b), .string (ofL c), .slice x n m, .int .i64 0]] w (CompsR A w []) := by
  have g0 : t.toList.isEmpty = false := by rw [toL, htl]; rfl
  have g61 : (t.toList == [61]) = false := by rw [toL, htl]; rfl
  have g62 : (t.toList == [62]) = false := by rw [toL, htl]; rfl
  have g62_61 : (t.toList == [62, 61]) = false := by rw [toL, htl]; rfl
  have g60 : (t.toList == [60]) = false := by rw [toL, htl]; rfl
  have g60_61 : (t.toList == [60, 61]) = false := by rw [toL, htl]; rfl
  have g126 : (t.toList == [126]) = false := by rw [toL, htl]; rfl
  have HA := hide hA
  have T0 := hide ht
  have C0 := hide hc
  clear htl hA ht hc
  have b0 := hide ((Below.refl _ w).alloc (Nat.le_refl _) (.cells #[.string (ofL a), .string (ofL b), .string (ofL c), .slice x n m, .int .i64 0] 123))
  have n0 := World.alloc_heap_new w (.cells #[.string (ofL a), .string (ofL b), .string (ofL c), .slice x n m, .int .i64 0] 123)
  clear n0

  go_enter Tryz.func98, Tryz.ntmps98
  go_wp2_with fail
  go_ret
  exact ⟨b0.out, _, [], rfl, World.ownsRow_nil _ _ _ _, rfl⟩

set_option maxRecDepth 100000 in
set_option maxHeartbeats 4000000 in
theorem means_caret_1 (t : ByteArray) (htl : t.data.toList = [94]) (a b c : List UInt8) (pr : List (List UInt8)) (x : Option Addr) (n m : Nat) (w : World) (hA : ∀ b, w.heap.size ≤ b → A b) (ht : Txt w (.slice x n m) pr) (hc : CapA A (.slice x n m)) (l1 : a.length ≤ 1024) (l2 : b.length ≤ 1024) (l3 : c.length ≤ 1024) :
    Calls Tryz.prog 98 #[.string t, .agg #[.string (ofL a), .string (ofL b), .string (ofL c), .slice x n m, .int .i64 1]] w (CompsR A w [(4, (⟨zN a, zN b, zN c, pr, []⟩ : SemL)), (1, nxD a b c 0)]) := by
  have g0 : t.toList.isEmpty = false := by rw [toL, htl]; rfl
  have g61 : (t.toList == [61]) = false := by rw [toL, htl]; rfl
  have g62 : (t.toList == [62]) = false := by rw [toL, htl]; rfl
  have g62_61 : (t.toList == [62, 61]) = false := by rw [toL, htl]; rfl
  have g60 : (t.toList == [60]) = false := by rw [toL, htl]; rfl
  have g60_61 : (t.toList == [60, 61]) = false := by rw [toL, htl]; rfl
  have g126 : (t.toList == [126]) = false := by rw [toL, htl]; rfl
  have HA := hide hA
  have T0 := hide ht
  have C0 := hide hc
  clear htl hA ht hc
  have b0 := hide ((Below.refl _ w).alloc (Nat.le_refl _) (.cells #[.string (ofL a), .string (ofL b), .string (ofL c), .slice x n m, .int .i64 1] 123))
  have n0 := World.alloc_heap_new w (.cells #[.string (ofL a), .string (ofL b), .string (ofL c), .slice x n m, .int .i64 1] 123)

  go_enter Tryz.func98, Tryz.ntmps98
  go_wp2_with fail

  generalize w.alloc _ = W0 at *
  have hl0 := hide (Array.getElem?_eq_some_iff.1 n0).1
  have N0 := hide n0
  clear n0

  refine (between_any (A := A) a b c pr x n m 1 0 (by omega) W0 (fun b hb => HA.out b (Nat.le_trans b0.out.size hb)) (T0.out.below b0.out) C0.out l1 l2 l3).mono ?_
  rintro e w2 h2
  have HR := hide (h2.back b0.out)
  obtain ⟨_, v2, x2, rfl, _⟩ := h2
  go_wp2_with fail
  go_ret
  exact HR.out

set_option maxRecDepth 100000 in
set_option maxHeartbeats 4000000 in
theorem means_caret_2n (t : ByteArray) (htl : t.data.toList = [94]) (a b c : List UInt8) (pr : List (List UInt8)) (x : Option Addr) (n m : Nat) (w : World) (hA : ∀ b, w.heap.size ≤ b → A b) (ht : Txt w (.slice x n m) pr) (hc : CapA A (.slice x n m)) (l1 : a.length ≤ 1024) (l2 : b.length ≤ 1024) (l3 : c.length ≤ 1024) (ha0 : ¬ a = [48]) :
    Calls Tryz.prog 98 #[.string t, .agg #[.string (ofL a), .string (ofL b), .string (ofL c), .slice x n m, .int .i64 2]] w (CompsR A w [(4, (⟨zN a, zN b, zN c, pr, []⟩ : SemL)), (1, nxD a b c 0)]) := by
  have g0 : t.toList.isEmpty = false := by rw [toL, htl]; rfl
  have g61 : (t.toList == [61]) = false := by rw [toL, htl]; rfl
  have g62 : (t.toList == [62]) = false := by rw [toL, htl]; rfl
  have g62_61 : (t.toList == [62, 61]) = false := by rw [toL, htl]; rfl
  have g60 : (t.toList == [60]) = false := by rw [toL, htl]; rfl
  have g60_61 : (t.toList == [60, 61]) = false := by rw [toL, htl]; rfl
  have g126 : (t.toList == [126]) = false := by rw [toL, htl]; rfl
  have ya : ((ofL a).toList == [48]) = false := by rw [toL, ofL_data]; exact beq_eq_false_iff_ne.2 ha0
  have za : ((ofL a).toList != [48]) = true := by rw [toL, ofL_data]; exact bne_iff_ne.2 ha0
  clear ha0
  have HA := hide hA
  have T0 := hide ht
  have C0 := hide hc
  clear htl hA ht hc
  have b0 := hide ((Below.refl _ w).alloc (Nat.le_refl _) (.cells #[.string (ofL a), .string (ofL b), .string (ofL c), .slice x n m, .int .i64 2] 123))
  have n0 := World.alloc_heap_new w (.cells #[.string (ofL a), .string (ofL b), .string (ofL c), .slice x n m, .int .i64 2] 123)

  go_enter Tryz.func98, Tryz.ntmps98
  go_wp2_with fail

  generalize w.alloc _ = W0 at *
  have hl0 := hide (Array.getElem?_eq_some_iff.1 n0).1
  have N0 := hide n0
  clear n0

  refine (between_any (A := A) a b c pr x n m 2 0 (by omega) W0 (fun b hb => HA.out b (Nat.le_trans b0.out.size hb)) (T0.out.below b0.out) C0.out l1 l2 l3).mono ?_
  rintro e w2 h2
  have HR := hide (h2.back b0.out)
  obtain ⟨_, v2, x2, rfl, _⟩ := h2
  go_wp2_with fail
  go_ret
  exact HR.out

set_option maxRecDepth 100000 in
set_option maxHeartbeats 4000000 in
theorem means_caret_2z (t : ByteArray) (htl : t.data.toList = [94]) (a b c : List UInt8) (pr : List (List UInt8)) (x : Option Addr) (n m : Nat) (w : World) (hA : ∀ b, w.heap.size ≤ b → A b) (ht : Txt w (.slice x n m) pr) (hc : CapA A (.slice x n m)) (l1 : a.length ≤ 1024) (l2 : b.length ≤ 1024) (l3 : c.length ≤ 1024) (ha0 : a = [48]) :
    Calls Tryz.prog 98 #[.string t, .agg #[.string (ofL a), .string (ofL b), .string (ofL c), .slice x n m, .int .i64 2]] w (CompsR A w [(4, (⟨zN a, zN b, zN c, pr, []⟩ : SemL)), (1, nxD a b c 1)]) := by
  have g0 : t.toList.isEmpty = false := by rw [toL, htl]; rfl
  have g61 : (t.toList == [61]) = false := by rw [toL, htl]; rfl
  have g62 : (t.toList == [62]) = false := by rw [toL, htl]; rfl
  have g62_61 : (t.toList == [62, 61]) = false := by rw [toL, htl]; rfl
  have g60 : (t.toList == [60]) = false := by rw [toL, htl]; rfl
  have g60_61 : (t.toList == [60, 61]) = false := by rw [toL, htl]; rfl
  have g126 : (t.toList == [126]) = false := by rw [toL, htl]; rfl
  have ya : ((ofL a).toList == [48]) = true := by rw [toL, ofL_data, ha0]; rfl
  have za : ((ofL a).toList != [48]) = false := by rw [toL, ofL_data, ha0]; rfl
  clear ha0
  have HA := hide hA
  have T0 := hide ht
  have C0 := hide hc
  clear htl hA ht hc
  have b0 := hide ((Below.refl _ w).alloc (Nat.le_refl _) (.cells #[.string (ofL a), .string (ofL b), .string (ofL c), .slice x n m, .int .i64 2] 123))
  have n0 := World.alloc_heap_new w (.cells #[.string (ofL a), .string (ofL b), .string (ofL c), .slice x n m, .int .i64 2] 123)

  go_enter Tryz.func98, Tryz.ntmps98
  go_wp2_with fail

  generalize w.alloc _ = W0 at *
  have hl0 := hide (Array.getElem?_eq_some_iff.1 n0).1
  have N0 := hide n0
  clear n0

  refine (between_any (A := A) a b c pr x n m 2 1 (by omega) W0 (fun b hb => HA.out b (Nat.le_trans b0.out.size hb)) (T0.out.below b0.out) C0.out l1 l2 l3).mono ?_
  rintro e w2 h2
  have HR := hide (h2.back b0.out)
  obtain ⟨_, v2, x2, rfl, _⟩ := h2
  go_wp2_with fail
  go_ret
  exact HR.out

set_option maxRecDepth 100000 in
set_option maxHeartbeats 4000000 in
theorem means_caret_3n (t : ByteArray) (htl : t.data.toList = [94]) (a b c : List UInt8) (pr : List (List UInt8)) (x : Option Addr) (n m : Nat) (w : World) (hA : ∀ b, w.heap.size ≤ b → A b) (ht : Txt w (.slice x n m) pr) (hc : CapA A (.slice x n m)) (l1 : a.length ≤ 1024) (l2 : b.length ≤ 1024) (l3 : c.length ≤ 1024) (ha0 : ¬ a = [48]) :
    Calls Tryz.prog 98 #[.string t, .agg #[.string (ofL a), .string (ofL b), .string (ofL c), .slice x n m, .int .i64 3]] w (CompsR A w [(4, (⟨zN a, zN b, zN c, pr, []⟩ : SemL)), (1, nxD a b c 0)]) := by
  have g0 : t.toList.isEmpty = false := by rw [toL, htl]; rfl
  have g61 : (t.toList == [61]) = false := by rw [toL, htl]; rfl
  have g62 : (t.toList == [62]) = false := by rw [toL, htl]; rfl
  have g62_61 : (t.toList == [62, 61]) = false := by rw [toL, htl]; rfl
  have g60 : (t.toList == [60]) = false := by rw [toL, htl]; rfl
  have g60_61 : (t.toList == [60, 61]) = false := by rw [toL, htl]; rfl
  have g126 : (t.toList == [126]) = false := by rw [toL, htl]; rfl
  have ya : ((ofL a).toList == [48]) = false := by rw [toL, ofL_data]; exact beq_eq_false_iff_ne.2 ha0
  have za : ((ofL a).toList != [48]) = true := by rw [toL, ofL_data]; exact bne_iff_ne.2 ha0
  clear ha0
  have HA := hide hA
  have T0 := hide ht
  have C0 := hide hc
  clear htl hA ht hc
  have b0 := hide ((Below.refl _ w).alloc (Nat.le_refl _) (.cells #[.string (ofL a), .string (ofL b), .string (ofL c), .slice x n m, .int .i64 3] 123))
  have n0 := World.alloc_heap_new w (.cells #[.string (ofL a), .string (ofL b), .string (ofL c), .slice x n m, .int .i64 3] 123)

  go_enter Tryz.func98, Tryz.ntmps98
  go_wp2_with fail

  generalize w.alloc _ = W0 at *
  have hl0 := hide (Array.getElem?_eq_some_iff.1 n0).1
  have N0 := hide n0
  clear n0

  refine (between_any (A := A) a b c pr x n m 3 0 (by omega) W0 (fun b hb => HA.out b (Nat.le_trans b0.out.size hb)) (T0.out.below b0.out) C0.out l1 l2 l3).mono ?_
  rintro e w2 h2
  have HR := hide (h2.back b0.out)
  obtain ⟨_, v2, x2, rfl, _⟩ := h2
  go_wp2_with fail
  go_ret
  exact HR.out

set_option maxRecDepth 100000 in
set_option maxHeartbeats 4000000 in
theorem means_caret_3zn (t : ByteArray) (htl : t.data.toList = [94]) (a b c : List UInt8) (pr : List (List UInt8)) (x : Option Addr) (n m : Nat) (w : World) (hA : ∀ b, w.heap.size ≤ b → A b) (ht : Txt w (.slice x n m) pr) (hc : CapA A (.slice x n m)) (l1 : a.length ≤ 1024) (l2 : b.length ≤ 1024) (l3 : c.length ≤ 1024) (ha0 : a = [48]) (hb0 : ¬ b = [48]) :
    Calls Tryz.prog 98 #[.string t, .agg #[.string (ofL a), .string (ofL b), .string (ofL c), .slice x n m, .int .i64 3]] w (CompsR A w [(4, (⟨zN a, zN b, zN c, pr, []⟩ : SemL)), (1, nxD a b c 1)]) := by
  have g0 : t.toList.isEmpty = false := by rw [toL, htl]; rfl
  have g61 : (t.toList == [61]) = false := by rw [toL, htl]; rfl
  have g62 : (t.toList == [62]) = false := by rw [toL, htl]; rfl
  have g62_61 : (t.toList == [62, 61]) = false := by rw [toL, htl]; rfl
  have g60 : (t.toList == [60]) = false := by rw [toL, htl]; rfl
  have g60_61 : (t.toList == [60, 61]) = false := by rw [toL, htl]; rfl
  have g126 : (t.toList == [126]) = false := by rw [toL, htl]; rfl
  have ya : ((ofL a).toList == [48]) = true := by rw [toL, ofL_data, ha0]; rfl
  have za : ((ofL a).toList != [48]) = false := by rw [toL, ofL_data, ha0]; rfl
  clear ha0
  have yb : ((ofL b).toList == [48]) = false := by rw [toL, ofL_data]; exact beq_eq_false_iff_ne.2 hb0
  have zb : ((ofL b).toList != [48]) = true := by rw [toL, ofL_data]; exact bne_iff_ne.2 hb0
  clear hb0
  have HA := hide hA
  have T0 := hide ht
  have C0 := hide hc
  clear htl hA ht hc
  have b0 := hide ((Below.refl _ w).alloc (Nat.le_refl _) (.cells #[.string (ofL a), .string (ofL b), .string (ofL c), .slice x n m, .int .i64 3] 123))
  have n0 := World.alloc_heap_new w (.cells #[.string (ofL a), .string (ofL b), .string (ofL c), .slice x n m, .int .i64 3] 123)

  go_enter Tryz.func98, Tryz.ntmps98
  go_wp2_with fail

  generalize w.alloc _ = W0 at *
  have hl0 := hide (Array.getElem?_eq_some_iff.1 n0).1
  have N0 := hide n0
  clear n0

  refine (between_any (A := A) a b c pr x n m 3 1 (by omega) W0 (fun b hb => HA.out b (Nat.le_trans b0.out.size hb)) (T0.out.below b0.out) C0.out l1 l2 l3).mono ?_
  rintro e w2 h2
  have HR := hide (h2.back b0.out)
  obtain ⟨_, v2, x2, rfl, _⟩ := h2
  go_wp2_with fail
  go_ret
  exact HR.out

set_option maxRecDepth 100000 in
set_option maxHeartbeats 4000000 in
theorem means_caret_3zz (t : ByteArray) (htl : t.data.toList = [94]) (a b c : List UInt8) (pr : List (List UInt8)) (x : Option Addr) (n m : Nat) (w : World) (hA : ∀ b, w.heap.size ≤ b → A b) (ht : Txt w (.slice x n m) pr) (hc : CapA A (.slice x n m)) (l1 : a.length ≤ 1024) (l2 : b.length ≤ 1024) (l3 : c.length ≤ 1024) (ha0 : a = [48]) (hb0 : b = [48]) :
    Calls Tryz.prog 98 #[.string t, .agg #[.string (ofL a), .string (ofL b), .string (ofL c), .slice x n m, .int .i64 3]] w (CompsR A w [(4, (⟨zN a, zN b, zN c, pr, []⟩ : SemL)), (1, nxD a b c 2)]) := by
  have g0 : t.toList.isEmpty = false := by rw [toL, htl]; rfl
  have g61 : (t.toList == [61]) = false := by rw [toL, htl]; rfl
  have g62 : (t.toList == [62]) = false := by rw [toL, htl]; rfl
  have g62_61 : (t.toList == [62, 61]) = false := by rw [toL, htl]; rfl
  have g60 : (t.toList == [60]) = false := by rw [toL, htl]; rfl
  have g60_61 : (t.toList == [60, 61]) = false := by rw [toL, htl]; rfl
  have g126 : (t.toList == [126]) = false := by rw [toL, htl]; rfl
  have ya : ((ofL a).toList == [48]) = true := by rw [toL, ofL_data, ha0]; rfl
  have za : ((ofL a).toList != [48]) = false := by rw [toL, ofL_data, ha0]; rfl
  clear ha0
  have yb : ((ofL b).toList == [48]) = true := by rw [toL, ofL_data, hb0]; rfl
  have zb : ((ofL b).toList != [48]) = false := by rw [toL, ofL_data, hb0]; rfl
  clear hb0
  have HA := hide hA
  have T0 := hide ht
  have C0 := hide hc
  clear htl hA ht hc
  have b0 := hide ((Below.refl _ w).alloc (Nat.le_refl _) (.cells #[.string (ofL a), .string (ofL b), .string (ofL c), .slice x n m, .int .i64 3] 123))
  have n0 := World.alloc_heap_new w (.cells #[.string (ofL a), .string (ofL b), .string (ofL c), .slice x n m, .int .i64 3] 123)

  go_enter Tryz.func98, Tryz.ntmps98
  go_wp2_with fail

  generalize w.alloc _ = W0 at *
  have hl0 := hide (Array.getElem?_eq_some_iff.1 n0).1
  have N0 := hide n0
  clear n0

  refine (between_any (A := A) a b c pr x n m 3 2 (by omega) W0 (fun b hb => HA.out b (Nat.le_trans b0.out.size hb)) (T0.out.below b0.out) C0.out l1 l2 l3).mono ?_
  rintro e w2 h2
  have HR := hide (h2.back b0.out)
  obtain ⟨_, v2, x2, rfl, _⟩ := h2
  go_wp2_with fail
  go_ret
  exact HR.out

end Go.Proofs.YtpdlgiioahjhiaaGreat

namespace Go.Proofs.YtpdlgiioahjhiaaGreat
open Go.RowKit
set_option linter.unusedVariables false

theorem digit_open : ∀ c : UInt8, isC (c.toNat : Int) 1 = true → openB c = false ∧ c ≠ 118 ∧ isC (c.toNat : Int) 6 = false ∧ c ≠ 60 ∧ c ≠ 61 ∧ c ≠ 62 ∧ c ≠ 126 ∧ c ≠ 94 ∧ c ≠ 124 ∧ c ≠ 45 := by
  intro c h
  have hc : 48 ≤ c.toNat ∧ c.toNat ≤ 57 := by
    unfold isC at h
    simp at h
    omega
  refine ⟨?_, ?_, ?_, ?_, ?_, ?_, ?_, ?_, ?_, ?_⟩
  · unfold openB
    rw [Bool.or_eq_false_iff, Bool.or_eq_false_iff]
    refine ⟨⟨?_, ?_⟩, ?_⟩ <;> (rw [beq_eq_false_iff_ne]; rintro rfl; revert hc; decide)
  · rintro rfl; revert hc; decide
  · unfold isC
    simp
    omega
  all_goals (rintro rfl; revert hc; decide)
end Go.Proofs.YtpdlgiioahjhiaaGreat
