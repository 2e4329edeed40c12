/- Walks: what the document's operators mean, the others. -/
import Derived.Test.YtpdlgiioahjhiaaGreatPLu
namespace Go.Proofs.YtpdlgiioahjhiaaGreat
open Go.RowKit Go.Shelf
open _root_.Array renaming getElem?_eq_some_iff → qcgg
open Nat renaming le_trans → qcgs, lt_of_lt_of_le → qcgt
open World renaming alloc_heap_new → qcgj
open Go renaming World → QW
open Go.Proofs.Tryz (prog)
set_option linter.unusedVariables false
set_option maxHeartbeats 4000000
set_option maxRecDepth 100000
variable {A : Nat → Prop}
theorem gq4 (t : ByteArray) (htl : t.data.toList = [60]) : t.toList.isEmpty = false ∧ (t.toList == [61]) = false ∧ (t.toList == [62]) = false ∧ (t.toList == [62, 61]) = false ∧ (t.toList == [60]) = true ∧ (t.toList == [60, 61]) = false ∧ (t.toList == [126]) = false := by
 rw [toL, htl]; exact ⟨rfl, rfl, rfl, rfl, rfl, rfl, rfl⟩
theorem gq5 (t : ByteArray) (htl : t.data.toList = [60, 61]) : t.toList.isEmpty = false ∧ (t.toList == [61]) = false ∧ (t.toList == [62]) = false ∧ (t.toList == [62, 61]) = false ∧ (t.toList == [60]) = false ∧ (t.toList == [60, 61]) = true ∧ (t.toList == [126]) = false := by
 rw [toL, htl]; exact ⟨rfl, rfl, rfl, rfl, rfl, rfl, rfl⟩
theorem gq6 (t : ByteArray) (htl : t.data.toList = [126]) : t.toList.isEmpty = false ∧ (t.toList == [61]) = false ∧ (t.toList == [62]) = false ∧ (t.toList == [62, 61]) = false ∧ (t.toList == [60]) = false ∧ (t.toList == [60, 61]) = false ∧ (t.toList == [126]) = true := by
 rw [toL, htl]; exact ⟨rfl, rfl, rfl, rfl, rfl, rfl, rfl⟩
theorem gq7 (t : ByteArray) (htl : t.data.toList = [94]) : t.toList.isEmpty = false ∧ (t.toList == [61]) = false ∧ (t.toList == [62]) = false ∧ (t.toList == [62, 61]) = false ∧ (t.toList == [60]) = false ∧ (t.toList == [60, 61]) = false ∧ (t.toList == [126]) = false := by
 rw [toL, htl]; exact ⟨rfl, rfl, rfl, rfl, rfl, rfl, rfl⟩
theorem qbnb (t : QY) (htl : t.data.toList = [60]) (a b c : QB) (pr : List QB) (x : Option Addr) (n m : Nat) (w : QW) (hA : ∀ b, w.heap.size ≤ b → A b) (ht : Txt w (.slice x n m) pr) (hc : CapA A (.slice x n m)) (l1 : a.length ≤ 1024) (l2 : b.length ≤ 1024) (l3 : c.length ≤ 1024) :
  Calls prog 98 #[.string t, .agg #[.string (qg a), .string (qg b), .string (qg c), .slice x n m, .int .i64 0]] w (qbd A w qlx) := by
 obtain ⟨g0, g61, g62, g62_61, g60, g60_61, g126⟩ := gq4 t htl
 have HA := qb hA;have T0 := qb ht;have C0 := qb hc;clear htl hA ht hc;obtain ⟨b0, n0⟩ := qbx98 a b c x n m 0 w;go_enter Tryz.func98, Tryz.ntmps98
 (go_wp2_with fail);generalize w.alloc _ = W0 at *;have hl0 := qb (qcgg.1 n0).1;have N0 := qb n0;clear n0;refine (qbct (A := A) W0 (fun b hb => HA.out b (qcgs b0.out.size hb))).mono ?_;rintro e w2 h2;have HR := qb ((h2.toR (by simp [qlx])).back b0.out)
 obtain ⟨b1, x1, rfl, _⟩ := qdm h2;clear h2;(go_wp2_with fail);go_ret
 exact HR.out
theorem qbnh (t : QY) (htl : t.data.toList = [60]) (a b c : QB) (pr : List QB) (x : Option Addr) (n m : Nat) (w : QW) (hA : ∀ b, w.heap.size ≤ b → A b) (ht : Txt w (.slice x n m) pr) (hc : CapA A (.slice x n m)) (l1 : a.length ≤ 1024) (l2 : b.length ≤ 1024) (l3 : c.length ≤ 1024) :
  Calls prog 98 #[.string t, .agg #[.string (qg a), .string (qg b), .string (qg c), .slice x n m, .int .i64 1]] w (qbd A w [(1, (⟨zN a, zN b, zN c, [[48]], []⟩ : SemL))]) := by
 obtain ⟨g0, g61, g62, g62_61, g60, g60_61, g126⟩ := gq4 t htl
 have HA := qb hA;have T0 := qb ht;have C0 := qb hc;clear htl hA ht hc;obtain ⟨b0, n0⟩ := qbx98 a b c x n m 1 w;go_enter Tryz.func98, Tryz.ntmps98
 (go_wp2_with fail);generalize w.alloc _ = W0 at *;have hl0 := qb (qcgg.1 n0).1;have N0 := qb n0;clear n0;refine (qdx a b c x n m 1 W0).mono ?_;rintro e w1 ⟨rfl, h1⟩;have B1 := qb (b0.out.trans (h1.mono b0.out.size));clear h1;have m1 := qcgj w1 (.cells #[.string (qg (zN a)), .string (qg (zN b)), .string (qg (zN c)), .slice x n m, .slice none 0 0] 33);have B2 := qb (B1.out.alloc B1.out.size (.cells #[.string (qg (zN a)), .string (qg (zN b)), .string (qg (zN c)), .slice x n m, .slice none 0 0] 33));(go_wp2_with fail);generalize w1.alloc _ = W2 at *;have M1 := qb m1;have hl1 := qb (qcgg.1 m1).1;clear m1;refine (qln W2).mono ?_;rintro e w3 ⟨rfl, hw3⟩;have F3 : Hid (Below W2.heap.size W2 w3) := (hw3 ▸ (Below.refl _ W2).alloc (Nat.le_refl _) _);have Z3 : Hid (w3.heap[W2.heap.size]? = some (.cells #[.string ⟨#[48]⟩] 9 (0, 0))) := hw3 ▸ qcgj W2 _;have m3 := (F3.out.block w1.heap.size hl1.out).trans M1.out;have B3 := qb (B2.out.trans (F3.out.mono B2.out.size));have hwb := qb B1.out.size;obtain ⟨zb, hzb⟩ : ∃ zb, W2.heap.size = zb := ⟨_, rfl⟩;obtain ⟨sb, hsb⟩ : ∃ sb, w1.heap.size = sb := ⟨_, rfl⟩;have HAz : Hid (A zb) := HA.out zb (by have := B2.out.size; omega)
 have hne : zb ≠ sb := by have := hl1.out; omega
 rw [hzb] at Z3 ⊢;rw [hsb] at m3 hwb ⊢;clear hw3 hzb hsb F3 M1 hl1;have c0 := qd 0 m3 rfl;have c1 := qd 1 m3 rfl;have c2 := qd 2 m3 rfl;have c3 := qd 3 m3 rfl;have c4 := qd 4 m3 rfl;have f3 := qf 3 m3;have B4 : Hid (Below w.heap.size w (w3.setCell ⟨sb, 3, none⟩ (.slice (some ⟨zb, 0, none⟩) 1 1))) := B3.out.setCell hwb.out _;have Z4 : Hid ((w3.setCell ⟨sb, 3, none⟩ (.slice (some ⟨zb, 0, none⟩) 1 1)).heap[zb]? = some (.cells #[.string ⟨#[48]⟩] 9 (0, 0))) := (Below.heap_setCell _ _ _ _ hne).trans Z3.out;clear m3;(go_wp2_with fail);refine (qdc (A := A) 1 _ (⟨zN a, zN b, zN c, [[48]], []⟩ : SemL) _ ⟨_, _, rfl, qbrd Z4.out, qt _, qjp HAz.out, capZ (qt w)⟩).mono ?_;rintro e w5 h5;have HR := qb ((h5.toR (by simp)).back B4.out)
 obtain ⟨b5, x5, rfl, _⟩ := qdm h5;clear h5;(go_wp2_with fail);go_ret
 exact HR.out
theorem qblg (t : QY) (htl : t.data.toList = [60]) (a b c : QB) (pr : List QB) (x : Option Addr) (n m : Nat) (w : QW) (hA : ∀ b, w.heap.size ≤ b → A b) (ht : Txt w (.slice x n m) pr) (hc : CapA A (.slice x n m)) (l1 : a.length ≤ 1024) (l2 : b.length ≤ 1024) (l3 : c.length ≤ 1024) :
  Calls prog 98 #[.string t, .agg #[.string (qg a), .string (qg b), .string (qg c), .slice x n m, .int .i64 2]] w (qbd A w [(1, (⟨zN a, zN b, zN c, [[48]], []⟩ : SemL))]) := by
 obtain ⟨g0, g61, g62, g62_61, g60, g60_61, g126⟩ := gq4 t htl
 have HA := qb hA;have T0 := qb ht;have C0 := qb hc;clear htl hA ht hc;obtain ⟨b0, n0⟩ := qbx98 a b c x n m 2 w;go_enter Tryz.func98, Tryz.ntmps98
 (go_wp2_with fail);generalize w.alloc _ = W0 at *;have hl0 := qb (qcgg.1 n0).1;have N0 := qb n0;clear n0;refine (qdx a b c x n m 2 W0).mono ?_;rintro e w1 ⟨rfl, h1⟩;have B1 := qb (b0.out.trans (h1.mono b0.out.size));clear h1;have m1 := qcgj w1 (.cells #[.string (qg (zN a)), .string (qg (zN b)), .string (qg (zN c)), .slice x n m, .slice none 0 0] 33);have B2 := qb (B1.out.alloc B1.out.size (.cells #[.string (qg (zN a)), .string (qg (zN b)), .string (qg (zN c)), .slice x n m, .slice none 0 0] 33));(go_wp2_with fail);generalize w1.alloc _ = W2 at *;have M1 := qb m1;have hl1 := qb (qcgg.1 m1).1;clear m1;refine (qln W2).mono ?_;rintro e w3 ⟨rfl, hw3⟩;have F3 : Hid (Below W2.heap.size W2 w3) := (hw3 ▸ (Below.refl _ W2).alloc (Nat.le_refl _) _);have Z3 : Hid (w3.heap[W2.heap.size]? = some (.cells #[.string ⟨#[48]⟩] 9 (0, 0))) := hw3 ▸ qcgj W2 _;have m3 := (F3.out.block w1.heap.size hl1.out).trans M1.out;have B3 := qb (B2.out.trans (F3.out.mono B2.out.size));have hwb := qb B1.out.size;obtain ⟨zb, hzb⟩ : ∃ zb, W2.heap.size = zb := ⟨_, rfl⟩;obtain ⟨sb, hsb⟩ : ∃ sb, w1.heap.size = sb := ⟨_, rfl⟩;have HAz : Hid (A zb) := HA.out zb (by have := B2.out.size; omega)
 have hne : zb ≠ sb := by have := hl1.out; omega
 rw [hzb] at Z3 ⊢;rw [hsb] at m3 hwb ⊢;clear hw3 hzb hsb F3 M1 hl1;have c0 := qd 0 m3 rfl;have c1 := qd 1 m3 rfl;have c2 := qd 2 m3 rfl;have c3 := qd 3 m3 rfl;have c4 := qd 4 m3 rfl;have f3 := qf 3 m3;have B4 : Hid (Below w.heap.size w (w3.setCell ⟨sb, 3, none⟩ (.slice (some ⟨zb, 0, none⟩) 1 1))) := B3.out.setCell hwb.out _;have Z4 : Hid ((w3.setCell ⟨sb, 3, none⟩ (.slice (some ⟨zb, 0, none⟩) 1 1)).heap[zb]? = some (.cells #[.string ⟨#[48]⟩] 9 (0, 0))) := (Below.heap_setCell _ _ _ _ hne).trans Z3.out;clear m3;(go_wp2_with fail);refine (qdc (A := A) 1 _ (⟨zN a, zN b, zN c, [[48]], []⟩ : SemL) _ ⟨_, _, rfl, qbrd Z4.out, qt _, qjp HAz.out, capZ (qt w)⟩).mono ?_;rintro e w5 h5;have HR := qb ((h5.toR (by simp)).back B4.out)
 obtain ⟨b5, x5, rfl, _⟩ := qdm h5;clear h5;(go_wp2_with fail);go_ret
 exact HR.out
theorem qbnq (t : QY) (htl : t.data.toList = [60]) (a b c : QB) (pr : List QB) (x : Option Addr) (n m : Nat) (w : QW) (hA : ∀ b, w.heap.size ≤ b → A b) (ht : Txt w (.slice x n m) pr) (hc : CapA A (.slice x n m)) (l1 : a.length ≤ 1024) (l2 : b.length ≤ 1024) (l3 : c.length ≤ 1024) :
  Calls prog 98 #[.string t, .agg #[.string (qg a), .string (qg b), .string (qg c), .slice x n m, .int .i64 3]] w (qbd A w [(1, (⟨zN a, zN b, zN c, pr, []⟩ : SemL))]) := by
 obtain ⟨g0, g61, g62, g62_61, g60, g60_61, g126⟩ := gq4 t htl
 have HA := qb hA;have T0 := qb ht;have C0 := qb hc;clear htl hA ht hc;obtain ⟨b0, n0⟩ := qbx98 a b c x n m 3 w;go_enter Tryz.func98, Tryz.ntmps98
 (go_wp2_with fail);generalize w.alloc _ = W0 at *;have hl0 := qb (qcgg.1 n0).1;have N0 := qb n0;clear n0;refine (qdx a b c x n m 3 W0).mono ?_;rintro e w1 ⟨rfl, h1⟩;have B1 := qb (b0.out.trans (h1.mono b0.out.size));clear h1;(go_wp2_with fail);refine (qdc (A := A) 1 _ (⟨zN a, zN b, zN c, pr, []⟩ : SemL) w1 ⟨_, _, rfl, T0.out.below B1.out, qt _, C0.out, capZ (qt w)⟩).mono ?_;rintro e w2 h2;have HR := qb ((h2.toR (by simp)).back B1.out)
 obtain ⟨b1, x1, rfl, _⟩ := qdm h2;clear h2;(go_wp2_with fail);go_ret
 exact HR.out
theorem qbmb (t : QY) (htl : t.data.toList = [60, 61]) (a b c : QB) (pr : List QB) (x : Option Addr) (n m : Nat) (w : QW) (hA : ∀ b, w.heap.size ≤ b → A b) (ht : Txt w (.slice x n m) pr) (hc : CapA A (.slice x n m)) (l1 : a.length ≤ 1024) (l2 : b.length ≤ 1024) (l3 : c.length ≤ 1024) :
  Calls prog 98 #[.string t, .agg #[.string (qg a), .string (qg b), .string (qg c), .slice x n m, .int .i64 0]] w (qbd A w []) := by
 obtain ⟨g0, g61, g62, g62_61, g60, g60_61, g126⟩ := gq5 t htl
 have HA := qb hA;have T0 := qb ht;have C0 := qb hc;clear htl hA ht hc;obtain ⟨b0, n0⟩ := qbx98 a b c x n m 0 w;clear n0;go_enter Tryz.func98, Tryz.ntmps98
 (go_wp2_with fail);go_ret
 exact ⟨b0.out, _, [], rfl, World.ownsRow_nil _ _ _ _, rfl⟩
theorem qbnr (t : QY) (htl : t.data.toList = [60, 61]) (a b c : QB) (pr : List QB) (x : Option Addr) (n m : Nat) (w : QW) (hA : ∀ b, w.heap.size ≤ b → A b) (ht : Txt w (.slice x n m) pr) (hc : CapA A (.slice x n m)) (l1 : a.length ≤ 1024) (l2 : b.length ≤ 1024) (l3 : c.length ≤ 1024) :
  Calls prog 98 #[.string t, .agg #[.string (qg a), .string (qg b), .string (qg c), .slice x n m, .int .i64 1]] w (qbd A w [(1, (⟨(nxD a b c 0).maj, (nxD a b c 0).min, (nxD a b c 0).pat, [[48]], []⟩ : SemL))]) := by
 obtain ⟨g0, g61, g62, g62_61, g60, g60_61, g126⟩ := gq5 t htl
 have HA := qb hA;have T0 := qb ht;have C0 := qb hc;clear htl hA ht hc;obtain ⟨b0, n0⟩ := qbx98 a b c x n m 1 w;go_enter Tryz.func98, Tryz.ntmps98
 (go_wp2_with fail);generalize w.alloc _ = W0 at *;have hl0 := qb (qcgg.1 n0).1;have N0 := qb n0;clear n0;have q0 := qd 0 N0.out rfl;have q1 := qd 1 N0.out rfl;have q2 := qd 2 N0.out rfl;have q3 := qd 3 N0.out rfl;have q4 := qd 4 N0.out rfl;have bD := qb (b0.out.trans (qbh w.heap.size W0));go_region_held3 (fun W' => W'.cell? ⟨w.heap.size, 0, none⟩ = some (.string (qg a)) ∧ W'.cell? ⟨w.heap.size, 1, none⟩ = some (.string (qg b)) ∧ W'.cell? ⟨w.heap.size, 2, none⟩ = some (.string (qg c)) ∧ W'.cell? ⟨w.heap.size, 3, none⟩ = some (.slice x n m) ∧ W'.cell? ⟨w.heap.size, 4, none⟩ = some (.int .i64 1)) (go_keep) ((first
  | (
   go_at_call 131
   refine (qdc (A := A) 1 _ (⟨(nxD a b c 0).maj, (nxD a b c 0).min, (nxD a b c 0).pat, [[48]], []⟩ : SemL) w3 ⟨_, _, rfl, qbrd Z3.out, qt _, qjp HAz.out, capZ (qt w)⟩).mono ?_;rintro e w4 h4;have HR := qb ((h4.toR (by simp)).back B3.out)
   have P4 : Hid (w4.heap[w.heap.size]? = some (.cells #[.string (qg a), .string (qg b), .string (qg c), .slice x n m, .int .i64 1] 123 (0, 0))) := (h4.1.block w.heap.size LT3.out).trans P3.out;have e0 : w4.cell? ⟨w.heap.size, 0, none⟩ = some (.string (qg a)) := qd 0 P4.out rfl;have e1 : w4.cell? ⟨w.heap.size, 1, none⟩ = some (.string (qg b)) := qd 1 P4.out rfl;have e2 : w4.cell? ⟨w.heap.size, 2, none⟩ = some (.string (qg c)) := qd 2 P4.out rfl;have e3 : w4.cell? ⟨w.heap.size, 3, none⟩ = some (.slice x n m) := qd 3 P4.out rfl;have e4 : w4.cell? ⟨w.heap.size, 4, none⟩ = some (.int .i64 1) := qd 4 P4.out rfl;obtain ⟨b4, x4, rfl, _⟩ := qdm h4;clear h4)
  | (
   go_at_call 136
   refine (qmf a b c x n m 1 0 (by omega) (some ⟨zb, 0, none⟩) 1 1 w2 l1 l2 l3).mono ?_
   rintro e w3 ⟨rfl, hf2⟩;have B3 := qb (B2.out.trans (hf2.mono B2.out.size));have Z3 : Hid (w3.heap[zb]? = some (.cells #[.string ⟨#[48]⟩] 9 (0, 0))) := (hf2.block zb (qcgg.1 Z2.out).1).trans Z2.out;have P3 : Hid (w3.heap[w.heap.size]? = some (.cells #[.string (qg a), .string (qg b), .string (qg c), .slice x n m, .int .i64 1] 123 (0, 0))) := (hf2.block w.heap.size LT2.out).trans P2.out;have LT3 := qb (qcgt LT2.out hf2.size);have e0 : w3.cell? ⟨w.heap.size, 0, none⟩ = some (.string (qg a)) := qd 0 P3.out rfl;have e1 : w3.cell? ⟨w.heap.size, 1, none⟩ = some (.string (qg b)) := qd 1 P3.out rfl;have e2 : w3.cell? ⟨w.heap.size, 2, none⟩ = some (.string (qg c)) := qd 2 P3.out rfl;have e3 : w3.cell? ⟨w.heap.size, 3, none⟩ = some (.slice x n m) := qd 3 P3.out rfl;have e4 : w3.cell? ⟨w.heap.size, 4, none⟩ = some (.int .i64 1) := qd 4 P3.out rfl;clear hf2)
  | (
   go_at_call 137
   refine (qln w1).mono ?_;rintro e w2 ⟨rfl, hw2⟩;have F2 : Hid (Below w1.heap.size w1 w2) := (hw2 ▸ (Below.refl _ w1).alloc (Nat.le_refl _) _);have Z2' : w2.heap[w1.heap.size]? = some (.cells #[.string ⟨#[48]⟩] 9 (0, 0)) := hw2 ▸ qcgj w1 _;obtain ⟨zb, hzb⟩ : ∃ zb, w1.heap.size = zb := ⟨_, rfl⟩;rw [hzb] at Z2' ⊢;have Z2 := qb Z2';have HAz : Hid (A zb) := HA.out zb (by have := B1.out.size; omega)
   have B2 := qb (B1.out.trans (F2.out.mono B1.out.size));have P2 : Hid (w2.heap[w.heap.size]? = some (.cells #[.string (qg a), .string (qg b), .string (qg c), .slice x n m, .int .i64 1] 123 (0, 0))) := (F2.out.block w.heap.size LT1.out).trans P1.out;have LT2 := qb (qcgt LT1.out F2.out.size);have e0 : w2.cell? ⟨w.heap.size, 0, none⟩ = some (.string (qg a)) := qd 0 P2.out rfl;have e1 : w2.cell? ⟨w.heap.size, 1, none⟩ = some (.string (qg b)) := qd 1 P2.out rfl;have e2 : w2.cell? ⟨w.heap.size, 2, none⟩ = some (.string (qg c)) := qd 2 P2.out rfl;have e3 : w2.cell? ⟨w.heap.size, 3, none⟩ = some (.slice x n m) := qd 3 P2.out rfl;have e4 : w2.cell? ⟨w.heap.size, 4, none⟩ = some (.int .i64 1) := qd 4 P2.out rfl;clear hw2 Z2' hzb)
  | (
   go_at_call 134
   refine (qgc a b c x n m 1 _ (by omega)).mono ?_
   rintro e w1 ⟨rfl, hf0⟩;have B1 := qb (bD.out.trans (hf0.mono bD.out.size));have P1 : Hid (w1.heap[w.heap.size]? = some (.cells #[.string (qg a), .string (qg b), .string (qg c), .slice x n m, .int .i64 1] 123 (0, 0))) := (hf0.block w.heap.size hl0.out).trans N0.out;have LT1 : Hid (w.heap.size < w1.heap.size) := (qcgg.1 P1.out).1;have e0 : w1.cell? ⟨w.heap.size, 0, none⟩ = some (.string (qg a)) := qd 0 P1.out rfl;have e1 : w1.cell? ⟨w.heap.size, 1, none⟩ = some (.string (qg b)) := qd 1 P1.out rfl;have e2 : w1.cell? ⟨w.heap.size, 2, none⟩ = some (.string (qg c)) := qd 2 P1.out rfl;have e3 : w1.cell? ⟨w.heap.size, 3, none⟩ = some (.slice x n m) := qd 3 P1.out rfl;have e4 : w1.cell? ⟨w.heap.size, 4, none⟩ = some (.int .i64 1) := qd 4 P1.out rfl;clear hf0)
  | fail))
 try dsimp only
 (go_wp2_with fail);go_ret
 exact HR.out
theorem qbnd (t : QY) (htl : t.data.toList = [60, 61]) (a b c : QB) (pr : List QB) (x : Option Addr) (n m : Nat) (w : QW) (hA : ∀ b, w.heap.size ≤ b → A b) (ht : Txt w (.slice x n m) pr) (hc : CapA A (.slice x n m)) (l1 : a.length ≤ 1024) (l2 : b.length ≤ 1024) (l3 : c.length ≤ 1024) :
  Calls prog 98 #[.string t, .agg #[.string (qg a), .string (qg b), .string (qg c), .slice x n m, .int .i64 2]] w (qbd A w [(1, (⟨(nxD a b c 1).maj, (nxD a b c 1).min, (nxD a b c 1).pat, [[48]], []⟩ : SemL))]) := by
 obtain ⟨g0, g61, g62, g62_61, g60, g60_61, g126⟩ := gq5 t htl
 have HA := qb hA;have T0 := qb ht;have C0 := qb hc;clear htl hA ht hc;obtain ⟨b0, n0⟩ := qbx98 a b c x n m 2 w;go_enter Tryz.func98, Tryz.ntmps98
 (go_wp2_with fail);generalize w.alloc _ = W0 at *;have hl0 := qb (qcgg.1 n0).1;have N0 := qb n0;clear n0;have q0 := qd 0 N0.out rfl;have q1 := qd 1 N0.out rfl;have q2 := qd 2 N0.out rfl;have q3 := qd 3 N0.out rfl;have q4 := qd 4 N0.out rfl;have bD := qb (b0.out.trans (qbh w.heap.size W0));go_region_held3 (fun W' => W'.cell? ⟨w.heap.size, 0, none⟩ = some (.string (qg a)) ∧ W'.cell? ⟨w.heap.size, 1, none⟩ = some (.string (qg b)) ∧ W'.cell? ⟨w.heap.size, 2, none⟩ = some (.string (qg c)) ∧ W'.cell? ⟨w.heap.size, 3, none⟩ = some (.slice x n m) ∧ W'.cell? ⟨w.heap.size, 4, none⟩ = some (.int .i64 2)) (go_keep) ((first
  | (
   go_at_call 131
   refine (qdc (A := A) 1 _ (⟨(nxD a b c 1).maj, (nxD a b c 1).min, (nxD a b c 1).pat, [[48]], []⟩ : SemL) w3 ⟨_, _, rfl, qbrd Z3.out, qt _, qjp HAz.out, capZ (qt w)⟩).mono ?_;rintro e w4 h4;have HR := qb ((h4.toR (by simp)).back B3.out)
   have P4 : Hid (w4.heap[w.heap.size]? = some (.cells #[.string (qg a), .string (qg b), .string (qg c), .slice x n m, .int .i64 2] 123 (0, 0))) := (h4.1.block w.heap.size LT3.out).trans P3.out;have e0 : w4.cell? ⟨w.heap.size, 0, none⟩ = some (.string (qg a)) := qd 0 P4.out rfl;have e1 : w4.cell? ⟨w.heap.size, 1, none⟩ = some (.string (qg b)) := qd 1 P4.out rfl;have e2 : w4.cell? ⟨w.heap.size, 2, none⟩ = some (.string (qg c)) := qd 2 P4.out rfl;have e3 : w4.cell? ⟨w.heap.size, 3, none⟩ = some (.slice x n m) := qd 3 P4.out rfl;have e4 : w4.cell? ⟨w.heap.size, 4, none⟩ = some (.int .i64 2) := qd 4 P4.out rfl;obtain ⟨b4, x4, rfl, _⟩ := qdm h4;clear h4)
  | (
   go_at_call 136
   refine (qmf a b c x n m 2 1 (by omega) (some ⟨zb, 0, none⟩) 1 1 w2 l1 l2 l3).mono ?_
   rintro e w3 ⟨rfl, hf2⟩;have B3 := qb (B2.out.trans (hf2.mono B2.out.size));have Z3 : Hid (w3.heap[zb]? = some (.cells #[.string ⟨#[48]⟩] 9 (0, 0))) := (hf2.block zb (qcgg.1 Z2.out).1).trans Z2.out;have P3 : Hid (w3.heap[w.heap.size]? = some (.cells #[.string (qg a), .string (qg b), .string (qg c), .slice x n m, .int .i64 2] 123 (0, 0))) := (hf2.block w.heap.size LT2.out).trans P2.out;have LT3 := qb (qcgt LT2.out hf2.size);have e0 : w3.cell? ⟨w.heap.size, 0, none⟩ = some (.string (qg a)) := qd 0 P3.out rfl;have e1 : w3.cell? ⟨w.heap.size, 1, none⟩ = some (.string (qg b)) := qd 1 P3.out rfl;have e2 : w3.cell? ⟨w.heap.size, 2, none⟩ = some (.string (qg c)) := qd 2 P3.out rfl;have e3 : w3.cell? ⟨w.heap.size, 3, none⟩ = some (.slice x n m) := qd 3 P3.out rfl;have e4 : w3.cell? ⟨w.heap.size, 4, none⟩ = some (.int .i64 2) := qd 4 P3.out rfl;clear hf2)
  | (
   go_at_call 137
   refine (qln w1).mono ?_;rintro e w2 ⟨rfl, hw2⟩;have F2 : Hid (Below w1.heap.size w1 w2) := (hw2 ▸ (Below.refl _ w1).alloc (Nat.le_refl _) _);have Z2' : w2.heap[w1.heap.size]? = some (.cells #[.string ⟨#[48]⟩] 9 (0, 0)) := hw2 ▸ qcgj w1 _;obtain ⟨zb, hzb⟩ : ∃ zb, w1.heap.size = zb := ⟨_, rfl⟩;rw [hzb] at Z2' ⊢;have Z2 := qb Z2';have HAz : Hid (A zb) := HA.out zb (by have := B1.out.size; omega)
   have B2 := qb (B1.out.trans (F2.out.mono B1.out.size));have P2 : Hid (w2.heap[w.heap.size]? = some (.cells #[.string (qg a), .string (qg b), .string (qg c), .slice x n m, .int .i64 2] 123 (0, 0))) := (F2.out.block w.heap.size LT1.out).trans P1.out;have LT2 := qb (qcgt LT1.out F2.out.size);have e0 : w2.cell? ⟨w.heap.size, 0, none⟩ = some (.string (qg a)) := qd 0 P2.out rfl;have e1 : w2.cell? ⟨w.heap.size, 1, none⟩ = some (.string (qg b)) := qd 1 P2.out rfl;have e2 : w2.cell? ⟨w.heap.size, 2, none⟩ = some (.string (qg c)) := qd 2 P2.out rfl;have e3 : w2.cell? ⟨w.heap.size, 3, none⟩ = some (.slice x n m) := qd 3 P2.out rfl;have e4 : w2.cell? ⟨w.heap.size, 4, none⟩ = some (.int .i64 2) := qd 4 P2.out rfl;clear hw2 Z2' hzb)
  | (
   go_at_call 134
   refine (qgc a b c x n m 2 _ (by omega)).mono ?_
   rintro e w1 ⟨rfl, hf0⟩;have B1 := qb (bD.out.trans (hf0.mono bD.out.size));have P1 : Hid (w1.heap[w.heap.size]? = some (.cells #[.string (qg a), .string (qg b), .string (qg c), .slice x n m, .int .i64 2] 123 (0, 0))) := (hf0.block w.heap.size hl0.out).trans N0.out;have LT1 : Hid (w.heap.size < w1.heap.size) := (qcgg.1 P1.out).1;have e0 : w1.cell? ⟨w.heap.size, 0, none⟩ = some (.string (qg a)) := qd 0 P1.out rfl;have e1 : w1.cell? ⟨w.heap.size, 1, none⟩ = some (.string (qg b)) := qd 1 P1.out rfl;have e2 : w1.cell? ⟨w.heap.size, 2, none⟩ = some (.string (qg c)) := qd 2 P1.out rfl;have e3 : w1.cell? ⟨w.heap.size, 3, none⟩ = some (.slice x n m) := qd 3 P1.out rfl;have e4 : w1.cell? ⟨w.heap.size, 4, none⟩ = some (.int .i64 2) := qd 4 P1.out rfl;clear hf0)
  | fail))
 try dsimp only
 (go_wp2_with fail);go_ret
 exact HR.out
theorem qblf (t : QY) (htl : t.data.toList = [60, 61]) (a b c : QB) (pr : List QB) (x : Option Addr) (n m : Nat) (w : QW) (hA : ∀ b, w.heap.size ≤ b → A b) (ht : Txt w (.slice x n m) pr) (hc : CapA A (.slice x n m)) (l1 : a.length ≤ 1024) (l2 : b.length ≤ 1024) (l3 : c.length ≤ 1024) :
  Calls prog 98 #[.string t, .agg #[.string (qg a), .string (qg b), .string (qg c), .slice x n m, .int .i64 3]] w (qbd A w [(2, (⟨zN a, zN b, zN c, pr, []⟩ : SemL))]) := by
 obtain ⟨g0, g61, g62, g62_61, g60, g60_61, g126⟩ := gq5 t htl
 have HA := qb hA;have T0 := qb ht;have C0 := qb hc;clear htl hA ht hc;obtain ⟨b0, n0⟩ := qbx98 a b c x n m 3 w;go_enter Tryz.func98, Tryz.ntmps98
 (go_wp2_with fail);generalize w.alloc _ = W0 at *;have hl0 := qb (qcgg.1 n0).1;have N0 := qb n0;clear n0;refine (qdx a b c x n m 3 W0).mono ?_;rintro e w1 ⟨rfl, h1⟩;have B1 := qb (b0.out.trans (h1.mono b0.out.size));clear h1;(go_wp2_with fail);refine (qdc (A := A) 2 _ (⟨zN a, zN b, zN c, pr, []⟩ : SemL) w1 ⟨_, _, rfl, T0.out.below B1.out, qt _, C0.out, capZ (qt w)⟩).mono ?_;rintro e w2 h2;have HR := qb ((h2.toR (by simp)).back B1.out)
 obtain ⟨b1, x1, rfl, _⟩ := qdm h2;clear h2;(go_wp2_with fail);go_ret
 exact HR.out
theorem qbgc (t : QY) (htl : t.data.toList = [126]) (a b c : QB) (pr : List QB) (x : Option Addr) (n m : Nat) (w : QW) (hA : ∀ b, w.heap.size ≤ b → A b) (ht : Txt w (.slice x n m) pr) (hc : CapA A (.slice x n m)) (l1 : a.length ≤ 1024) (l2 : b.length ≤ 1024) (l3 : c.length ≤ 1024) :
  Calls prog 98 #[.string t, .agg #[.string (qg a), .string (qg b), .string (qg c), .slice x n m, .int .i64 0]] w (qbd A w []) := by
 obtain ⟨g0, g61, g62, g62_61, g60, g60_61, g126⟩ := gq6 t htl
 have HA := qb hA;have T0 := qb ht;have C0 := qb hc;clear htl hA ht hc;obtain ⟨b0, n0⟩ := qbx98 a b c x n m 0 w;clear n0;go_enter Tryz.func98, Tryz.ntmps98
 (go_wp2_with fail);go_ret
 exact ⟨b0.out, _, [], rfl, World.ownsRow_nil _ _ _ _, rfl⟩
theorem qbfr (t : QY) (htl : t.data.toList = [126]) (a b c : QB) (pr : List QB) (x : Option Addr) (n m : Nat) (w : QW) (hA : ∀ b, w.heap.size ≤ b → A b) (ht : Txt w (.slice x n m) pr) (hc : CapA A (.slice x n m)) (l1 : a.length ≤ 1024) (l2 : b.length ≤ 1024) (l3 : c.length ≤ 1024) :
  Calls prog 98 #[.string t, .agg #[.string (qg a), .string (qg b), .string (qg c), .slice x n m, .int .i64 1]] w (qbd A w [(4, (⟨zN a, zN b, zN c, pr, []⟩ : SemL)), (1, nxD a b c 0)]) := by
 obtain ⟨g0, g61, g62, g62_61, g60, g60_61, g126⟩ := gq6 t htl
 have HA := qb hA;have T0 := qb ht;have C0 := qb hc;clear htl hA ht hc;obtain ⟨b0, n0⟩ := qbx98 a b c x n m 1 w;go_enter Tryz.func98, Tryz.ntmps98
 (go_wp2_with fail);generalize w.alloc _ = W0 at *;have hl0 := qb (qcgg.1 n0).1;have N0 := qb n0;clear n0;have q0 := qd 0 N0.out rfl;have q1 := qd 1 N0.out rfl;have q2 := qd 2 N0.out rfl;have q3 := qd 3 N0.out rfl;have q4 := qd 4 N0.out rfl;have bD := qb (b0.out.trans (qbh w.heap.size W0));go_region_held3 (fun W' => W'.cell? ⟨w.heap.size, 0, none⟩ = some (.string (qg a)) ∧ W'.cell? ⟨w.heap.size, 1, none⟩ = some (.string (qg b)) ∧ W'.cell? ⟨w.heap.size, 2, none⟩ = some (.string (qg c)) ∧ W'.cell? ⟨w.heap.size, 3, none⟩ = some (.slice x n m) ∧ W'.cell? ⟨w.heap.size, 4, none⟩ = some (.int .i64 1)) (go_keep) ((first
  | (
   go_at_call 133
   refine (qdf (A := A) a b c pr x n m 1 0 (by omega) w1 (fun b hb => HA.out b (qcgs B1.out.size hb)) (T0.out.below B1.out) C0.out l1 l2 l3).mono ?_
   rintro e w2 h2;have HR := qb (h2.back B1.out);have P2 : Hid (w2.heap[w.heap.size]? = some (.cells #[.string (qg a), .string (qg b), .string (qg c), .slice x n m, .int .i64 1] 123 (0, 0))) := (h2.1.block w.heap.size LT1.out).trans P1.out;have e0 : w2.cell? ⟨w.heap.size, 0, none⟩ = some (.string (qg a)) := qd 0 P2.out rfl;have e1 : w2.cell? ⟨w.heap.size, 1, none⟩ = some (.string (qg b)) := qd 1 P2.out rfl;have e2 : w2.cell? ⟨w.heap.size, 2, none⟩ = some (.string (qg c)) := qd 2 P2.out rfl;have e3 : w2.cell? ⟨w.heap.size, 3, none⟩ = some (.slice x n m) := qd 3 P2.out rfl;have e4 : w2.cell? ⟨w.heap.size, 4, none⟩ = some (.int .i64 1) := qd 4 P2.out rfl;obtain ⟨_, v2, x2, rfl, _⟩ := h2)
  | (
   go_at_call 134
   refine (qgc a b c x n m 1 _ (by omega)).mono ?_
   rintro e w1 ⟨rfl, hf0⟩;have B1 := qb (bD.out.trans (hf0.mono bD.out.size));have P1 : Hid (w1.heap[w.heap.size]? = some (.cells #[.string (qg a), .string (qg b), .string (qg c), .slice x n m, .int .i64 1] 123 (0, 0))) := (hf0.block w.heap.size hl0.out).trans N0.out;have LT1 : Hid (w.heap.size < w1.heap.size) := (qcgg.1 P1.out).1;have e0 : w1.cell? ⟨w.heap.size, 0, none⟩ = some (.string (qg a)) := qd 0 P1.out rfl;have e1 : w1.cell? ⟨w.heap.size, 1, none⟩ = some (.string (qg b)) := qd 1 P1.out rfl;have e2 : w1.cell? ⟨w.heap.size, 2, none⟩ = some (.string (qg c)) := qd 2 P1.out rfl;have e3 : w1.cell? ⟨w.heap.size, 3, none⟩ = some (.slice x n m) := qd 3 P1.out rfl;have e4 : w1.cell? ⟨w.heap.size, 4, none⟩ = some (.int .i64 1) := qd 4 P1.out rfl;clear hf0)
  | fail))
 try dsimp only
 (go_wp2_with fail);go_ret
 exact HR.out
theorem qbgh (t : QY) (htl : t.data.toList = [126]) (a b c : QB) (pr : List QB) (x : Option Addr) (n m : Nat) (w : QW) (hA : ∀ b, w.heap.size ≤ b → A b) (ht : Txt w (.slice x n m) pr) (hc : CapA A (.slice x n m)) (l1 : a.length ≤ 1024) (l2 : b.length ≤ 1024) (l3 : c.length ≤ 1024) :
  Calls prog 98 #[.string t, .agg #[.string (qg a), .string (qg b), .string (qg c), .slice x n m, .int .i64 2]] w (qbd A w [(4, (⟨zN a, zN b, zN c, pr, []⟩ : SemL)), (1, nxD a b c 1)]) := by
 obtain ⟨g0, g61, g62, g62_61, g60, g60_61, g126⟩ := gq6 t htl
 have HA := qb hA;have T0 := qb ht;have C0 := qb hc;clear htl hA ht hc;obtain ⟨b0, n0⟩ := qbx98 a b c x n m 2 w;go_enter Tryz.func98, Tryz.ntmps98
 (go_wp2_with fail);generalize w.alloc _ = W0 at *;have hl0 := qb (qcgg.1 n0).1;have N0 := qb n0;clear n0;have q0 := qd 0 N0.out rfl;have q1 := qd 1 N0.out rfl;have q2 := qd 2 N0.out rfl;have q3 := qd 3 N0.out rfl;have q4 := qd 4 N0.out rfl;have bD := qb (b0.out.trans (qbh w.heap.size W0));go_region_held3 (fun W' => W'.cell? ⟨w.heap.size, 0, none⟩ = some (.string (qg a)) ∧ W'.cell? ⟨w.heap.size, 1, none⟩ = some (.string (qg b)) ∧ W'.cell? ⟨w.heap.size, 2, none⟩ = some (.string (qg c)) ∧ W'.cell? ⟨w.heap.size, 3, none⟩ = some (.slice x n m) ∧ W'.cell? ⟨w.heap.size, 4, none⟩ = some (.int .i64 2)) (go_keep) ((first
  | (
   go_at_call 133
   refine (qdf (A := A) a b c pr x n m 2 1 (by omega) w1 (fun b hb => HA.out b (qcgs B1.out.size hb)) (T0.out.below B1.out) C0.out l1 l2 l3).mono ?_
   rintro e w2 h2;have HR := qb (h2.back B1.out);have P2 : Hid (w2.heap[w.heap.size]? = some (.cells #[.string (qg a), .string (qg b), .string (qg c), .slice x n m, .int .i64 2] 123 (0, 0))) := (h2.1.block w.heap.size LT1.out).trans P1.out;have e0 : w2.cell? ⟨w.heap.size, 0, none⟩ = some (.string (qg a)) := qd 0 P2.out rfl;have e1 : w2.cell? ⟨w.heap.size, 1, none⟩ = some (.string (qg b)) := qd 1 P2.out rfl;have e2 : w2.cell? ⟨w.heap.size, 2, none⟩ = some (.string (qg c)) := qd 2 P2.out rfl;have e3 : w2.cell? ⟨w.heap.size, 3, none⟩ = some (.slice x n m) := qd 3 P2.out rfl;have e4 : w2.cell? ⟨w.heap.size, 4, none⟩ = some (.int .i64 2) := qd 4 P2.out rfl;obtain ⟨_, v2, x2, rfl, _⟩ := h2)
  | (
   go_at_call 134
   refine (qgc a b c x n m 2 _ (by omega)).mono ?_
   rintro e w1 ⟨rfl, hf0⟩;have B1 := qb (bD.out.trans (hf0.mono bD.out.size));have P1 : Hid (w1.heap[w.heap.size]? = some (.cells #[.string (qg a), .string (qg b), .string (qg c), .slice x n m, .int .i64 2] 123 (0, 0))) := (hf0.block w.heap.size hl0.out).trans N0.out;have LT1 : Hid (w.heap.size < w1.heap.size) := (qcgg.1 P1.out).1;have e0 : w1.cell? ⟨w.heap.size, 0, none⟩ = some (.string (qg a)) := qd 0 P1.out rfl;have e1 : w1.cell? ⟨w.heap.size, 1, none⟩ = some (.string (qg b)) := qd 1 P1.out rfl;have e2 : w1.cell? ⟨w.heap.size, 2, none⟩ = some (.string (qg c)) := qd 2 P1.out rfl;have e3 : w1.cell? ⟨w.heap.size, 3, none⟩ = some (.slice x n m) := qd 3 P1.out rfl;have e4 : w1.cell? ⟨w.heap.size, 4, none⟩ = some (.int .i64 2) := qd 4 P1.out rfl;clear hf0)
  | fail))
 try dsimp only
 (go_wp2_with fail);go_ret
 exact HR.out
theorem qbfw (t : QY) (htl : t.data.toList = [126]) (a b c : QB) (pr : List QB) (x : Option Addr) (n m : Nat) (w : QW) (hA : ∀ b, w.heap.size ≤ b → A b) (ht : Txt w (.slice x n m) pr) (hc : CapA A (.slice x n m)) (l1 : a.length ≤ 1024) (l2 : b.length ≤ 1024) (l3 : c.length ≤ 1024) :
  Calls prog 98 #[.string t, .agg #[.string (qg a), .string (qg b), .string (qg c), .slice x n m, .int .i64 3]] w (qbd A w [(4, (⟨zN a, zN b, zN c, pr, []⟩ : SemL)), (1, nxD a b c 1)]) := by
 obtain ⟨g0, g61, g62, g62_61, g60, g60_61, g126⟩ := gq6 t htl
 have HA := qb hA;have T0 := qb ht;have C0 := qb hc;clear htl hA ht hc;obtain ⟨b0, n0⟩ := qbx98 a b c x n m 3 w;go_enter Tryz.func98, Tryz.ntmps98
 (go_wp2_with fail);generalize w.alloc _ = W0 at *;have hl0 := qb (qcgg.1 n0).1;have N0 := qb n0;clear n0;have q0 := qd 0 N0.out rfl;have q1 := qd 1 N0.out rfl;have q2 := qd 2 N0.out rfl;have q3 := qd 3 N0.out rfl;have q4 := qd 4 N0.out rfl;have bD := qb (b0.out.trans (qbh w.heap.size W0));go_region_held3 (fun W' => W'.cell? ⟨w.heap.size, 0, none⟩ = some (.string (qg a)) ∧ W'.cell? ⟨w.heap.size, 1, none⟩ = some (.string (qg b)) ∧ W'.cell? ⟨w.heap.size, 2, none⟩ = some (.string (qg c)) ∧ W'.cell? ⟨w.heap.size, 3, none⟩ = some (.slice x n m) ∧ W'.cell? ⟨w.heap.size, 4, none⟩ = some (.int .i64 3)) (go_keep) ((first
  | (
   go_at_call 133
   refine (qdf (A := A) a b c pr x n m 3 1 (by omega) w1 (fun b hb => HA.out b (qcgs B1.out.size hb)) (T0.out.below B1.out) C0.out l1 l2 l3).mono ?_
   rintro e w2 h2;have HR := qb (h2.back B1.out);have P2 : Hid (w2.heap[w.heap.size]? = some (.cells #[.string (qg a), .string (qg b), .string (qg c), .slice x n m, .int .i64 3] 123 (0, 0))) := (h2.1.block w.heap.size LT1.out).trans P1.out;have e0 : w2.cell? ⟨w.heap.size, 0, none⟩ = some (.string (qg a)) := qd 0 P2.out rfl;have e1 : w2.cell? ⟨w.heap.size, 1, none⟩ = some (.string (qg b)) := qd 1 P2.out rfl;have e2 : w2.cell? ⟨w.heap.size, 2, none⟩ = some (.string (qg c)) := qd 2 P2.out rfl;have e3 : w2.cell? ⟨w.heap.size, 3, none⟩ = some (.slice x n m) := qd 3 P2.out rfl;have e4 : w2.cell? ⟨w.heap.size, 4, none⟩ = some (.int .i64 3) := qd 4 P2.out rfl;obtain ⟨_, v2, x2, rfl, _⟩ := h2)
  | (
   go_at_call 134
   refine (qgc a b c x n m 3 _ (by omega)).mono ?_
   rintro e w1 ⟨rfl, hf0⟩;have B1 := qb (bD.out.trans (hf0.mono bD.out.size));have P1 : Hid (w1.heap[w.heap.size]? = some (.cells #[.string (qg a), .string (qg b), .string (qg c), .slice x n m, .int .i64 3] 123 (0, 0))) := (hf0.block w.heap.size hl0.out).trans N0.out;have LT1 : Hid (w.heap.size < w1.heap.size) := (qcgg.1 P1.out).1;have e0 : w1.cell? ⟨w.heap.size, 0, none⟩ = some (.string (qg a)) := qd 0 P1.out rfl;have e1 : w1.cell? ⟨w.heap.size, 1, none⟩ = some (.string (qg b)) := qd 1 P1.out rfl;have e2 : w1.cell? ⟨w.heap.size, 2, none⟩ = some (.string (qg c)) := qd 2 P1.out rfl;have e3 : w1.cell? ⟨w.heap.size, 3, none⟩ = some (.slice x n m) := qd 3 P1.out rfl;have e4 : w1.cell? ⟨w.heap.size, 4, none⟩ = some (.int .i64 3) := qd 4 P1.out rfl;clear hf0)
  | fail))
 try dsimp only
 (go_wp2_with fail);go_ret
 exact HR.out
theorem qbfx (t : QY) (htl : t.data.toList = [94]) (a b c : QB) (pr : List QB) (x : Option Addr) (n m : Nat) (w : QW) (hA : ∀ b, w.heap.size ≤ b → A b) (ht : Txt w (.slice x n m) pr) (hc : CapA A (.slice x n m)) (l1 : a.length ≤ 1024) (l2 : b.length ≤ 1024) (l3 : c.length ≤ 1024) :
  Calls prog 98 #[.string t, .agg #[.string (qg a), .string (qg b), .string (qg c), .slice x n m, .int .i64 0]] w (qbd A w []) := by
 obtain ⟨g0, g61, g62, g62_61, g60, g60_61, g126⟩ := gq7 t htl
 have HA := qb hA;have T0 := qb ht;have C0 := qb hc;clear htl hA ht hc;obtain ⟨b0, n0⟩ := qbx98 a b c x n m 0 w;clear n0;go_enter Tryz.func98, Tryz.ntmps98
 (go_wp2_with fail);go_ret
 exact ⟨b0.out, _, [], rfl, World.ownsRow_nil _ _ _ _, rfl⟩
theorem qbgk (t : QY) (htl : t.data.toList = [94]) (a b c : QB) (pr : List QB) (x : Option Addr) (n m : Nat) (w : QW) (hA : ∀ b, w.heap.size ≤ b → A b) (ht : Txt w (.slice x n m) pr) (hc : CapA A (.slice x n m)) (l1 : a.length ≤ 1024) (l2 : b.length ≤ 1024) (l3 : c.length ≤ 1024) :
  Calls prog 98 #[.string t, .agg #[.string (qg a), .string (qg b), .string (qg c), .slice x n m, .int .i64 1]] w (qbd A w [(4, (⟨zN a, zN b, zN c, pr, []⟩ : SemL)), (1, nxD a b c 0)]) := by
 obtain ⟨g0, g61, g62, g62_61, g60, g60_61, g126⟩ := gq7 t htl
 have HA := qb hA;have T0 := qb ht;have C0 := qb hc;clear htl hA ht hc;obtain ⟨b0, n0⟩ := qbx98 a b c x n m 1 w;go_enter Tryz.func98, Tryz.ntmps98
 (go_wp2_with fail);generalize w.alloc _ = W0 at *;have hl0 := qb (qcgg.1 n0).1;have N0 := qb n0;clear n0;refine (qdf (A := A) a b c pr x n m 1 0 (by omega) W0 (fun b hb => HA.out b (qcgs b0.out.size hb)) (T0.out.below b0.out) C0.out l1 l2 l3).mono ?_
 rintro e w2 h2;have HR := qb (h2.back b0.out);obtain ⟨_, v2, x2, rfl, _⟩ := h2;(go_wp2_with fail);go_ret
 exact HR.out
theorem qbfd (t : QY) (htl : t.data.toList = [94]) (a b c : QB) (pr : List QB) (x : Option Addr) (n m : Nat) (w : QW) (hA : ∀ b, w.heap.size ≤ b → A b) (ht : Txt w (.slice x n m) pr) (hc : CapA A (.slice x n m)) (l1 : a.length ≤ 1024) (l2 : b.length ≤ 1024) (l3 : c.length ≤ 1024) (ha0 : ¬ a = [48]) :
  Calls prog 98 #[.string t, .agg #[.string (qg a), .string (qg b), .string (qg c), .slice x n m, .int .i64 2]] w (qbd A w [(4, (⟨zN a, zN b, zN c, pr, []⟩ : SemL)), (1, nxD a b c 0)]) := by
 obtain ⟨g0, g61, g62, g62_61, g60, g60_61, g126⟩ := gq7 t htl
 have ya : ((qg a).toList == [48]) = false := by rw [toL, qj]; exact beq_eq_false_iff_ne.2 ha0
 have za : ((qg a).toList != [48]) = true := by rw [toL, qj]; exact bne_iff_ne.2 ha0
 clear ha0;have HA := qb hA;have T0 := qb ht;have C0 := qb hc;clear htl hA ht hc;obtain ⟨b0, n0⟩ := qbx98 a b c x n m 2 w;go_enter Tryz.func98, Tryz.ntmps98
 (go_wp2_with fail);generalize w.alloc _ = W0 at *;have hl0 := qb (qcgg.1 n0).1;have N0 := qb n0;clear n0;refine (qdf (A := A) a b c pr x n m 2 0 (by omega) W0 (fun b hb => HA.out b (qcgs b0.out.size hb)) (T0.out.below b0.out) C0.out l1 l2 l3).mono ?_
 rintro e w2 h2;have HR := qb (h2.back b0.out);obtain ⟨_, v2, x2, rfl, _⟩ := h2;(go_wp2_with fail);go_ret
 exact HR.out
theorem qbcq (t : QY) (htl : t.data.toList = [94]) (a b c : QB) (pr : List QB) (x : Option Addr) (n m : Nat) (w : QW) (hA : ∀ b, w.heap.size ≤ b → A b) (ht : Txt w (.slice x n m) pr) (hc : CapA A (.slice x n m)) (l1 : a.length ≤ 1024) (l2 : b.length ≤ 1024) (l3 : c.length ≤ 1024) (ha0 : a = [48]) :
  Calls prog 98 #[.string t, .agg #[.string (qg a), .string (qg b), .string (qg c), .slice x n m, .int .i64 2]] w (qbd A w [(4, (⟨zN a, zN b, zN c, pr, []⟩ : SemL)), (1, nxD a b c 1)]) := by
 obtain ⟨g0, g61, g62, g62_61, g60, g60_61, g126⟩ := gq7 t htl
 have ya : ((qg a).toList == [48]) = true := by rw [toL, qj, ha0]; rfl
 have za : ((qg a).toList != [48]) = false := by rw [toL, qj, ha0]; rfl
 clear ha0;have HA := qb hA;have T0 := qb ht;have C0 := qb hc;clear htl hA ht hc;obtain ⟨b0, n0⟩ := qbx98 a b c x n m 2 w;go_enter Tryz.func98, Tryz.ntmps98
 (go_wp2_with fail);generalize w.alloc _ = W0 at *;have hl0 := qb (qcgg.1 n0).1;have N0 := qb n0;clear n0;refine (qdf (A := A) a b c pr x n m 2 1 (by omega) W0 (fun b hb => HA.out b (qcgs b0.out.size hb)) (T0.out.below b0.out) C0.out l1 l2 l3).mono ?_
 rintro e w2 h2;have HR := qb (h2.back b0.out);obtain ⟨_, v2, x2, rfl, _⟩ := h2;(go_wp2_with fail);go_ret
 exact HR.out
theorem qbff (t : QY) (htl : t.data.toList = [94]) (a b c : QB) (pr : List QB) (x : Option Addr) (n m : Nat) (w : QW) (hA : ∀ b, w.heap.size ≤ b → A b) (ht : Txt w (.slice x n m) pr) (hc : CapA A (.slice x n m)) (l1 : a.length ≤ 1024) (l2 : b.length ≤ 1024) (l3 : c.length ≤ 1024) (ha0 : ¬ a = [48]) :
  Calls prog 98 #[.string t, .agg #[.string (qg a), .string (qg b), .string (qg c), .slice x n m, .int .i64 3]] w (qbd A w [(4, (⟨zN a, zN b, zN c, pr, []⟩ : SemL)), (1, nxD a b c 0)]) := by
 obtain ⟨g0, g61, g62, g62_61, g60, g60_61, g126⟩ := gq7 t htl
 have ya : ((qg a).toList == [48]) = false := by rw [toL, qj]; exact beq_eq_false_iff_ne.2 ha0
 have za : ((qg a).toList != [48]) = true := by rw [toL, qj]; exact bne_iff_ne.2 ha0
 clear ha0;have HA := qb hA;have T0 := qb ht;have C0 := qb hc;clear htl hA ht hc;obtain ⟨b0, n0⟩ := qbx98 a b c x n m 3 w;go_enter Tryz.func98, Tryz.ntmps98
 (go_wp2_with fail);generalize w.alloc _ = W0 at *;have hl0 := qb (qcgg.1 n0).1;have N0 := qb n0;clear n0;refine (qdf (A := A) a b c pr x n m 3 0 (by omega) W0 (fun b hb => HA.out b (qcgs b0.out.size hb)) (T0.out.below b0.out) C0.out l1 l2 l3).mono ?_
 rintro e w2 h2;have HR := qb (h2.back b0.out);obtain ⟨_, v2, x2, rfl, _⟩ := h2;(go_wp2_with fail);go_ret
 exact HR.out
theorem qxw (t : QY) (htl : t.data.toList = [94]) (a b c : QB) (pr : List QB) (x : Option Addr) (n m : Nat) (w : QW) (hA : ∀ b, w.heap.size ≤ b → A b) (ht : Txt w (.slice x n m) pr) (hc : CapA A (.slice x n m)) (l1 : a.length ≤ 1024) (l2 : b.length ≤ 1024) (l3 : c.length ≤ 1024) (ha0 : a = [48]) (hb0 : ¬ b = [48]) :
  Calls prog 98 #[.string t, .agg #[.string (qg a), .string (qg b), .string (qg c), .slice x n m, .int .i64 3]] w (qbd A w [(4, (⟨zN a, zN b, zN c, pr, []⟩ : SemL)), (1, nxD a b c 1)]) := by
 obtain ⟨g0, g61, g62, g62_61, g60, g60_61, g126⟩ := gq7 t htl
 have ya : ((qg a).toList == [48]) = true := by rw [toL, qj, ha0]; rfl
 have za : ((qg a).toList != [48]) = false := by rw [toL, qj, ha0]; rfl
 clear ha0;have yb : ((qg b).toList == [48]) = false := by rw [toL, qj]; exact beq_eq_false_iff_ne.2 hb0
 have zb : ((qg b).toList != [48]) = true := by rw [toL, qj]; exact bne_iff_ne.2 hb0
 clear hb0;have HA := qb hA;have T0 := qb ht;have C0 := qb hc;clear htl hA ht hc;obtain ⟨b0, n0⟩ := qbx98 a b c x n m 3 w;go_enter Tryz.func98, Tryz.ntmps98
 (go_wp2_with fail);generalize w.alloc _ = W0 at *;have hl0 := qb (qcgg.1 n0).1;have N0 := qb n0;clear n0;refine (qdf (A := A) a b c pr x n m 3 1 (by omega) W0 (fun b hb => HA.out b (qcgs b0.out.size hb)) (T0.out.below b0.out) C0.out l1 l2 l3).mono ?_
 rintro e w2 h2;have HR := qb (h2.back b0.out);obtain ⟨_, v2, x2, rfl, _⟩ := h2;(go_wp2_with fail);go_ret
 exact HR.out
theorem qxv (t : QY) (htl : t.data.toList = [94]) (a b c : QB) (pr : List QB) (x : Option Addr) (n m : Nat) (w : QW) (hA : ∀ b, w.heap.size ≤ b → A b) (ht : Txt w (.slice x n m) pr) (hc : CapA A (.slice x n m)) (l1 : a.length ≤ 1024) (l2 : b.length ≤ 1024) (l3 : c.length ≤ 1024) (ha0 : a = [48]) (hb0 : b = [48]) :
  Calls prog 98 #[.string t, .agg #[.string (qg a), .string (qg b), .string (qg c), .slice x n m, .int .i64 3]] w (qbd A w [(4, (⟨zN a, zN b, zN c, pr, []⟩ : SemL)), (1, nxD a b c 2)]) := by
 obtain ⟨g0, g61, g62, g62_61, g60, g60_61, g126⟩ := gq7 t htl
 have ya : ((qg a).toList == [48]) = true := by rw [toL, qj, ha0]; rfl
 have za : ((qg a).toList != [48]) = false := by rw [toL, qj, ha0]; rfl
 clear ha0;have yb : ((qg b).toList == [48]) = true := by rw [toL, qj, hb0]; rfl
 have zb : ((qg b).toList != [48]) = false := by rw [toL, qj, hb0]; rfl
 clear hb0;have HA := qb hA;have T0 := qb ht;have C0 := qb hc;clear htl hA ht hc;obtain ⟨b0, n0⟩ := qbx98 a b c x n m 3 w;go_enter Tryz.func98, Tryz.ntmps98
 (go_wp2_with fail);generalize w.alloc _ = W0 at *;have hl0 := qb (qcgg.1 n0).1;have N0 := qb n0;clear n0;refine (qdf (A := A) a b c pr x n m 3 2 (by omega) W0 (fun b hb => HA.out b (qcgs b0.out.size hb)) (T0.out.below b0.out) C0.out l1 l2 l3).mono ?_
 rintro e w2 h2;have HR := qb (h2.back b0.out);obtain ⟨_, v2, x2, rfl, _⟩ := h2;(go_wp2_with fail);go_ret
 exact HR.out
end Go.Proofs.YtpdlgiioahjhiaaGreat
