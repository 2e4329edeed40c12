/- Walks: what the document's operators mean, the first four. -/
import Derived.Test.YtpdlgiioahjhiaaGreatPLu
namespace Go.Proofs.YtpdlgiioahjhiaaGreat
open Go.RowKit Go.Shelf
open _root_.Array renaming getElem?_eq_some_iff → qcgg
open Go renaming World → QW
open Go.Proofs.Tryz (prog)
set_option linter.unusedVariables false
set_option maxHeartbeats 4000000
set_option maxRecDepth 100000
variable {A : Nat → Prop}
theorem gq0 (t : ByteArray) (htl : t.data.toList = []) : t.toList.isEmpty = true ∧ (t.toList == [61]) = false ∧ (t.toList == [62]) = false ∧ (t.toList == [62, 61]) = false ∧ (t.toList == [60]) = false ∧ (t.toList == [60, 61]) = false ∧ (t.toList == [126]) = false := by
 rw [toL, htl]; exact ⟨rfl, rfl, rfl, rfl, rfl, rfl, rfl⟩
theorem gq1 (t : ByteArray) (htl : t.data.toList = [61]) : t.toList.isEmpty = false ∧ (t.toList == [61]) = true ∧ (t.toList == [62]) = false ∧ (t.toList == [62, 61]) = false ∧ (t.toList == [60]) = false ∧ (t.toList == [60, 61]) = false ∧ (t.toList == [126]) = false := by
 rw [toL, htl]; exact ⟨rfl, rfl, rfl, rfl, rfl, rfl, rfl⟩
theorem gq2 (t : ByteArray) (htl : t.data.toList = [62]) : t.toList.isEmpty = false ∧ (t.toList == [61]) = false ∧ (t.toList == [62]) = true ∧ (t.toList == [62, 61]) = false ∧ (t.toList == [60]) = false ∧ (t.toList == [60, 61]) = false ∧ (t.toList == [126]) = false := by
 rw [toL, htl]; exact ⟨rfl, rfl, rfl, rfl, rfl, rfl, rfl⟩
theorem gq3 (t : ByteArray) (htl : t.data.toList = [62, 61]) : t.toList.isEmpty = false ∧ (t.toList == [61]) = false ∧ (t.toList == [62]) = false ∧ (t.toList == [62, 61]) = true ∧ (t.toList == [60]) = false ∧ (t.toList == [60, 61]) = false ∧ (t.toList == [126]) = false := by
 rw [toL, htl]; exact ⟨rfl, rfl, rfl, rfl, rfl, rfl, rfl⟩
theorem qbqp (t : QY) (htl : t.data.toList = []) (a b c : QB) (pr : List QB) (x : Option Addr) (n m : Nat) (w : QW) (hA : ∀ b, w.heap.size ≤ b → A b) (ht : Txt w (.slice x n m) pr) (hc : CapA A (.slice x n m)) (l1 : a.length ≤ 1024) (l2 : b.length ≤ 1024) (l3 : c.length ≤ 1024) :
  Calls prog 98 #[.string t, .agg #[.string (qg a), .string (qg b), .string (qg c), .slice x n m, .int .i64 0]] w (qbd A w []) := by
 obtain ⟨g0, g61, g62, g62_61, g60, g60_61, g126⟩ := gq0 t htl
 have HA := qb hA;have T0 := qb ht;have C0 := qb hc;clear htl hA ht hc;obtain ⟨b0, n0⟩ := qbx98 a b c x n m 0 w;clear n0;go_enter Tryz.func98, Tryz.ntmps98
 (go_wp2_with fail);go_ret
 exact ⟨b0.out, _, [], rfl, World.ownsRow_nil _ _ _ _, rfl⟩
theorem qbsr (t : QY) (htl : t.data.toList = []) (a b c : QB) (pr : List QB) (x : Option Addr) (n m : Nat) (w : QW) (hA : ∀ b, w.heap.size ≤ b → A b) (ht : Txt w (.slice x n m) pr) (hc : CapA A (.slice x n m)) (l1 : a.length ≤ 1024) (l2 : b.length ≤ 1024) (l3 : c.length ≤ 1024) :
  Calls prog 98 #[.string t, .agg #[.string (qg a), .string (qg b), .string (qg c), .slice x n m, .int .i64 1]] w (qbd A w [(4, (⟨zN a, zN b, zN c, pr, []⟩ : SemL)), (1, nxD a b c 0)]) := by
 obtain ⟨g0, g61, g62, g62_61, g60, g60_61, g126⟩ := gq0 t htl
 have HA := qb hA;have T0 := qb ht;have C0 := qb hc;clear htl hA ht hc;obtain ⟨b0, n0⟩ := qbx98 a b c x n m 1 w;go_enter Tryz.func98, Tryz.ntmps98
 (go_wp2_with fail);generalize w.alloc _ = W0 at *;have hl0 := qb (qcgg.1 n0).1;have N0 := qb n0;clear n0;have q0 := qd 0 N0.out rfl;have q1 := qd 1 N0.out rfl;have q2 := qd 2 N0.out rfl;have q3 := qd 3 N0.out rfl;have q4 := qd 4 N0.out rfl;have bD := qb (b0.out.trans (qbh w.heap.size W0));go_region_held3 (fun W' => W'.cell? ⟨w.heap.size, 0, none⟩ = some (.string (qg a)) ∧ W'.cell? ⟨w.heap.size, 1, none⟩ = some (.string (qg b)) ∧ W'.cell? ⟨w.heap.size, 2, none⟩ = some (.string (qg c)) ∧ W'.cell? ⟨w.heap.size, 3, none⟩ = some (.slice x n m) ∧ W'.cell? ⟨w.heap.size, 4, none⟩ = some (.int .i64 1)) (go_keep) ((first
  | (
   go_at_call 133
   refine (qdf (A := A) a b c pr x n m 1 0 (by omega) w1 (fun b hb => HA.out b (Nat.le_trans B1.out.size hb)) (T0.out.below B1.out) C0.out l1 l2 l3).mono ?_
   rintro e w2 h2;have HR := qb (h2.back B1.out);have P2 : Hid (w2.heap[w.heap.size]? = some (.cells #[.string (qg a), .string (qg b), .string (qg c), .slice x n m, .int .i64 1] 123 (0, 0))) := (h2.1.block w.heap.size LT1.out).trans P1.out;have e0 : w2.cell? ⟨w.heap.size, 0, none⟩ = some (.string (qg a)) := qd 0 P2.out rfl;have e1 : w2.cell? ⟨w.heap.size, 1, none⟩ = some (.string (qg b)) := qd 1 P2.out rfl;have e2 : w2.cell? ⟨w.heap.size, 2, none⟩ = some (.string (qg c)) := qd 2 P2.out rfl;have e3 : w2.cell? ⟨w.heap.size, 3, none⟩ = some (.slice x n m) := qd 3 P2.out rfl;have e4 : w2.cell? ⟨w.heap.size, 4, none⟩ = some (.int .i64 1) := qd 4 P2.out rfl;obtain ⟨_, v2, x2, rfl, _⟩ := h2)
  | (
   go_at_call 134
   refine (qgc a b c x n m 1 _ (by omega)).mono ?_
   rintro e w1 ⟨rfl, hf0⟩;have B1 := qb (bD.out.trans (hf0.mono bD.out.size));have P1 : Hid (w1.heap[w.heap.size]? = some (.cells #[.string (qg a), .string (qg b), .string (qg c), .slice x n m, .int .i64 1] 123 (0, 0))) := (hf0.block w.heap.size hl0.out).trans N0.out;have LT1 : Hid (w.heap.size < w1.heap.size) := (qcgg.1 P1.out).1;have e0 : w1.cell? ⟨w.heap.size, 0, none⟩ = some (.string (qg a)) := qd 0 P1.out rfl;have e1 : w1.cell? ⟨w.heap.size, 1, none⟩ = some (.string (qg b)) := qd 1 P1.out rfl;have e2 : w1.cell? ⟨w.heap.size, 2, none⟩ = some (.string (qg c)) := qd 2 P1.out rfl;have e3 : w1.cell? ⟨w.heap.size, 3, none⟩ = some (.slice x n m) := qd 3 P1.out rfl;have e4 : w1.cell? ⟨w.heap.size, 4, none⟩ = some (.int .i64 1) := qd 4 P1.out rfl;clear hf0)
  | fail))
 try dsimp only
 (go_wp2_with fail);go_ret
 exact HR.out
theorem qbst (t : QY) (htl : t.data.toList = []) (a b c : QB) (pr : List QB) (x : Option Addr) (n m : Nat) (w : QW) (hA : ∀ b, w.heap.size ≤ b → A b) (ht : Txt w (.slice x n m) pr) (hc : CapA A (.slice x n m)) (l1 : a.length ≤ 1024) (l2 : b.length ≤ 1024) (l3 : c.length ≤ 1024) :
  Calls prog 98 #[.string t, .agg #[.string (qg a), .string (qg b), .string (qg c), .slice x n m, .int .i64 2]] w (qbd A w [(4, (⟨zN a, zN b, zN c, pr, []⟩ : SemL)), (1, nxD a b c 1)]) := by
 obtain ⟨g0, g61, g62, g62_61, g60, g60_61, g126⟩ := gq0 t htl
 have HA := qb hA;have T0 := qb ht;have C0 := qb hc;clear htl hA ht hc;obtain ⟨b0, n0⟩ := qbx98 a b c x n m 2 w;go_enter Tryz.func98, Tryz.ntmps98
 (go_wp2_with fail);generalize w.alloc _ = W0 at *;have hl0 := qb (qcgg.1 n0).1;have N0 := qb n0;clear n0;have q0 := qd 0 N0.out rfl;have q1 := qd 1 N0.out rfl;have q2 := qd 2 N0.out rfl;have q3 := qd 3 N0.out rfl;have q4 := qd 4 N0.out rfl;have bD := qb (b0.out.trans (qbh w.heap.size W0));go_region_held3 (fun W' => W'.cell? ⟨w.heap.size, 0, none⟩ = some (.string (qg a)) ∧ W'.cell? ⟨w.heap.size, 1, none⟩ = some (.string (qg b)) ∧ W'.cell? ⟨w.heap.size, 2, none⟩ = some (.string (qg c)) ∧ W'.cell? ⟨w.heap.size, 3, none⟩ = some (.slice x n m) ∧ W'.cell? ⟨w.heap.size, 4, none⟩ = some (.int .i64 2)) (go_keep) ((first
  | (
   go_at_call 133
   refine (qdf (A := A) a b c pr x n m 2 1 (by omega) w1 (fun b hb => HA.out b (Nat.le_trans B1.out.size hb)) (T0.out.below B1.out) C0.out l1 l2 l3).mono ?_
   rintro e w2 h2;have HR := qb (h2.back B1.out);have P2 : Hid (w2.heap[w.heap.size]? = some (.cells #[.string (qg a), .string (qg b), .string (qg c), .slice x n m, .int .i64 2] 123 (0, 0))) := (h2.1.block w.heap.size LT1.out).trans P1.out;have e0 : w2.cell? ⟨w.heap.size, 0, none⟩ = some (.string (qg a)) := qd 0 P2.out rfl;have e1 : w2.cell? ⟨w.heap.size, 1, none⟩ = some (.string (qg b)) := qd 1 P2.out rfl;have e2 : w2.cell? ⟨w.heap.size, 2, none⟩ = some (.string (qg c)) := qd 2 P2.out rfl;have e3 : w2.cell? ⟨w.heap.size, 3, none⟩ = some (.slice x n m) := qd 3 P2.out rfl;have e4 : w2.cell? ⟨w.heap.size, 4, none⟩ = some (.int .i64 2) := qd 4 P2.out rfl;obtain ⟨_, v2, x2, rfl, _⟩ := h2)
  | (
   go_at_call 134
   refine (qgc a b c x n m 2 _ (by omega)).mono ?_
   rintro e w1 ⟨rfl, hf0⟩;have B1 := qb (bD.out.trans (hf0.mono bD.out.size));have P1 : Hid (w1.heap[w.heap.size]? = some (.cells #[.string (qg a), .string (qg b), .string (qg c), .slice x n m, .int .i64 2] 123 (0, 0))) := (hf0.block w.heap.size hl0.out).trans N0.out;have LT1 : Hid (w.heap.size < w1.heap.size) := (qcgg.1 P1.out).1;have e0 : w1.cell? ⟨w.heap.size, 0, none⟩ = some (.string (qg a)) := qd 0 P1.out rfl;have e1 : w1.cell? ⟨w.heap.size, 1, none⟩ = some (.string (qg b)) := qd 1 P1.out rfl;have e2 : w1.cell? ⟨w.heap.size, 2, none⟩ = some (.string (qg c)) := qd 2 P1.out rfl;have e3 : w1.cell? ⟨w.heap.size, 3, none⟩ = some (.slice x n m) := qd 3 P1.out rfl;have e4 : w1.cell? ⟨w.heap.size, 4, none⟩ = some (.int .i64 2) := qd 4 P1.out rfl;clear hf0)
  | fail))
 try dsimp only
 (go_wp2_with fail);go_ret
 exact HR.out
theorem qbqv (t : QY) (htl : t.data.toList = []) (a b c : QB) (pr : List QB) (x : Option Addr) (n m : Nat) (w : QW) (hA : ∀ b, w.heap.size ≤ b → A b) (ht : Txt w (.slice x n m) pr) (hc : CapA A (.slice x n m)) (l1 : a.length ≤ 1024) (l2 : b.length ≤ 1024) (l3 : c.length ≤ 1024) :
  Calls prog 98 #[.string t, .agg #[.string (qg a), .string (qg b), .string (qg c), .slice x n m, .int .i64 3]] w (qbd A w [(5, (⟨zN a, zN b, zN c, pr, []⟩ : SemL))]) := by
 obtain ⟨g0, g61, g62, g62_61, g60, g60_61, g126⟩ := gq0 t htl
 have HA := qb hA;have T0 := qb ht;have C0 := qb hc;clear htl hA ht hc;obtain ⟨b0, n0⟩ := qbx98 a b c x n m 3 w;go_enter Tryz.func98, Tryz.ntmps98
 (go_wp2_with fail);generalize w.alloc _ = W0 at *;have hl0 := qb (qcgg.1 n0).1;have N0 := qb n0;clear n0;refine (qdx a b c x n m 3 W0).mono ?_;rintro e w1 ⟨rfl, h1⟩;have B1 := qb (b0.out.trans (h1.mono b0.out.size));clear h1;(go_wp2_with fail);refine (qdc (A := A) 5 _ (⟨zN a, zN b, zN c, pr, []⟩ : SemL) w1 ⟨_, _, rfl, T0.out.below B1.out, qt _, C0.out, capZ (qt w)⟩).mono ?_;rintro e w2 h2;have HR := qb ((h2.toR (by simp)).back B1.out)
 obtain ⟨b1, x1, rfl, _⟩ := qdm h2;clear h2;(go_wp2_with fail);go_ret
 exact HR.out
theorem qbsp (t : QY) (htl : t.data.toList = [61]) (a b c : QB) (pr : List QB) (x : Option Addr) (n m : Nat) (w : QW) (hA : ∀ b, w.heap.size ≤ b → A b) (ht : Txt w (.slice x n m) pr) (hc : CapA A (.slice x n m)) (l1 : a.length ≤ 1024) (l2 : b.length ≤ 1024) (l3 : c.length ≤ 1024) :
  Calls prog 98 #[.string t, .agg #[.string (qg a), .string (qg b), .string (qg c), .slice x n m, .int .i64 0]] w (qbd A w []) := by
 obtain ⟨g0, g61, g62, g62_61, g60, g60_61, g126⟩ := gq1 t htl
 have HA := qb hA;have T0 := qb ht;have C0 := qb hc;clear htl hA ht hc;obtain ⟨b0, n0⟩ := qbx98 a b c x n m 0 w;clear n0;go_enter Tryz.func98, Tryz.ntmps98
 (go_wp2_with fail);go_ret
 exact ⟨b0.out, _, [], rfl, World.ownsRow_nil _ _ _ _, rfl⟩
theorem qbpf (t : QY) (htl : t.data.toList = [61]) (a b c : QB) (pr : List QB) (x : Option Addr) (n m : Nat) (w : QW) (hA : ∀ b, w.heap.size ≤ b → A b) (ht : Txt w (.slice x n m) pr) (hc : CapA A (.slice x n m)) (l1 : a.length ≤ 1024) (l2 : b.length ≤ 1024) (l3 : c.length ≤ 1024) :
  Calls prog 98 #[.string t, .agg #[.string (qg a), .string (qg b), .string (qg c), .slice x n m, .int .i64 1]] w (qbd A w [(4, (⟨zN a, zN b, zN c, pr, []⟩ : SemL)), (1, nxD a b c 0)]) := by
 obtain ⟨g0, g61, g62, g62_61, g60, g60_61, g126⟩ := gq1 t htl
 have HA := qb hA;have T0 := qb ht;have C0 := qb hc;clear htl hA ht hc;obtain ⟨b0, n0⟩ := qbx98 a b c x n m 1 w;go_enter Tryz.func98, Tryz.ntmps98
 (go_wp2_with fail);generalize w.alloc _ = W0 at *;have hl0 := qb (qcgg.1 n0).1;have N0 := qb n0;clear n0;have q0 := qd 0 N0.out rfl;have q1 := qd 1 N0.out rfl;have q2 := qd 2 N0.out rfl;have q3 := qd 3 N0.out rfl;have q4 := qd 4 N0.out rfl;have bD := qb (b0.out.trans (qbh w.heap.size W0));go_region_held3 (fun W' => W'.cell? ⟨w.heap.size, 0, none⟩ = some (.string (qg a)) ∧ W'.cell? ⟨w.heap.size, 1, none⟩ = some (.string (qg b)) ∧ W'.cell? ⟨w.heap.size, 2, none⟩ = some (.string (qg c)) ∧ W'.cell? ⟨w.heap.size, 3, none⟩ = some (.slice x n m) ∧ W'.cell? ⟨w.heap.size, 4, none⟩ = some (.int .i64 1)) (go_keep) ((first
  | (
   go_at_call 133
   refine (qdf (A := A) a b c pr x n m 1 0 (by omega) w1 (fun b hb => HA.out b (Nat.le_trans B1.out.size hb)) (T0.out.below B1.out) C0.out l1 l2 l3).mono ?_
   rintro e w2 h2;have HR := qb (h2.back B1.out);have P2 : Hid (w2.heap[w.heap.size]? = some (.cells #[.string (qg a), .string (qg b), .string (qg c), .slice x n m, .int .i64 1] 123 (0, 0))) := (h2.1.block w.heap.size LT1.out).trans P1.out;have e0 : w2.cell? ⟨w.heap.size, 0, none⟩ = some (.string (qg a)) := qd 0 P2.out rfl;have e1 : w2.cell? ⟨w.heap.size, 1, none⟩ = some (.string (qg b)) := qd 1 P2.out rfl;have e2 : w2.cell? ⟨w.heap.size, 2, none⟩ = some (.string (qg c)) := qd 2 P2.out rfl;have e3 : w2.cell? ⟨w.heap.size, 3, none⟩ = some (.slice x n m) := qd 3 P2.out rfl;have e4 : w2.cell? ⟨w.heap.size, 4, none⟩ = some (.int .i64 1) := qd 4 P2.out rfl;obtain ⟨_, v2, x2, rfl, _⟩ := h2)
  | (
   go_at_call 134
   refine (qgc a b c x n m 1 _ (by omega)).mono ?_
   rintro e w1 ⟨rfl, hf0⟩;have B1 := qb (bD.out.trans (hf0.mono bD.out.size));have P1 : Hid (w1.heap[w.heap.size]? = some (.cells #[.string (qg a), .string (qg b), .string (qg c), .slice x n m, .int .i64 1] 123 (0, 0))) := (hf0.block w.heap.size hl0.out).trans N0.out;have LT1 : Hid (w.heap.size < w1.heap.size) := (qcgg.1 P1.out).1;have e0 : w1.cell? ⟨w.heap.size, 0, none⟩ = some (.string (qg a)) := qd 0 P1.out rfl;have e1 : w1.cell? ⟨w.heap.size, 1, none⟩ = some (.string (qg b)) := qd 1 P1.out rfl;have e2 : w1.cell? ⟨w.heap.size, 2, none⟩ = some (.string (qg c)) := qd 2 P1.out rfl;have e3 : w1.cell? ⟨w.heap.size, 3, none⟩ = some (.slice x n m) := qd 3 P1.out rfl;have e4 : w1.cell? ⟨w.heap.size, 4, none⟩ = some (.int .i64 1) := qd 4 P1.out rfl;clear hf0)
  | fail))
 try dsimp only
 (go_wp2_with fail);go_ret
 exact HR.out
theorem qbpn (t : QY) (htl : t.data.toList = [61]) (a b c : QB) (pr : List QB) (x : Option Addr) (n m : Nat) (w : QW) (hA : ∀ b, w.heap.size ≤ b → A b) (ht : Txt w (.slice x n m) pr) (hc : CapA A (.slice x n m)) (l1 : a.length ≤ 1024) (l2 : b.length ≤ 1024) (l3 : c.length ≤ 1024) :
  Calls prog 98 #[.string t, .agg #[.string (qg a), .string (qg b), .string (qg c), .slice x n m, .int .i64 2]] w (qbd A w [(4, (⟨zN a, zN b, zN c, pr, []⟩ : SemL)), (1, nxD a b c 1)]) := by
 obtain ⟨g0, g61, g62, g62_61, g60, g60_61, g126⟩ := gq1 t htl
 have HA := qb hA;have T0 := qb ht;have C0 := qb hc;clear htl hA ht hc;obtain ⟨b0, n0⟩ := qbx98 a b c x n m 2 w;go_enter Tryz.func98, Tryz.ntmps98
 (go_wp2_with fail);generalize w.alloc _ = W0 at *;have hl0 := qb (qcgg.1 n0).1;have N0 := qb n0;clear n0;have q0 := qd 0 N0.out rfl;have q1 := qd 1 N0.out rfl;have q2 := qd 2 N0.out rfl;have q3 := qd 3 N0.out rfl;have q4 := qd 4 N0.out rfl;have bD := qb (b0.out.trans (qbh w.heap.size W0));go_region_held3 (fun W' => W'.cell? ⟨w.heap.size, 0, none⟩ = some (.string (qg a)) ∧ W'.cell? ⟨w.heap.size, 1, none⟩ = some (.string (qg b)) ∧ W'.cell? ⟨w.heap.size, 2, none⟩ = some (.string (qg c)) ∧ W'.cell? ⟨w.heap.size, 3, none⟩ = some (.slice x n m) ∧ W'.cell? ⟨w.heap.size, 4, none⟩ = some (.int .i64 2)) (go_keep) ((first
  | (
   go_at_call 133
   refine (qdf (A := A) a b c pr x n m 2 1 (by omega) w1 (fun b hb => HA.out b (Nat.le_trans B1.out.size hb)) (T0.out.below B1.out) C0.out l1 l2 l3).mono ?_
   rintro e w2 h2;have HR := qb (h2.back B1.out);have P2 : Hid (w2.heap[w.heap.size]? = some (.cells #[.string (qg a), .string (qg b), .string (qg c), .slice x n m, .int .i64 2] 123 (0, 0))) := (h2.1.block w.heap.size LT1.out).trans P1.out;have e0 : w2.cell? ⟨w.heap.size, 0, none⟩ = some (.string (qg a)) := qd 0 P2.out rfl;have e1 : w2.cell? ⟨w.heap.size, 1, none⟩ = some (.string (qg b)) := qd 1 P2.out rfl;have e2 : w2.cell? ⟨w.heap.size, 2, none⟩ = some (.string (qg c)) := qd 2 P2.out rfl;have e3 : w2.cell? ⟨w.heap.size, 3, none⟩ = some (.slice x n m) := qd 3 P2.out rfl;have e4 : w2.cell? ⟨w.heap.size, 4, none⟩ = some (.int .i64 2) := qd 4 P2.out rfl;obtain ⟨_, v2, x2, rfl, _⟩ := h2)
  | (
   go_at_call 134
   refine (qgc a b c x n m 2 _ (by omega)).mono ?_
   rintro e w1 ⟨rfl, hf0⟩;have B1 := qb (bD.out.trans (hf0.mono bD.out.size));have P1 : Hid (w1.heap[w.heap.size]? = some (.cells #[.string (qg a), .string (qg b), .string (qg c), .slice x n m, .int .i64 2] 123 (0, 0))) := (hf0.block w.heap.size hl0.out).trans N0.out;have LT1 : Hid (w.heap.size < w1.heap.size) := (qcgg.1 P1.out).1;have e0 : w1.cell? ⟨w.heap.size, 0, none⟩ = some (.string (qg a)) := qd 0 P1.out rfl;have e1 : w1.cell? ⟨w.heap.size, 1, none⟩ = some (.string (qg b)) := qd 1 P1.out rfl;have e2 : w1.cell? ⟨w.heap.size, 2, none⟩ = some (.string (qg c)) := qd 2 P1.out rfl;have e3 : w1.cell? ⟨w.heap.size, 3, none⟩ = some (.slice x n m) := qd 3 P1.out rfl;have e4 : w1.cell? ⟨w.heap.size, 4, none⟩ = some (.int .i64 2) := qd 4 P1.out rfl;clear hf0)
  | fail))
 try dsimp only
 (go_wp2_with fail);go_ret
 exact HR.out
theorem qbsx (t : QY) (htl : t.data.toList = [61]) (a b c : QB) (pr : List QB) (x : Option Addr) (n m : Nat) (w : QW) (hA : ∀ b, w.heap.size ≤ b → A b) (ht : Txt w (.slice x n m) pr) (hc : CapA A (.slice x n m)) (l1 : a.length ≤ 1024) (l2 : b.length ≤ 1024) (l3 : c.length ≤ 1024) :
  Calls prog 98 #[.string t, .agg #[.string (qg a), .string (qg b), .string (qg c), .slice x n m, .int .i64 3]] w (qbd A w [(5, (⟨zN a, zN b, zN c, pr, []⟩ : SemL))]) := by
 obtain ⟨g0, g61, g62, g62_61, g60, g60_61, g126⟩ := gq1 t htl
 have HA := qb hA;have T0 := qb ht;have C0 := qb hc;clear htl hA ht hc;obtain ⟨b0, n0⟩ := qbx98 a b c x n m 3 w;go_enter Tryz.func98, Tryz.ntmps98
 (go_wp2_with fail);generalize w.alloc _ = W0 at *;have hl0 := qb (qcgg.1 n0).1;have N0 := qb n0;clear n0;refine (qdx a b c x n m 3 W0).mono ?_;rintro e w1 ⟨rfl, h1⟩;have B1 := qb (b0.out.trans (h1.mono b0.out.size));clear h1;(go_wp2_with fail);refine (qdc (A := A) 5 _ (⟨zN a, zN b, zN c, pr, []⟩ : SemL) w1 ⟨_, _, rfl, T0.out.below B1.out, qt _, C0.out, capZ (qt w)⟩).mono ?_;rintro e w2 h2;have HR := qb ((h2.toR (by simp)).back B1.out)
 obtain ⟨b1, x1, rfl, _⟩ := qdm h2;clear h2;(go_wp2_with fail);go_ret
 exact HR.out
theorem qbml (t : QY) (htl : t.data.toList = [62]) (a b c : QB) (pr : List QB) (x : Option Addr) (n m : Nat) (w : QW) (hA : ∀ b, w.heap.size ≤ b → A b) (ht : Txt w (.slice x n m) pr) (hc : CapA A (.slice x n m)) (l1 : a.length ≤ 1024) (l2 : b.length ≤ 1024) (l3 : c.length ≤ 1024) :
  Calls prog 98 #[.string t, .agg #[.string (qg a), .string (qg b), .string (qg c), .slice x n m, .int .i64 0]] w (qbd A w qlx) := by
 obtain ⟨g0, g61, g62, g62_61, g60, g60_61, g126⟩ := gq2 t htl
 have HA := qb hA;have T0 := qb ht;have C0 := qb hc;clear htl hA ht hc;obtain ⟨b0, n0⟩ := qbx98 a b c x n m 0 w;go_enter Tryz.func98, Tryz.ntmps98
 (go_wp2_with fail);generalize w.alloc _ = W0 at *;have hl0 := qb (qcgg.1 n0).1;have N0 := qb n0;clear n0;refine (qbct (A := A) W0 (fun b hb => HA.out b (Nat.le_trans b0.out.size hb))).mono ?_;rintro e w2 h2;have HR := qb ((h2.toR (by simp [qlx])).back b0.out)
 obtain ⟨b1, x1, rfl, _⟩ := qdm h2;clear h2;(go_wp2_with fail);go_ret
 exact HR.out
theorem qbnk (t : QY) (htl : t.data.toList = [62]) (a b c : QB) (pr : List QB) (x : Option Addr) (n m : Nat) (w : QW) (hA : ∀ b, w.heap.size ≤ b → A b) (ht : Txt w (.slice x n m) pr) (hc : CapA A (.slice x n m)) (l1 : a.length ≤ 1024) (l2 : b.length ≤ 1024) (l3 : c.length ≤ 1024) :
  Calls prog 98 #[.string t, .agg #[.string (qg a), .string (qg b), .string (qg c), .slice x n m, .int .i64 1]] w (qbd A w [(4, (⟨(nxD a b c 0).maj, (nxD a b c 0).min, (nxD a b c 0).pat, [], []⟩ : SemL))]) := by
 obtain ⟨g0, g61, g62, g62_61, g60, g60_61, g126⟩ := gq2 t htl
 have HA := qb hA;have T0 := qb ht;have C0 := qb hc;clear htl hA ht hc;obtain ⟨b0, n0⟩ := qbx98 a b c x n m 1 w;go_enter Tryz.func98, Tryz.ntmps98
 (go_wp2_with fail);generalize w.alloc _ = W0 at *;have hl0 := qb (qcgg.1 n0).1;have N0 := qb n0;clear n0;have q0 := qd 0 N0.out rfl;have q1 := qd 1 N0.out rfl;have q2 := qd 2 N0.out rfl;have q3 := qd 3 N0.out rfl;have q4 := qd 4 N0.out rfl;have bD := qb (b0.out.trans (qbh w.heap.size W0));go_region_held3 (fun W' => W'.cell? ⟨w.heap.size, 0, none⟩ = some (.string (qg a)) ∧ W'.cell? ⟨w.heap.size, 1, none⟩ = some (.string (qg b)) ∧ W'.cell? ⟨w.heap.size, 2, none⟩ = some (.string (qg c)) ∧ W'.cell? ⟨w.heap.size, 3, none⟩ = some (.slice x n m) ∧ W'.cell? ⟨w.heap.size, 4, none⟩ = some (.int .i64 1)) (go_keep) ((first
  | (
   go_at_call 131
   refine (qdc (A := A) 4 _ (⟨(nxD a b c 0).maj, (nxD a b c 0).min, (nxD a b c 0).pat, [], []⟩ : SemL) w2 ⟨_, _, rfl, qt _, qt _, capZ (qt w), capZ (qt w)⟩).mono ?_;rintro e w3 h3;have HR := qb ((h3.toR (by simp)).back B2.out)
   have P3 : Hid (w3.heap[w.heap.size]? = some (.cells #[.string (qg a), .string (qg b), .string (qg c), .slice x n m, .int .i64 1] 123 (0, 0))) := (h3.1.block w.heap.size LT2.out).trans P2.out;have e0 : w3.cell? ⟨w.heap.size, 0, none⟩ = some (.string (qg a)) := qd 0 P3.out rfl;have e1 : w3.cell? ⟨w.heap.size, 1, none⟩ = some (.string (qg b)) := qd 1 P3.out rfl;have e2 : w3.cell? ⟨w.heap.size, 2, none⟩ = some (.string (qg c)) := qd 2 P3.out rfl;have e3 : w3.cell? ⟨w.heap.size, 3, none⟩ = some (.slice x n m) := qd 3 P3.out rfl;have e4 : w3.cell? ⟨w.heap.size, 4, none⟩ = some (.int .i64 1) := qd 4 P3.out rfl;obtain ⟨b3, x3, rfl, _⟩ := qdm h3;clear h3)
  | (
   go_at_call 136
   refine (qmf a b c x n m 1 0 (by omega) none 0 0 w1 l1 l2 l3).mono ?_
   rintro e w2 ⟨rfl, hf1⟩;have B2 := qb (B1.out.trans (hf1.mono B1.out.size));have P2 : Hid (w2.heap[w.heap.size]? = some (.cells #[.string (qg a), .string (qg b), .string (qg c), .slice x n m, .int .i64 1] 123 (0, 0))) := (hf1.block w.heap.size LT1.out).trans P1.out;have LT2 := qb (Nat.lt_of_lt_of_le LT1.out hf1.size);have e0 : w2.cell? ⟨w.heap.size, 0, none⟩ = some (.string (qg a)) := qd 0 P2.out rfl;have e1 : w2.cell? ⟨w.heap.size, 1, none⟩ = some (.string (qg b)) := qd 1 P2.out rfl;have e2 : w2.cell? ⟨w.heap.size, 2, none⟩ = some (.string (qg c)) := qd 2 P2.out rfl;have e3 : w2.cell? ⟨w.heap.size, 3, none⟩ = some (.slice x n m) := qd 3 P2.out rfl;have e4 : w2.cell? ⟨w.heap.size, 4, none⟩ = some (.int .i64 1) := qd 4 P2.out rfl;clear hf1)
  | (
   go_at_call 134
   refine (qgc a b c x n m 1 _ (by omega)).mono ?_
   rintro e w1 ⟨rfl, hf0⟩;have B1 := qb (bD.out.trans (hf0.mono bD.out.size));have P1 : Hid (w1.heap[w.heap.size]? = some (.cells #[.string (qg a), .string (qg b), .string (qg c), .slice x n m, .int .i64 1] 123 (0, 0))) := (hf0.block w.heap.size hl0.out).trans N0.out;have LT1 : Hid (w.heap.size < w1.heap.size) := (qcgg.1 P1.out).1;have e0 : w1.cell? ⟨w.heap.size, 0, none⟩ = some (.string (qg a)) := qd 0 P1.out rfl;have e1 : w1.cell? ⟨w.heap.size, 1, none⟩ = some (.string (qg b)) := qd 1 P1.out rfl;have e2 : w1.cell? ⟨w.heap.size, 2, none⟩ = some (.string (qg c)) := qd 2 P1.out rfl;have e3 : w1.cell? ⟨w.heap.size, 3, none⟩ = some (.slice x n m) := qd 3 P1.out rfl;have e4 : w1.cell? ⟨w.heap.size, 4, none⟩ = some (.int .i64 1) := qd 4 P1.out rfl;clear hf0)
  | fail))
 try dsimp only
 (go_wp2_with fail);go_ret
 exact HR.out
theorem qbkl (t : QY) (htl : t.data.toList = [62]) (a b c : QB) (pr : List QB) (x : Option Addr) (n m : Nat) (w : QW) (hA : ∀ b, w.heap.size ≤ b → A b) (ht : Txt w (.slice x n m) pr) (hc : CapA A (.slice x n m)) (l1 : a.length ≤ 1024) (l2 : b.length ≤ 1024) (l3 : c.length ≤ 1024) :
  Calls prog 98 #[.string t, .agg #[.string (qg a), .string (qg b), .string (qg c), .slice x n m, .int .i64 2]] w (qbd A w [(4, (⟨(nxD a b c 1).maj, (nxD a b c 1).min, (nxD a b c 1).pat, [], []⟩ : SemL))]) := by
 obtain ⟨g0, g61, g62, g62_61, g60, g60_61, g126⟩ := gq2 t htl
 have HA := qb hA;have T0 := qb ht;have C0 := qb hc;clear htl hA ht hc;obtain ⟨b0, n0⟩ := qbx98 a b c x n m 2 w;go_enter Tryz.func98, Tryz.ntmps98
 (go_wp2_with fail);generalize w.alloc _ = W0 at *;have hl0 := qb (qcgg.1 n0).1;have N0 := qb n0;clear n0;have q0 := qd 0 N0.out rfl;have q1 := qd 1 N0.out rfl;have q2 := qd 2 N0.out rfl;have q3 := qd 3 N0.out rfl;have q4 := qd 4 N0.out rfl;have bD := qb (b0.out.trans (qbh w.heap.size W0));go_region_held3 (fun W' => W'.cell? ⟨w.heap.size, 0, none⟩ = some (.string (qg a)) ∧ W'.cell? ⟨w.heap.size, 1, none⟩ = some (.string (qg b)) ∧ W'.cell? ⟨w.heap.size, 2, none⟩ = some (.string (qg c)) ∧ W'.cell? ⟨w.heap.size, 3, none⟩ = some (.slice x n m) ∧ W'.cell? ⟨w.heap.size, 4, none⟩ = some (.int .i64 2)) (go_keep) ((first
  | (
   go_at_call 131
   refine (qdc (A := A) 4 _ (⟨(nxD a b c 1).maj, (nxD a b c 1).min, (nxD a b c 1).pat, [], []⟩ : SemL) w2 ⟨_, _, rfl, qt _, qt _, capZ (qt w), capZ (qt w)⟩).mono ?_;rintro e w3 h3;have HR := qb ((h3.toR (by simp)).back B2.out)
   have P3 : Hid (w3.heap[w.heap.size]? = some (.cells #[.string (qg a), .string (qg b), .string (qg c), .slice x n m, .int .i64 2] 123 (0, 0))) := (h3.1.block w.heap.size LT2.out).trans P2.out;have e0 : w3.cell? ⟨w.heap.size, 0, none⟩ = some (.string (qg a)) := qd 0 P3.out rfl;have e1 : w3.cell? ⟨w.heap.size, 1, none⟩ = some (.string (qg b)) := qd 1 P3.out rfl;have e2 : w3.cell? ⟨w.heap.size, 2, none⟩ = some (.string (qg c)) := qd 2 P3.out rfl;have e3 : w3.cell? ⟨w.heap.size, 3, none⟩ = some (.slice x n m) := qd 3 P3.out rfl;have e4 : w3.cell? ⟨w.heap.size, 4, none⟩ = some (.int .i64 2) := qd 4 P3.out rfl;obtain ⟨b3, x3, rfl, _⟩ := qdm h3;clear h3)
  | (
   go_at_call 136
   refine (qmf a b c x n m 2 1 (by omega) none 0 0 w1 l1 l2 l3).mono ?_
   rintro e w2 ⟨rfl, hf1⟩;have B2 := qb (B1.out.trans (hf1.mono B1.out.size));have P2 : Hid (w2.heap[w.heap.size]? = some (.cells #[.string (qg a), .string (qg b), .string (qg c), .slice x n m, .int .i64 2] 123 (0, 0))) := (hf1.block w.heap.size LT1.out).trans P1.out;have LT2 := qb (Nat.lt_of_lt_of_le LT1.out hf1.size);have e0 : w2.cell? ⟨w.heap.size, 0, none⟩ = some (.string (qg a)) := qd 0 P2.out rfl;have e1 : w2.cell? ⟨w.heap.size, 1, none⟩ = some (.string (qg b)) := qd 1 P2.out rfl;have e2 : w2.cell? ⟨w.heap.size, 2, none⟩ = some (.string (qg c)) := qd 2 P2.out rfl;have e3 : w2.cell? ⟨w.heap.size, 3, none⟩ = some (.slice x n m) := qd 3 P2.out rfl;have e4 : w2.cell? ⟨w.heap.size, 4, none⟩ = some (.int .i64 2) := qd 4 P2.out rfl;clear hf1)
  | (
   go_at_call 134
   refine (qgc a b c x n m 2 _ (by omega)).mono ?_
   rintro e w1 ⟨rfl, hf0⟩;have B1 := qb (bD.out.trans (hf0.mono bD.out.size));have P1 : Hid (w1.heap[w.heap.size]? = some (.cells #[.string (qg a), .string (qg b), .string (qg c), .slice x n m, .int .i64 2] 123 (0, 0))) := (hf0.block w.heap.size hl0.out).trans N0.out;have LT1 : Hid (w.heap.size < w1.heap.size) := (qcgg.1 P1.out).1;have e0 : w1.cell? ⟨w.heap.size, 0, none⟩ = some (.string (qg a)) := qd 0 P1.out rfl;have e1 : w1.cell? ⟨w.heap.size, 1, none⟩ = some (.string (qg b)) := qd 1 P1.out rfl;have e2 : w1.cell? ⟨w.heap.size, 2, none⟩ = some (.string (qg c)) := qd 2 P1.out rfl;have e3 : w1.cell? ⟨w.heap.size, 3, none⟩ = some (.slice x n m) := qd 3 P1.out rfl;have e4 : w1.cell? ⟨w.heap.size, 4, none⟩ = some (.int .i64 2) := qd 4 P1.out rfl;clear hf0)
  | fail))
 try dsimp only
 (go_wp2_with fail);go_ret
 exact HR.out
theorem qbnm (t : QY) (htl : t.data.toList = [62]) (a b c : QB) (pr : List QB) (x : Option Addr) (n m : Nat) (w : QW) (hA : ∀ b, w.heap.size ≤ b → A b) (ht : Txt w (.slice x n m) pr) (hc : CapA A (.slice x n m)) (l1 : a.length ≤ 1024) (l2 : b.length ≤ 1024) (l3 : c.length ≤ 1024) :
  Calls prog 98 #[.string t, .agg #[.string (qg a), .string (qg b), .string (qg c), .slice x n m, .int .i64 3]] w (qbd A w [(3, (⟨zN a, zN b, zN c, pr, []⟩ : SemL))]) := by
 obtain ⟨g0, g61, g62, g62_61, g60, g60_61, g126⟩ := gq2 t htl
 have HA := qb hA;have T0 := qb ht;have C0 := qb hc;clear htl hA ht hc;obtain ⟨b0, n0⟩ := qbx98 a b c x n m 3 w;go_enter Tryz.func98, Tryz.ntmps98
 (go_wp2_with fail);generalize w.alloc _ = W0 at *;have hl0 := qb (qcgg.1 n0).1;have N0 := qb n0;clear n0;refine (qdx a b c x n m 3 W0).mono ?_;rintro e w1 ⟨rfl, h1⟩;have B1 := qb (b0.out.trans (h1.mono b0.out.size));clear h1;(go_wp2_with fail);refine (qdc (A := A) 3 _ (⟨zN a, zN b, zN c, pr, []⟩ : SemL) w1 ⟨_, _, rfl, T0.out.below B1.out, qt _, C0.out, capZ (qt w)⟩).mono ?_;rintro e w2 h2;have HR := qb ((h2.toR (by simp)).back B1.out)
 obtain ⟨b1, x1, rfl, _⟩ := qdm h2;clear h2;(go_wp2_with fail);go_ret
 exact HR.out
theorem qbkt (t : QY) (htl : t.data.toList = [62, 61]) (a b c : QB) (pr : List QB) (x : Option Addr) (n m : Nat) (w : QW) (hA : ∀ b, w.heap.size ≤ b → A b) (ht : Txt w (.slice x n m) pr) (hc : CapA A (.slice x n m)) (l1 : a.length ≤ 1024) (l2 : b.length ≤ 1024) (l3 : c.length ≤ 1024) :
  Calls prog 98 #[.string t, .agg #[.string (qg a), .string (qg b), .string (qg c), .slice x n m, .int .i64 0]] w (qbd A w []) := by
 obtain ⟨g0, g61, g62, g62_61, g60, g60_61, g126⟩ := gq3 t htl
 have HA := qb hA;have T0 := qb ht;have C0 := qb hc;clear htl hA ht hc;obtain ⟨b0, n0⟩ := qbx98 a b c x n m 0 w;clear n0;go_enter Tryz.func98, Tryz.ntmps98
 (go_wp2_with fail);go_ret
 exact ⟨b0.out, _, [], rfl, World.ownsRow_nil _ _ _ _, rfl⟩
theorem qblx (t : QY) (htl : t.data.toList = [62, 61]) (a b c : QB) (pr : List QB) (x : Option Addr) (n m : Nat) (w : QW) (hA : ∀ b, w.heap.size ≤ b → A b) (ht : Txt w (.slice x n m) pr) (hc : CapA A (.slice x n m)) (l1 : a.length ≤ 1024) (l2 : b.length ≤ 1024) (l3 : c.length ≤ 1024) :
  Calls prog 98 #[.string t, .agg #[.string (qg a), .string (qg b), .string (qg c), .slice x n m, .int .i64 1]] w (qbd A w [(4, (⟨zN a, zN b, zN c, pr, []⟩ : SemL))]) := by
 obtain ⟨g0, g61, g62, g62_61, g60, g60_61, g126⟩ := gq3 t htl
 have HA := qb hA;have T0 := qb ht;have C0 := qb hc;clear htl hA ht hc;obtain ⟨b0, n0⟩ := qbx98 a b c x n m 1 w;go_enter Tryz.func98, Tryz.ntmps98
 (go_wp2_with fail);generalize w.alloc _ = W0 at *;have hl0 := qb (qcgg.1 n0).1;have N0 := qb n0;clear n0;refine (qdx a b c x n m 1 W0).mono ?_;rintro e w1 ⟨rfl, h1⟩;have B1 := qb (b0.out.trans (h1.mono b0.out.size));clear h1;(go_wp2_with fail);refine (qdc (A := A) 4 _ (⟨zN a, zN b, zN c, pr, []⟩ : SemL) w1 ⟨_, _, rfl, T0.out.below B1.out, qt _, C0.out, capZ (qt w)⟩).mono ?_;rintro e w2 h2;have HR := qb ((h2.toR (by simp)).back B1.out)
 obtain ⟨b1, x1, rfl, _⟩ := qdm h2;clear h2;(go_wp2_with fail);go_ret
 exact HR.out
theorem qbmw (t : QY) (htl : t.data.toList = [62, 61]) (a b c : QB) (pr : List QB) (x : Option Addr) (n m : Nat) (w : QW) (hA : ∀ b, w.heap.size ≤ b → A b) (ht : Txt w (.slice x n m) pr) (hc : CapA A (.slice x n m)) (l1 : a.length ≤ 1024) (l2 : b.length ≤ 1024) (l3 : c.length ≤ 1024) :
  Calls prog 98 #[.string t, .agg #[.string (qg a), .string (qg b), .string (qg c), .slice x n m, .int .i64 2]] w (qbd A w [(4, (⟨zN a, zN b, zN c, pr, []⟩ : SemL))]) := by
 obtain ⟨g0, g61, g62, g62_61, g60, g60_61, g126⟩ := gq3 t htl
 have HA := qb hA;have T0 := qb ht;have C0 := qb hc;clear htl hA ht hc;obtain ⟨b0, n0⟩ := qbx98 a b c x n m 2 w;go_enter Tryz.func98, Tryz.ntmps98
 (go_wp2_with fail);generalize w.alloc _ = W0 at *;have hl0 := qb (qcgg.1 n0).1;have N0 := qb n0;clear n0;refine (qdx a b c x n m 2 W0).mono ?_;rintro e w1 ⟨rfl, h1⟩;have B1 := qb (b0.out.trans (h1.mono b0.out.size));clear h1;(go_wp2_with fail);refine (qdc (A := A) 4 _ (⟨zN a, zN b, zN c, pr, []⟩ : SemL) w1 ⟨_, _, rfl, T0.out.below B1.out, qt _, C0.out, capZ (qt w)⟩).mono ?_;rintro e w2 h2;have HR := qb ((h2.toR (by simp)).back B1.out)
 obtain ⟨b1, x1, rfl, _⟩ := qdm h2;clear h2;(go_wp2_with fail);go_ret
 exact HR.out
theorem qblv (t : QY) (htl : t.data.toList = [62, 61]) (a b c : QB) (pr : List QB) (x : Option Addr) (n m : Nat) (w : QW) (hA : ∀ b, w.heap.size ≤ b → A b) (ht : Txt w (.slice x n m) pr) (hc : CapA A (.slice x n m)) (l1 : a.length ≤ 1024) (l2 : b.length ≤ 1024) (l3 : c.length ≤ 1024) :
  Calls prog 98 #[.string t, .agg #[.string (qg a), .string (qg b), .string (qg c), .slice x n m, .int .i64 3]] w (qbd A w [(4, (⟨zN a, zN b, zN c, pr, []⟩ : SemL))]) := by
 obtain ⟨g0, g61, g62, g62_61, g60, g60_61, g126⟩ := gq3 t htl
 have HA := qb hA;have T0 := qb ht;have C0 := qb hc;clear htl hA ht hc;obtain ⟨b0, n0⟩ := qbx98 a b c x n m 3 w;go_enter Tryz.func98, Tryz.ntmps98
 (go_wp2_with fail);generalize w.alloc _ = W0 at *;have hl0 := qb (qcgg.1 n0).1;have N0 := qb n0;clear n0;refine (qdx a b c x n m 3 W0).mono ?_;rintro e w1 ⟨rfl, h1⟩;have B1 := qb (b0.out.trans (h1.mono b0.out.size));clear h1;(go_wp2_with fail);refine (qdc (A := A) 4 _ (⟨zN a, zN b, zN c, pr, []⟩ : SemL) w1 ⟨_, _, rfl, T0.out.below B1.out, qt _, C0.out, capZ (qt w)⟩).mono ?_;rintro e w2 h2;have HR := qb ((h2.toR (by simp)).back B1.out)
 obtain ⟨b1, x1, rfl, _⟩ := qdm h2;clear h2;(go_wp2_with fail);go_ret
 exact HR.out
end Go.Proofs.YtpdlgiioahjhiaaGreat
