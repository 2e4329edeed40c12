/-
  Walks: orders of stages. · Walks: a version's stages. · Walks: rows of stages. · Walks: the order of rows of stages. · Plain laws of orders: PEP 440's order of versions and of texts is one; no program is named here.
-/
import Derived.StillTailTactics
import Derived.Deep.QuietTactic
import Derived.BigQuiet
import Derived.Test.YtabmfdedbpmfmaaGreatBPk
namespace Go.Proofs.YtabmfdedbpmfmaaGreat
open Go.RowKit Go.Shelf
set_option linter.unusedVariables false

theorem orI_drop (xs : List Int) (k : Nat) (h : k < xs.length) : orI (xs.drop k) = if xs[k] = 0 then orI (xs.drop (k + 1)) else xs[k] := by
  rw [List.drop_eq_getElem_cons h]
  rfl
theorem orI_end (xs : List Int) (k : Nat) (h : xs.length ≤ k) : orI (xs.drop k) = 0 := by
  rw [List.drop_eq_nil_of_le h]
  rfl

set_option maxHeartbeats 400000 in
theorem Or_any (B : Nat) (xs : List Int) (n : Nat) (hn : xs.length = n) (w : World) (h : ∀ i (h : i < xs.length), w.cell? ⟨B, i, none⟩ = some (.int .i64 xs[i])) (hl : n ≤ 64) :
    Calls Tryz.prog 105 #[.slice (some ⟨B, 0, none⟩) n n] w fun e w' => e = .returned (.int .i64 (orI xs)) ∧ w' = w := by
  have HC := hide h
  have HN := hide hn
  clear h hn
  go_enter Tryz.func105, Tryz.ntmps105
  go_wp2_with fail
  go_loop [8] (fun i => ∃ k : Nat, k ≤ n ∧ i = .int .i64 k ∧ Hid (orI xs = orI (xs.drop k))) (fun i => n - (intOf i).toNat)
  case atStart => exact ⟨0, by omega, rfl, rfl⟩
  case round =>
    obtain ⟨k, hk, rfl, HR⟩ := hrel
    by_cases h1 : k < n
    · have hd1 : decide ((k : Int) < (n : Int)) = true := by simp; omega
      have hk' : k < xs.length := by rw [HN.out]; exact h1
      have p1 := HC.out k hk'
      have hX := orI_drop xs k hk'
      generalize xs[k] = O at *
      by_cases h0 : O = 0
      · subst h0
        rw [if_pos rfl] at hX
        have HX := hide hX
        clear hX hk'
        go_wp2_with fail
        go_round
        case rel => exact ⟨k + 1, by omega, by go_num, by show _ = _; rw [HR.out, HX.out]⟩
        case measure => simp [intOf]; omega
      · rw [if_neg h0] at hX
        have hb0 : (O != 0) = true := by simpa using h0
        have HX := hide hX
        clear hX h0 hk'
        go_wp2_with fail
        go_ret
        exact ⟨ret_i (by rw [HR.out, HX.out]), rfl⟩
    · have hd1 : decide ((k : Int) < (n : Int)) = false := by simp; omega
      have hd3 : ¬ ((k : Int) < (n : Int)) := by omega
      have HX := hide (orI_end xs k (by rw [HN.out]; omega))
      go_wp2_with fail
      go_ret
      exact ⟨ret_i (by rw [HR.out, HX.out]), rfl⟩

def cmpI (a b : Int) : Int := if a < b then -1 else if b < a then 1 else 0
theorem isNaN_any (a : Int) (w : World) : Calls Tryz.prog 148 #[.int .u8 a] w fun e w' => e = .returned (.bool false) ∧ w' = w := by
  go_enter Tryz.func148, Tryz.ntmps148
  go_wp2_with fail
  go_ret
  exact ⟨by simp, rfl⟩
theorem cmpB_any (a b : Int) (w : World) : Calls Tryz.prog 132 #[.int .u8 a, .int .u8 b] w fun e w' => e = .returned (.int .i64 (cmpI a b)) ∧ w' = w := by
  by_cases h1 : a < b
  · have HO : Hid (cmpI a b = -1) := by show _ = _; unfold cmpI; rw [if_pos h1]
    have hd : decide (a < b) = true := by simp; omega
    go_enter Tryz.func132, Tryz.ntmps132
    go_wp2_with fail
    refine (isNaN_any _ _).mono ?_
    rintro e w' ⟨rfl, rfl⟩
    go_wp2_with fail
    refine (isNaN_any _ _).mono ?_
    rintro e w' ⟨rfl, rfl⟩
    go_wp2_with fail
    go_ret
    exact ⟨ret_i HO.out.symm, rfl⟩
  · by_cases h2 : b < a
    · have HO : Hid (cmpI a b = 1) := by show _ = _; unfold cmpI; rw [if_neg h1, if_pos h2]
      have hd : decide (a < b) = false := by simp; omega
      have hd2 : decide (b < a) = true := by simp; omega
      go_enter Tryz.func132, Tryz.ntmps132
      go_wp2_with fail
      refine (isNaN_any _ _).mono ?_
      rintro e w' ⟨rfl, rfl⟩
      go_wp2_with fail
      refine (isNaN_any _ _).mono ?_
      rintro e w' ⟨rfl, rfl⟩
      go_wp2_with fail
      go_ret
      exact ⟨ret_i HO.out.symm, rfl⟩
    · have HO : Hid (cmpI a b = 0) := by show _ = _; unfold cmpI; rw [if_neg h1, if_neg h2]
      have hd : decide (a < b) = false := by simp; omega
      have hd2 : decide (b < a) = false := by simp; omega
      go_enter Tryz.func132, Tryz.ntmps132
      go_wp2_with fail
      refine (isNaN_any _ _).mono ?_
      rintro e w' ⟨rfl, rfl⟩
      go_wp2_with fail
      refine (isNaN_any _ _).mono ?_
      rintro e w' ⟨rfl, rfl⟩
      go_wp2_with fail
      go_ret
      exact ⟨ret_i HO.out.symm, rfl⟩

def stgO (x y : Int × List UInt8) : Int := orI [cmpI x.1 y.1, cmpD x.2 y.2]
set_option maxRecDepth 100000 in
set_option maxHeartbeats 1000000 in
theorem orderStage_any (a b : Int) (m n : ByteArray) (w : World) (hm : m.size ≤ 9223372036854775806) (hn : n.size ≤ 9223372036854775806) :
    Calls Tryz.prog 110 #[.agg #[.int .u8 a, .string m], .agg #[.int .u8 b, .string n]] w fun e w' => e = .returned (.int .i64 (stgO (a, m.data.toList) (b, n.data.toList))) ∧ Below w.heap.size w w' := by
  have C1 := hide (fun w => cmpB_any a b w)
  have C2 := hide (fun w => Cmp_any m n w hm hn)
  have HO : Hid (stgO (a, m.data.toList) (b, n.data.toList) = orI [cmpI a b, cmpD m.data.toList n.data.toList]) := rfl
  generalize stgO (a, m.data.toList) (b, n.data.toList) = O at *
  generalize cmpI a b = o1 at *
  generalize cmpD m.data.toList n.data.toList = o2 at *
  go_enter Tryz.func110, Tryz.ntmps110
  go_wp2_with fail
  refine wp_region_still_tail 10 (by kernel_rfl) (by kernel_rfl) ?_
  change wpStill _ _ (World.drew _) _ _ _
  simp only [List.take_succ_cons, List.take_zero, List.drop_succ_cons, List.drop_zero]
  still_step
  still_step
  still_step
  still_step
  still_call (C1.out _)
  still_step
  still_step
  still_step
  still_step
  still_call (C2.out _)
  refine wpStill_nil ?_
  go_wp2_with fail
  refine (Or_any _ [o1, o2] 2 rfl _ (by
    intro i hi
    match i, hi with
    | 0, _ => go_simp
    | 1, _ => go_simp) (by omega)).mono ?_
  rintro e w' ⟨rfl, rfl⟩
  go_wp2_with fail
  go_ret
  exact ⟨ret_i HO.out.symm, ((((Below.refl _ w).alloc (Nat.le_refl _) _).alloc (by simp) _).alloc (by simp; omega) _).drew⟩

end Go.Proofs.YtabmfdedbpmfmaaGreat

namespace Go.Proofs.YtabmfdedbpmfmaaGreat
open Go.RowKit Go.Shelf
set_option linter.unusedVariables false

def stg1 (c : Int) (n : ByteArray) (b d : Bool) : Int × ByteArray := if c = 0 then (if d && !b then (0, ⟨#[]⟩) else (255, ⟨#[]⟩)) else (c, n)
def stg2 (b : Bool) (m : ByteArray) : Int × ByteArray := if b then (1, m) else (0, ⟨#[]⟩)
def stg3 (d : Bool) (k : ByteArray) : Int × ByteArray := if d then (1, k) else (255, ⟨#[]⟩)
theorem new_at {W : World} {o : Obj} {B : Nat} (h : W.heap.size = B) : (W.alloc o).heap[B]? = some o := h ▸ World.alloc_heap_new W o
def StgAt (W : World) (B : Nat) (x y z : Int × ByteArray) : Prop := W.heap[B]? = some (.cells #[.int .u8 x.1, .string x.2, .int .u8 y.1, .string y.2, .int .u8 z.1, .string z.2] 135 (0, 0))

set_option maxRecDepth 100000 in
set_option maxHeartbeats 4000000 in
theorem stages_any (e : ByteArray) (vr : Value) (c : Int) (n : ByteArray) (b : Bool) (m : ByteArray) (d : Bool) (k : ByteArray) (vl : Value) (op : ∃ a i c, vr = .slice a i c) (ob : ∃ a i c, vl = .slice a i c) (w : World) :
    Calls Tryz.prog 109 #[pepV e vr c n b m d k vl] w fun r w' => ∃ B, r = .returned (.slice (some ⟨B, 0, none⟩) 3 3) ∧ w.heap.size ≤ B ∧ StgAt w' B (stg1 c n b d) (stg2 b m) (stg3 d k) ∧ Below w.heap.size w w' := by
  obtain ⟨a1, i1, c1, rfl⟩ := op
  obtain ⟨a2, i2, c2, rfl⟩ := ob
  unfold pepV
  by_cases hc : c = 0
  · have hcb : (c != 0) = false := by simp [hc]
    have HC := hide hc
    clear hc
    cases b <;> cases d
    · have X1 : Hid (stg1 c n false false = (255, ⟨#[]⟩)) := by show _ = _; unfold stg1; rw [if_pos HC.out]; rfl
      have X2 : Hid (stg2 false m = (0, ⟨#[]⟩)) := rfl
      have X3 : Hid (stg3 false k = (255, ⟨#[]⟩)) := rfl
      go_enter Tryz.func109, Tryz.ntmps109
      go_wp2_with fail
      go_ret
      rw [X1.out, X2.out, X3.out]
      refine ⟨w.heap.size + 1 + 1 + 1 + 1, rfl, by omega, new_at (by simp), ?_⟩
      · exact (((((Below.refl w.heap.size w).alloc (Nat.le_refl _) _).alloc (by simp) _).alloc (by simp; omega) _).alloc (by simp; omega) _).alloc (by simp; omega) _
    · have X1 : Hid (stg1 c n false true = (0, ⟨#[]⟩)) := by show _ = _; unfold stg1; rw [if_pos HC.out]; rfl
      have X2 : Hid (stg2 false m = (0, ⟨#[]⟩)) := rfl
      have X3 : Hid (stg3 true k = (1, k)) := rfl
      go_enter Tryz.func109, Tryz.ntmps109
      go_wp2_with fail
      go_ret
      rw [X1.out, X2.out, X3.out]
      refine ⟨w.heap.size + 1 + 1 + 1 + 1, rfl, by omega, new_at (by simp), ?_⟩
      · exact (((((Below.refl w.heap.size w).alloc (Nat.le_refl _) _).alloc (by simp) _).alloc (by simp; omega) _).alloc (by simp; omega) _).alloc (by simp; omega) _
    · have X1 : Hid (stg1 c n true false = (255, ⟨#[]⟩)) := by show _ = _; unfold stg1; rw [if_pos HC.out]; rfl
      have X2 : Hid (stg2 true m = (1, m)) := rfl
      have X3 : Hid (stg3 false k = (255, ⟨#[]⟩)) := rfl
      go_enter Tryz.func109, Tryz.ntmps109
      go_wp2_with fail
      go_ret
      rw [X1.out, X2.out, X3.out]
      refine ⟨w.heap.size + 1 + 1 + 1 + 1, rfl, by omega, new_at (by simp), ?_⟩
      · exact (((((Below.refl w.heap.size w).alloc (Nat.le_refl _) _).alloc (by simp) _).alloc (by simp; omega) _).alloc (by simp; omega) _).alloc (by simp; omega) _
    · have X1 : Hid (stg1 c n true true = (255, ⟨#[]⟩)) := by show _ = _; unfold stg1; rw [if_pos HC.out]; rfl
      have X2 : Hid (stg2 true m = (1, m)) := rfl
      have X3 : Hid (stg3 true k = (1, k)) := rfl
      go_enter Tryz.func109, Tryz.ntmps109
      go_wp2_with fail
      go_ret
      rw [X1.out, X2.out, X3.out]
      refine ⟨w.heap.size + 1 + 1 + 1 + 1, rfl, by omega, new_at (by simp), ?_⟩
      · exact (((((Below.refl w.heap.size w).alloc (Nat.le_refl _) _).alloc (by simp) _).alloc (by simp; omega) _).alloc (by simp; omega) _).alloc (by simp; omega) _
  · have hcb : (c != 0) = true := by simpa using hc
    have HC := hide hc
    clear hc
    cases b <;> cases d
    · have X1 : Hid (stg1 c n false false = (c, n)) := by show _ = _; unfold stg1; rw [if_neg HC.out]
      have X2 : Hid (stg2 false m = (0, ⟨#[]⟩)) := rfl
      have X3 : Hid (stg3 false k = (255, ⟨#[]⟩)) := rfl
      go_enter Tryz.func109, Tryz.ntmps109
      go_wp2_with fail
      go_ret
      rw [X1.out, X2.out, X3.out]
      refine ⟨w.heap.size + 1 + 1 + 1 + 1, rfl, by omega, new_at (by simp), ?_⟩
      · exact (((((Below.refl w.heap.size w).alloc (Nat.le_refl _) _).alloc (by simp) _).alloc (by simp; omega) _).alloc (by simp; omega) _).alloc (by simp; omega) _
    · have X1 : Hid (stg1 c n false true = (c, n)) := by show _ = _; unfold stg1; rw [if_neg HC.out]
      have X2 : Hid (stg2 false m = (0, ⟨#[]⟩)) := rfl
      have X3 : Hid (stg3 true k = (1, k)) := rfl
      go_enter Tryz.func109, Tryz.ntmps109
      go_wp2_with fail
      go_ret
      rw [X1.out, X2.out, X3.out]
      refine ⟨w.heap.size + 1 + 1 + 1 + 1, rfl, by omega, new_at (by simp), ?_⟩
      · exact (((((Below.refl w.heap.size w).alloc (Nat.le_refl _) _).alloc (by simp) _).alloc (by simp; omega) _).alloc (by simp; omega) _).alloc (by simp; omega) _
    · have X1 : Hid (stg1 c n true false = (c, n)) := by show _ = _; unfold stg1; rw [if_neg HC.out]
      have X2 : Hid (stg2 true m = (1, m)) := rfl
      have X3 : Hid (stg3 false k = (255, ⟨#[]⟩)) := rfl
      go_enter Tryz.func109, Tryz.ntmps109
      go_wp2_with fail
      go_ret
      rw [X1.out, X2.out, X3.out]
      refine ⟨w.heap.size + 1 + 1 + 1 + 1, rfl, by omega, new_at (by simp), ?_⟩
      · exact (((((Below.refl w.heap.size w).alloc (Nat.le_refl _) _).alloc (by simp) _).alloc (by simp; omega) _).alloc (by simp; omega) _).alloc (by simp; omega) _
    · have X1 : Hid (stg1 c n true true = (c, n)) := by show _ = _; unfold stg1; rw [if_neg HC.out]
      have X2 : Hid (stg2 true m = (1, m)) := rfl
      have X3 : Hid (stg3 true k = (1, k)) := rfl
      go_enter Tryz.func109, Tryz.ntmps109
      go_wp2_with fail
      go_ret
      rw [X1.out, X2.out, X3.out]
      refine ⟨w.heap.size + 1 + 1 + 1 + 1, rfl, by omega, new_at (by simp), ?_⟩
      · exact (((((Below.refl w.heap.size w).alloc (Nat.le_refl _) _).alloc (by simp) _).alloc (by simp; omega) _).alloc (by simp; omega) _).alloc (by simp; omega) _

end Go.Proofs.YtabmfdedbpmfmaaGreat

namespace Go.Proofs.YtabmfdedbpmfmaaGreat
open Go.RowKit Go.Shelf
set_option linter.unusedVariables false

theorem fin53 {R : Ending → World → Prop} (tmps : Array Value) (W : World) (B : Nat) (x : Int) (y : ByteArray) (h : tmps.getD 6 undef = .pointer (some ⟨B, 0, none⟩)) (e1 : W.heap[B]? = some (.cells #[.int .u8 x, .string y] 135 (0, 0)))
    (hR : R (.returned (.agg #[.int .u8 x, .string y])) W) : bodyPost Tryz.prog Tryz.f131 R .ret { tmps := tmps, defers := [] } W := by
  have s0 := cell_at 0 e1 rfl
  have s1 := cell_at 1 e1 rfl
  rw [Array.getD_eq_getD_getElem?] at h
  refine ⟨rfl, _, ?_, hR⟩
  simp [results, Tryz.results131, go_sem, h, s0, s1]
  try rfl
theorem StgAt.lt {W : World} {B : Nat} {x y z : Int × ByteArray} (h : StgAt W B x y z) : B < W.heap.size := (Array.getElem?_eq_some_iff.1 h).1
theorem StgAt.below {W W' : World} {B : Nat} {x y z : Int × ByteArray} (h : StgAt W B x y z) (hb : Below W.heap.size W W') : StgAt W' B x y z := (hb.block B h.lt).trans h
theorem StgAt.seen {W : World} {B : Nat} {x y z : Int × ByteArray} (k : StgAt W B x y z) :
    W.cell? ⟨B, 0, none⟩ = some (.int .u8 x.1) ∧ W.cell? ⟨B, 1, none⟩ = some (.string x.2) ∧ W.cell? ⟨B, 2, none⟩ = some (.int .u8 y.1) ∧ W.cell? ⟨B, 3, none⟩ = some (.string y.2) ∧ W.cell? ⟨B, 4, none⟩ = some (.int .u8 z.1) ∧ W.cell? ⟨B, 5, none⟩ = some (.string z.2) :=
  ⟨cell_at 0 k rfl, cell_at 1 k rfl, cell_at 2 k rfl, cell_at 3 k rfl, cell_at 4 k rfl, cell_at 5 k rfl⟩

set_option maxRecDepth 100000 in
set_option maxHeartbeats 1000000 in
theorem partS0_any (B : Nat) (x y z : Int × ByteArray) (dc : Int) (dn : ByteArray) (w : World) (h : StgAt w B x y z) :
    Calls Tryz.prog 131 #[.slice (some ⟨B, 0, none⟩) 3 3, .int .i64 0, .agg #[.int .u8 dc, .string dn]] w fun r w' => r = .returned (.agg #[.int .u8 x.1, .string x.2]) ∧ Below w.heap.size w w' := by
  have hB := h.lt
  have q := fun o1 o2 : Obj => ((h.below ((Below.refl _ _).alloc (Nat.le_refl _) o1)).below ((Below.refl _ _).alloc (Nat.le_refl _) o2)).seen
  obtain ⟨x1, x2⟩ := x
  obtain ⟨y1, y2⟩ := y
  obtain ⟨z1, z2⟩ := z
  simp only at q ⊢
  clear h
  go_enter Tryz.func131, Tryz.ntmps131
  go_wp2_with fail
  refine fin53 _ _ (w.heap.size + 1) x1 x2 rfl (new_at (by simp)) ?_
  exact ⟨rfl, ((Below.refl w.heap.size w).alloc (Nat.le_refl _) _).alloc (by simp) _⟩

set_option maxRecDepth 100000 in
set_option maxHeartbeats 1000000 in
theorem partS1_any (B : Nat) (x y z : Int × ByteArray) (dc : Int) (dn : ByteArray) (w : World) (h : StgAt w B x y z) :
    Calls Tryz.prog 131 #[.slice (some ⟨B, 0, none⟩) 3 3, .int .i64 1, .agg #[.int .u8 dc, .string dn]] w fun r w' => r = .returned (.agg #[.int .u8 y.1, .string y.2]) ∧ Below w.heap.size w w' := by
  have hB := h.lt
  have q := fun o1 o2 : Obj => ((h.below ((Below.refl _ _).alloc (Nat.le_refl _) o1)).below ((Below.refl _ _).alloc (Nat.le_refl _) o2)).seen
  obtain ⟨x1, x2⟩ := x
  obtain ⟨y1, y2⟩ := y
  obtain ⟨z1, z2⟩ := z
  simp only at q ⊢
  clear h
  go_enter Tryz.func131, Tryz.ntmps131
  go_wp2_with fail
  refine fin53 _ _ (w.heap.size + 1) y1 y2 rfl (new_at (by simp)) ?_
  exact ⟨rfl, ((Below.refl w.heap.size w).alloc (Nat.le_refl _) _).alloc (by simp) _⟩

set_option maxRecDepth 100000 in
set_option maxHeartbeats 1000000 in
theorem partS2_any (B : Nat) (x y z : Int × ByteArray) (dc : Int) (dn : ByteArray) (w : World) (h : StgAt w B x y z) :
    Calls Tryz.prog 131 #[.slice (some ⟨B, 0, none⟩) 3 3, .int .i64 2, .agg #[.int .u8 dc, .string dn]] w fun r w' => r = .returned (.agg #[.int .u8 z.1, .string z.2]) ∧ Below w.heap.size w w' := by
  have hB := h.lt
  have q := fun o1 o2 : Obj => ((h.below ((Below.refl _ _).alloc (Nat.le_refl _) o1)).below ((Below.refl _ _).alloc (Nat.le_refl _) o2)).seen
  obtain ⟨x1, x2⟩ := x
  obtain ⟨y1, y2⟩ := y
  obtain ⟨z1, z2⟩ := z
  simp only at q ⊢
  clear h
  go_enter Tryz.func131, Tryz.ntmps131
  go_wp2_with fail
  refine fin53 _ _ (w.heap.size + 1) z1 z2 rfl (new_at (by simp)) ?_
  exact ⟨rfl, ((Below.refl w.heap.size w).alloc (Nat.le_refl _) _).alloc (by simp) _⟩

end Go.Proofs.YtabmfdedbpmfmaaGreat

namespace Go.Proofs.YtabmfdedbpmfmaaGreat
open Go.RowKit Go.Shelf
set_option linter.unusedVariables false

structure ST (w : World) (B C : Nat) (x y z x' y' z' : Int × ByteArray) (dc : Int) (dn : ByteArray) (W : World) : Prop where
  below : Below w.heap.size w W
  a : StgAt W B x y z
  b : StgAt W C x' y' z'
  box : W.heap[w.heap.size]? = some (.cells #[.int .u8 dc, .string dn] 135 (0, 0))
theorem ST.go {w : World} {B C : Nat} {x y z x' y' z' : Int × ByteArray} {dc : Int} {dn : ByteArray} {W W' : World} (h : ST w B C x y z x' y' z' dc dn W) (hb : Below W.heap.size W W') : ST w B C x y z x' y' z' dc dn W' :=
  ⟨h.below.trans (hb.mono h.below.size), h.a.below hb, h.b.below hb, (hb.block _ (Array.getElem?_eq_some_iff.1 h.box).1).trans h.box⟩
theorem ST.seen {w : World} {B C : Nat} {x y z x' y' z' : Int × ByteArray} {dc : Int} {dn : ByteArray} {W : World} (h : ST w B C x y z x' y' z' dc dn W) : W.cell? ⟨w.heap.size, 0, none⟩ = some (.int .u8 dc) ∧ W.cell? ⟨w.heap.size, 1, none⟩ = some (.string dn) :=
  ⟨cell_at 0 h.box rfl, cell_at 1 h.box rfl⟩
theorem ST.drew {w : World} {B C : Nat} {x y z x' y' z' : Int × ByteArray} {dc : Int} {dn : ByteArray} {W : World} (h : ST w B C x y z x' y' z' dc dn W) : ST w B C x y z x' y' z' dc dn W.drew := h.go (Below.refl _ _).drew
def stsO (x y z x' y' z' : Int × ByteArray) : Int := orI [stgO (x.1, x.2.data.toList) (x'.1, x'.2.data.toList), stgO (y.1, y.2.data.toList) (y'.1, y'.2.data.toList), stgO (z.1, z.2.data.toList) (z'.1, z'.2.data.toList)]

set_option maxRecDepth 100000 in
set_option maxHeartbeats 4000000 in
theorem orderParts_stg (B C : Nat) (x y z x' y' z' : Int × ByteArray) (dc : Int) (dn : ByteArray) (w : World) (ha : StgAt w B x y z) (hb : StgAt w C x' y' z')
    (s1 : x.2.size ≤ 9223372036854775806) (s2 : y.2.size ≤ 9223372036854775806) (s3 : z.2.size ≤ 9223372036854775806) (t1 : x'.2.size ≤ 9223372036854775806) (t2 : y'.2.size ≤ 9223372036854775806) (t3 : z'.2.size ≤ 9223372036854775806) :
    Calls Tryz.prog 108 #[.slice (some ⟨B, 0, none⟩) 3 3, .slice (some ⟨C, 0, none⟩) 3 3, .agg #[.int .u8 dc, .string dn], .func (.func 110) #[] #[]] w fun r w' => r = .returned (.int .i64 (stsO x y z x' y' z')) ∧ Below w.heap.size w w' := by
  have S0 : ST w B C x y z x' y' z' dc dn (w.alloc (.cells #[.int .u8 dc, .string dn] 135)) := by
    have bb := (Below.refl w.heap.size w).alloc (Nat.le_refl _) (.cells #[.int .u8 dc, .string dn] 135)
    exact ⟨bb, ha.below bb, hb.below bb, World.alloc_heap_new w _⟩
  have K0 := hide (fun W => orderStage_any x.1 x'.1 x.2 x'.2 W s1 t1)
  have K1 := hide (fun W => orderStage_any y.1 y'.1 y.2 y'.2 W s2 t2)
  have K2 := hide (fun W => orderStage_any z.1 z'.1 z.2 z'.2 W s3 t3)
  have HO : Hid (stsO x y z x' y' z' = orI [stgO (x.1, x.2.data.toList) (x'.1, x'.2.data.toList), stgO (y.1, y.2.data.toList) (y'.1, y'.2.data.toList), stgO (z.1, z.2.data.toList) (z'.1, z'.2.data.toList)]) := rfl
  generalize stsO x y z x' y' z' = O at *
  generalize stgO (x.1, x.2.data.toList) (x'.1, x'.2.data.toList) = o0 at *
  generalize stgO (y.1, y.2.data.toList) (y'.1, y'.2.data.toList) = o1 at *
  generalize stgO (z.1, z.2.data.toList) (z'.1, z'.2.data.toList) = o2 at *
  clear ha hb s1 s2 s3 t1 t2 t3
  by_cases c0 : o0 = 0
  · have k0 : (o0 != 0) = false := by simpa using c0
    by_cases c1 : o1 = 0
    · have k1 : (o1 != 0) = false := by simpa using c1
      by_cases c2 : o2 = 0
      · have k2 : (o2 != 0) = false := by simpa using c2
        have HV : Hid (O = 0) := by show _ = _; rw [HO.out]; simp [orI, c0, c1, c2]
        clear c0 c1 c2
        go_enter Tryz.func108, Tryz.ntmps108
        go_wp2_with fail
        refine wp_loop_rounds 4 ?_
        rw [rounds_succ]
        go_wp2_with fail
        generalize w.alloc (.cells #[.int .u8 dc, .string dn] 135) = W0 at *
        have D0 := S0.drew
        obtain ⟨e0, f0⟩ := S0.seen
        go_region_held3 (fun w' => w'.cell? ⟨w.heap.size, 0, none⟩ = some (.int .u8 dc) ∧ w'.cell? ⟨w.heap.size, 1, none⟩ = some (.string dn))
          (go_keep)
          ((first
            | (go_at_call 131; refine (partS0_any C x' y' z' dc dn _ P0.b).mono ?_; rintro e v0 ⟨rfl, b⟩; have Q0 := P0.go b; obtain ⟨m0, n0⟩ := Q0.seen)
            | (go_at_call 131; refine (partS0_any B x y z dc dn _ D0.a).mono ?_; rintro e u0 ⟨rfl, b⟩; have P0 := D0.go b; obtain ⟨g0, h0⟩ := P0.seen)
            | (go_at_call 110; refine (K0.out _).mono ?_; rintro e W1 ⟨rfl, b⟩; have S1 := Q0.go b; obtain ⟨r0, t0⟩ := S1.seen)
            | fail))
        go_wp2_with fail
        rw [rounds_succ]
        go_wp2_with fail
        have D1 := S1.drew
        obtain ⟨e1, f1⟩ := S1.seen
        go_region_held3 (fun w' => w'.cell? ⟨w.heap.size, 0, none⟩ = some (.int .u8 dc) ∧ w'.cell? ⟨w.heap.size, 1, none⟩ = some (.string dn))
          (go_keep)
          ((first
            | (go_at_call 131; refine (partS1_any C x' y' z' dc dn _ P1.b).mono ?_; rintro e v1 ⟨rfl, b⟩; have Q1 := P1.go b; obtain ⟨m1, n1⟩ := Q1.seen)
            | (go_at_call 131; refine (partS1_any B x y z dc dn _ D1.a).mono ?_; rintro e u1 ⟨rfl, b⟩; have P1 := D1.go b; obtain ⟨g1, h1⟩ := P1.seen)
            | (go_at_call 110; refine (K1.out _).mono ?_; rintro e W2 ⟨rfl, b⟩; have S2 := Q1.go b; obtain ⟨r1, t1⟩ := S2.seen)
            | fail))
        go_wp2_with fail
        rw [rounds_succ]
        go_wp2_with fail
        have D2 := S2.drew
        obtain ⟨e2, f2⟩ := S2.seen
        go_region_held3 (fun w' => w'.cell? ⟨w.heap.size, 0, none⟩ = some (.int .u8 dc) ∧ w'.cell? ⟨w.heap.size, 1, none⟩ = some (.string dn))
          (go_keep)
          ((first
            | (go_at_call 131; refine (partS2_any C x' y' z' dc dn _ P2.b).mono ?_; rintro e v2 ⟨rfl, b⟩; have Q2 := P2.go b; obtain ⟨m2, n2⟩ := Q2.seen)
            | (go_at_call 131; refine (partS2_any B x y z dc dn _ D2.a).mono ?_; rintro e u2 ⟨rfl, b⟩; have P2 := D2.go b; obtain ⟨g2, h2⟩ := P2.seen)
            | (go_at_call 110; refine (K2.out _).mono ?_; rintro e W3 ⟨rfl, b⟩; have S3 := Q2.go b; obtain ⟨r2, t2⟩ := S3.seen)
            | fail))
        go_wp2_with fail
        rw [rounds_succ]
        go_wp2_with fail
        go_ret
        exact ⟨ret_i HV.out.symm, S3.below⟩
      · have k2 : (o2 != 0) = true := by simpa using c2
        have HV : Hid (O = o2) := by show _ = _; rw [HO.out]; simp [orI, c0, c1, c2]
        clear c0 c1 c2
        go_enter Tryz.func108, Tryz.ntmps108
        go_wp2_with fail
        refine wp_loop_rounds 4 ?_
        rw [rounds_succ]
        go_wp2_with fail
        generalize w.alloc (.cells #[.int .u8 dc, .string dn] 135) = W0 at *
        have D0 := S0.drew
        obtain ⟨e0, f0⟩ := S0.seen
        go_region_held3 (fun w' => w'.cell? ⟨w.heap.size, 0, none⟩ = some (.int .u8 dc) ∧ w'.cell? ⟨w.heap.size, 1, none⟩ = some (.string dn))
          (go_keep)
          ((first
            | (go_at_call 131; refine (partS0_any C x' y' z' dc dn _ P0.b).mono ?_; rintro e v0 ⟨rfl, b⟩; have Q0 := P0.go b; obtain ⟨m0, n0⟩ := Q0.seen)
            | (go_at_call 131; refine (partS0_any B x y z dc dn _ D0.a).mono ?_; rintro e u0 ⟨rfl, b⟩; have P0 := D0.go b; obtain ⟨g0, h0⟩ := P0.seen)
            | (go_at_call 110; refine (K0.out _).mono ?_; rintro e W1 ⟨rfl, b⟩; have S1 := Q0.go b; obtain ⟨r0, t0⟩ := S1.seen)
            | fail))
        go_wp2_with fail
        rw [rounds_succ]
        go_wp2_with fail
        have D1 := S1.drew
        obtain ⟨e1, f1⟩ := S1.seen
        go_region_held3 (fun w' => w'.cell? ⟨w.heap.size, 0, none⟩ = some (.int .u8 dc) ∧ w'.cell? ⟨w.heap.size, 1, none⟩ = some (.string dn))
          (go_keep)
          ((first
            | (go_at_call 131; refine (partS1_any C x' y' z' dc dn _ P1.b).mono ?_; rintro e v1 ⟨rfl, b⟩; have Q1 := P1.go b; obtain ⟨m1, n1⟩ := Q1.seen)
            | (go_at_call 131; refine (partS1_any B x y z dc dn _ D1.a).mono ?_; rintro e u1 ⟨rfl, b⟩; have P1 := D1.go b; obtain ⟨g1, h1⟩ := P1.seen)
            | (go_at_call 110; refine (K1.out _).mono ?_; rintro e W2 ⟨rfl, b⟩; have S2 := Q1.go b; obtain ⟨r1, t1⟩ := S2.seen)
            | fail))
        go_wp2_with fail
        rw [rounds_succ]
        go_wp2_with fail
        have D2 := S2.drew
        obtain ⟨e2, f2⟩ := S2.seen
        go_region_held3 (fun w' => w'.cell? ⟨w.heap.size, 0, none⟩ = some (.int .u8 dc) ∧ w'.cell? ⟨w.heap.size, 1, none⟩ = some (.string dn))
          (go_keep)
          ((first
            | (go_at_call 131; refine (partS2_any C x' y' z' dc dn _ P2.b).mono ?_; rintro e v2 ⟨rfl, b⟩; have Q2 := P2.go b; obtain ⟨m2, n2⟩ := Q2.seen)
            | (go_at_call 131; refine (partS2_any B x y z dc dn _ D2.a).mono ?_; rintro e u2 ⟨rfl, b⟩; have P2 := D2.go b; obtain ⟨g2, h2⟩ := P2.seen)
            | (go_at_call 110; refine (K2.out _).mono ?_; rintro e W3 ⟨rfl, b⟩; have S3 := Q2.go b; obtain ⟨r2, t2⟩ := S3.seen)
            | fail))
        go_wp2_with fail
        go_ret
        exact ⟨ret_i HV.out.symm, S3.below⟩
    · have k1 : (o1 != 0) = true := by simpa using c1
      have HV : Hid (O = o1) := by show _ = _; rw [HO.out]; simp [orI, c0, c1]
      clear c0 c1
      go_enter Tryz.func108, Tryz.ntmps108
      go_wp2_with fail
      refine wp_loop_rounds 4 ?_
      rw [rounds_succ]
      go_wp2_with fail
      generalize w.alloc (.cells #[.int .u8 dc, .string dn] 135) = W0 at *
      have D0 := S0.drew
      obtain ⟨e0, f0⟩ := S0.seen
      go_region_held3 (fun w' => w'.cell? ⟨w.heap.size, 0, none⟩ = some (.int .u8 dc) ∧ w'.cell? ⟨w.heap.size, 1, none⟩ = some (.string dn))
        (go_keep)
        ((first
          | (go_at_call 131; refine (partS0_any C x' y' z' dc dn _ P0.b).mono ?_; rintro e v0 ⟨rfl, b⟩; have Q0 := P0.go b; obtain ⟨m0, n0⟩ := Q0.seen)
          | (go_at_call 131; refine (partS0_any B x y z dc dn _ D0.a).mono ?_; rintro e u0 ⟨rfl, b⟩; have P0 := D0.go b; obtain ⟨g0, h0⟩ := P0.seen)
          | (go_at_call 110; refine (K0.out _).mono ?_; rintro e W1 ⟨rfl, b⟩; have S1 := Q0.go b; obtain ⟨r0, t0⟩ := S1.seen)
          | fail))
      go_wp2_with fail
      rw [rounds_succ]
      go_wp2_with fail
      have D1 := S1.drew
      obtain ⟨e1, f1⟩ := S1.seen
      go_region_held3 (fun w' => w'.cell? ⟨w.heap.size, 0, none⟩ = some (.int .u8 dc) ∧ w'.cell? ⟨w.heap.size, 1, none⟩ = some (.string dn))
        (go_keep)
        ((first
          | (go_at_call 131; refine (partS1_any C x' y' z' dc dn _ P1.b).mono ?_; rintro e v1 ⟨rfl, b⟩; have Q1 := P1.go b; obtain ⟨m1, n1⟩ := Q1.seen)
          | (go_at_call 131; refine (partS1_any B x y z dc dn _ D1.a).mono ?_; rintro e u1 ⟨rfl, b⟩; have P1 := D1.go b; obtain ⟨g1, h1⟩ := P1.seen)
          | (go_at_call 110; refine (K1.out _).mono ?_; rintro e W2 ⟨rfl, b⟩; have S2 := Q1.go b; obtain ⟨r1, t1⟩ := S2.seen)
          | fail))
      go_wp2_with fail
      go_ret
      exact ⟨ret_i HV.out.symm, S2.below⟩
  · have k0 : (o0 != 0) = true := by simpa using c0
    have HV : Hid (O = o0) := by show _ = _; rw [HO.out]; simp [orI, c0]
    clear c0
    go_enter Tryz.func108, Tryz.ntmps108
    go_wp2_with fail
    refine wp_loop_rounds 4 ?_
    rw [rounds_succ]
    go_wp2_with fail
    generalize w.alloc (.cells #[.int .u8 dc, .string dn] 135) = W0 at *
    have D0 := S0.drew
    obtain ⟨e0, f0⟩ := S0.seen
    go_region_held3 (fun w' => w'.cell? ⟨w.heap.size, 0, none⟩ = some (.int .u8 dc) ∧ w'.cell? ⟨w.heap.size, 1, none⟩ = some (.string dn))
      (go_keep)
      ((first
        | (go_at_call 131; refine (partS0_any C x' y' z' dc dn _ P0.b).mono ?_; rintro e v0 ⟨rfl, b⟩; have Q0 := P0.go b; obtain ⟨m0, n0⟩ := Q0.seen)
        | (go_at_call 131; refine (partS0_any B x y z dc dn _ D0.a).mono ?_; rintro e u0 ⟨rfl, b⟩; have P0 := D0.go b; obtain ⟨g0, h0⟩ := P0.seen)
        | (go_at_call 110; refine (K0.out _).mono ?_; rintro e W1 ⟨rfl, b⟩; have S1 := Q0.go b; obtain ⟨r0, t0⟩ := S1.seen)
        | fail))
    go_wp2_with fail
    go_ret
    exact ⟨ret_i HV.out.symm, S1.below⟩

end Go.Proofs.YtabmfdedbpmfmaaGreat

namespace Go.Proofs.YtabmfdedbpmfmaaGreat
set_option linter.unusedVariables false

namespace Cmp3
variable {α β : Type} {f g : α → α → Int}
end Cmp3

structure PepL where
  ep : List UInt8
  rel : List (List UInt8)
  c : Int
  n : List UInt8
  b : Bool
  m : List UInt8
  d : Bool
  k : List UInt8
  loc : List (List UInt8)

def st1 (x : PepL) : Int × List UInt8 := if x.c = 0 then (if x.d && !x.b then (0, []) else (255, [])) else (x.c, x.n)
def st2 (x : PepL) : Int × List UInt8 := if x.b then (1, x.m) else (0, [])
def st3 (x : PepL) : Int × List UInt8 := if x.d then (1, x.k) else (255, [])
def stL (x y : PepL) : Int := orI [stgO (st1 x) (st1 y), stgO (st2 x) (st2 y), stgO (st3 x) (st3 y)]
def ordP (x y : PepL) : Int := orI [cmpD x.ep y.ep, padO cmpD [48] x.rel y.rel 0, stL x y, padO locO [] x.loc y.loc 0]
def rowL (u : List UInt8) (xs : List (Nat × Nat)) : List (List UInt8) := xs.map fun x => plainL (seg u x.1 x.2)
def pepOf (u : List UInt8) : PepL := ⟨epoT u (vp1 u), rowL u (vrel u), preC u (vp3 u), stN u (vp3 u) preWs, posB u (vp4 u), posN u (vp4 u), (wordL u (vp5 u) devWs).isSome, stN u (vp5 u) devWs, rowL u (vlocs u)⟩
def okP (l : List UInt8) : Bool := decide (l.length ≤ 64) && decide ((verX (lowL l)).1 = 0)
def cmpT (a b : List UInt8) : Int := if okP a then (if okP b then ordP (pepOf (lowL a)) (pepOf (lowL b)) else 1) else if okP b then -1 else 0
end Go.Proofs.YtabmfdedbpmfmaaGreat
