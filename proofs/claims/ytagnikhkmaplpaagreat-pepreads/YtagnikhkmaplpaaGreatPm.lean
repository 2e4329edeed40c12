/-
  Walks: a version's stages.
-/
import Derived.Test.YtagnikhkmaplpaaGreatPl
namespace Go.Proofs.YtagnikhkmaplpaaGreat
open Go.RowKit Go.Shelf
set_option linter.unusedVariables false

/-- A version's stages. -/
def stg1 (c : Int) (n : ByteArray) (b d : Bool) : Int × ByteArray := if c = 0 then (if d && !b then (0, ⟨#[]⟩) else (255, ⟨#[]⟩)) else (c, n)
def stg2 (b : Bool) (m : ByteArray) : Int × ByteArray := if b then (1, m) else (0, ⟨#[]⟩)
def stg3 (d : Bool) (k : ByteArray) : Int × ByteArray := if d then (1, k) else (255, ⟨#[]⟩)
theorem new_at {W : World} {o : Obj} {B : Nat} (h : W.heap.size = B) : (W.alloc o).heap[B]? = some o := h ▸ World.alloc_heap_new W o
/-- Three stages in a block. -/
def StgAt (W : World) (B : Nat) (x y z : Int × ByteArray) : Prop := W.heap[B]? = some (.cells #[.int .u8 x.1, .string x.2, .int .u8 y.1, .string y.2, .int .u8 z.1, .string z.2] 85 (0, 0))

set_option maxRecDepth 100000 in
set_option maxHeartbeats 4000000 in
theorem stages_any (e : ByteArray) (vr : Value) (c : Int) (n : ByteArray) (b : Bool) (m : ByteArray) (d : Bool) (k : ByteArray) (vl : Value) (op : ∃ a i c, vr = .slice a i c) (ob : ∃ a i c, vl = .slice a i c) (w : World) :
    Calls Tryz.prog 72 #[pepV e vr c n b m d k vl] w fun r w' => ∃ B, r = .returned (.slice (some ⟨B, 0, none⟩) 3 3) ∧ w.heap.size ≤ B ∧ StgAt w' B (stg1 c n b d) (stg2 b m) (stg3 d k) ∧ Below w.heap.size w w' := by
  obtain ⟨a1, i1, c1, rfl⟩ := op
  obtain ⟨a2, i2, c2, rfl⟩ := ob
  unfold pepV
  by_cases hc : c = 0
  · have hcb : (c != 0) = false := by simp [hc]
    have HC := hide hc
    clear hc
    cases b <;> cases d
    · have X1 : Hid (stg1 c n false false = (255, ⟨#[]⟩)) := by show _ = _; unfold stg1; rw [if_pos HC.out]; rfl
      have X2 : Hid (stg2 false m = (0, ⟨#[]⟩)) := rfl
      have X3 : Hid (stg3 false k = (255, ⟨#[]⟩)) := rfl
      go_enter Tryz.func72, Tryz.ntmps72
      go_wp2_with fail
      go_ret
      rw [X1.out, X2.out, X3.out]
      refine ⟨w.heap.size + 1 + 1 + 1 + 1, rfl, by omega, new_at (by simp), ?_⟩
      · exact (((((Below.refl w.heap.size w).alloc (Nat.le_refl _) _).alloc (by simp) _).alloc (by simp; omega) _).alloc (by simp; omega) _).alloc (by simp; omega) _
    · have X1 : Hid (stg1 c n false true = (0, ⟨#[]⟩)) := by show _ = _; unfold stg1; rw [if_pos HC.out]; rfl
      have X2 : Hid (stg2 false m = (0, ⟨#[]⟩)) := rfl
      have X3 : Hid (stg3 true k = (1, k)) := rfl
      go_enter Tryz.func72, Tryz.ntmps72
      go_wp2_with fail
      go_ret
      rw [X1.out, X2.out, X3.out]
      refine ⟨w.heap.size + 1 + 1 + 1 + 1, rfl, by omega, new_at (by simp), ?_⟩
      · exact (((((Below.refl w.heap.size w).alloc (Nat.le_refl _) _).alloc (by simp) _).alloc (by simp; omega) _).alloc (by simp; omega) _).alloc (by simp; omega) _
    · have X1 : Hid (stg1 c n true false = (255, ⟨#[]⟩)) := by show _ = _; unfold stg1; rw [if_pos HC.out]; rfl
      have X2 : Hid (stg2 true m = (1, m)) := rfl
      have X3 : Hid (stg3 false k = (255, ⟨#[]⟩)) := rfl
      go_enter Tryz.func72, Tryz.ntmps72
      go_wp2_with fail
      go_ret
      rw [X1.out, X2.out, X3.out]
      refine ⟨w.heap.size + 1 + 1 + 1 + 1, rfl, by omega, new_at (by simp), ?_⟩
      · exact (((((Below.refl w.heap.size w).alloc (Nat.le_refl _) _).alloc (by simp) _).alloc (by simp; omega) _).alloc (by simp; omega) _).alloc (by simp; omega) _
    · have X1 : Hid (stg1 c n true true = (255, ⟨#[]⟩)) := by show _ = _; unfold stg1; rw [if_pos HC.out]; rfl
      have X2 : Hid (stg2 true m = (1, m)) := rfl
      have X3 : Hid (stg3 true k = (1, k)) := rfl
      go_enter Tryz.func72, Tryz.ntmps72
      go_wp2_with fail
      go_ret
      rw [X1.out, X2.out, X3.out]
      refine ⟨w.heap.size + 1 + 1 + 1 + 1, rfl, by omega, new_at (by simp), ?_⟩
      · exact (((((Below.refl w.heap.size w).alloc (Nat.le_refl _) _).alloc (by simp) _).alloc (by simp; omega) _).alloc (by simp; omega) _).alloc (by simp; omega) _
  · have hcb : (c != 0) = true := by simpa using hc
    have HC := hide hc
    clear hc
    cases b <;> cases d
    · have X1 : Hid (stg1 c n false false = (c, n)) := by show _ = _; unfold stg1; rw [if_neg HC.out]
      have X2 : Hid (stg2 false m = (0, ⟨#[]⟩)) := rfl
      have X3 : Hid (stg3 false k = (255, ⟨#[]⟩)) := rfl
      go_enter Tryz.func72, Tryz.ntmps72
      go_wp2_with fail
      go_ret
      rw [X1.out, X2.out, X3.out]
      refine ⟨w.heap.size + 1 + 1 + 1 + 1, rfl, by omega, new_at (by simp), ?_⟩
      · exact (((((Below.refl w.heap.size w).alloc (Nat.le_refl _) _).alloc (by simp) _).alloc (by simp; omega) _).alloc (by simp; omega) _).alloc (by simp; omega) _
    · have X1 : Hid (stg1 c n false true = (c, n)) := by show _ = _; unfold stg1; rw [if_neg HC.out]
      have X2 : Hid (stg2 false m = (0, ⟨#[]⟩)) := rfl
      have X3 : Hid (stg3 true k = (1, k)) := rfl
      go_enter Tryz.func72, Tryz.ntmps72
      go_wp2_with fail
      go_ret
      rw [X1.out, X2.out, X3.out]
      refine ⟨w.heap.size + 1 + 1 + 1 + 1, rfl, by omega, new_at (by simp), ?_⟩
      · exact (((((Below.refl w.heap.size w).alloc (Nat.le_refl _) _).alloc (by simp) _).alloc (by simp; omega) _).alloc (by simp; omega) _).alloc (by simp; omega) _
    · have X1 : Hid (stg1 c n true false = (c, n)) := by show _ = _; unfold stg1; rw [if_neg HC.out]
      have X2 : Hid (stg2 true m = (1, m)) := rfl
      have X3 : Hid (stg3 false k = (255, ⟨#[]⟩)) := rfl
      go_enter Tryz.func72, Tryz.ntmps72
      go_wp2_with fail
      go_ret
      rw [X1.out, X2.out, X3.out]
      refine ⟨w.heap.size + 1 + 1 + 1 + 1, rfl, by omega, new_at (by simp), ?_⟩
      · exact (((((Below.refl w.heap.size w).alloc (Nat.le_refl _) _).alloc (by simp) _).alloc (by simp; omega) _).alloc (by simp; omega) _).alloc (by simp; omega) _
    · have X1 : Hid (stg1 c n true true = (c, n)) := by show _ = _; unfold stg1; rw [if_neg HC.out]
      have X2 : Hid (stg2 true m = (1, m)) := rfl
      have X3 : Hid (stg3 true k = (1, k)) := rfl
      go_enter Tryz.func72, Tryz.ntmps72
      go_wp2_with fail
      go_ret
      rw [X1.out, X2.out, X3.out]
      refine ⟨w.heap.size + 1 + 1 + 1 + 1, rfl, by omega, new_at (by simp), ?_⟩
      · exact (((((Below.refl w.heap.size w).alloc (Nat.le_refl _) _).alloc (by simp) _).alloc (by simp; omega) _).alloc (by simp; omega) _).alloc (by simp; omega) _

end Go.Proofs.YtagnikhkmaplpaaGreat
