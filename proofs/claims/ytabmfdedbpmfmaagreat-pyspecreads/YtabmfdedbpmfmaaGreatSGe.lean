/-
  Walks: the operators. · Walks: the reader's small parts. · Walks: the operator at a place.
-/
import Derived.Laws.EntriesVeiled
import Derived.Test.YtabmfdedbpmfmaaGreatSGb
import Derived.Lib.Strings
namespace Go.Proofs.YtabmfdedbpmfmaaGreat
open Go.RowKit Go.Shelf
set_option linter.unusedVariables false

def rdF : Nat → Nat
  | 0 => 149
  | 1 => 151
  | 2 => 151
  | 3 => 154
  | 4 => 154
  | 5 => 154
  | 6 => 154
  | 7 => 159
  | _ => 0
def hoF : Nat → Nat
  | 0 => 150
  | 1 => 152
  | 2 => 153
  | 3 => 155
  | 4 => 156
  | 5 => 157
  | 6 => 158
  | 7 => 160
  | _ => 0
def opB (k : Nat) : Bool := k == 0 || k == 1 || k == 3 || k == 4
def fnV (f : Nat) : Value := if f = 0 then .nilFunc else .func (.func f) #[] #[]
def opCells : Array Value := #[.string ⟨#[126, 61]⟩, .func (.func 149) #[] #[], .func (.func 150) #[] #[], .bool true, .string ⟨#[61, 61]⟩, .func (.func 151) #[] #[], .func (.func 152) #[] #[], .bool true, .string ⟨#[33, 61]⟩, .func (.func 151) #[] #[], .func (.func 153) #[] #[], .bool false, .string ⟨#[60, 61]⟩, .func (.func 154) #[] #[], .func (.func 155) #[] #[], .bool true, .string ⟨#[62, 61]⟩, .func (.func 154) #[] #[], .func (.func 156) #[] #[], .bool true, .string ⟨#[60]⟩, .func (.func 154) #[] #[], .func (.func 157) #[] #[], .bool false, .string ⟨#[62]⟩, .func (.func 154) #[] #[], .func (.func 158) #[] #[], .bool false, .string ⟨#[61, 61, 61]⟩, .func (.func 159) #[] #[], .func (.func 160) #[] #[], .bool false]
theorem operators_any (w : World) : Calls Tryz.prog 134 #[] w fun e w' => e = .returned (.slice (some ⟨w.heap.size, 0, none⟩) 8 8) ∧ w' = w.alloc (.cells opCells 57) := by
  go_enter Tryz.func134, Tryz.ntmps134
  go_wp2_with fail
  go_ret
  exact ⟨rfl, rfl⟩
structure OW (w W : World) (k : Nat) : Prop where
  res : W.heap[w.heap.size]? = some (.cells #[.string ⟨#[]⟩, .nilFunc, .nilFunc, .bool false] 57 (0, 0))
  top : W.heap[w.heap.size + 1]? = some (.cells #[.string (ofL (sgn k)), fnV (rdF k), fnV (hoF k), .bool (opB k)] 57 (0, 0))
  row : W.heap[w.heap.size + 2]? = some (.cells opCells 57 (0, 0))
  bel : Below w.heap.size w W
theorem OW.lt {w W : World} {k : Nat} (h : OW w W k) : w.heap.size + 2 < W.heap.size := (Array.getElem?_eq_some_iff.1 h.row).1
theorem OW.below {w W W' : World} {k : Nat} (h : OW w W k) (hb : Below W.heap.size W W') : OW w W' k :=
  ⟨(hb.block _ (by have := h.lt; omega)).trans h.res, (hb.block _ (by have := h.lt; omega)).trans h.top, (hb.block _ h.lt).trans h.row, h.bel.trans (hb.mono (by have := h.lt; omega))⟩
theorem put4 {W : World} {B : Nat} {t : TypeId} {u0 u1 u2 u3 : Value} (v0 v1 v2 v3 : Value) (h : W.heap[B]? = some (.cells #[u0, u1, u2, u3] t (0, 0))) :
    ((((W.setCell ⟨B, 0, none⟩ v0).setCell ⟨B, 1, none⟩ v1).setCell ⟨B, 2, none⟩ v2).setCell ⟨B, 3, none⟩ v3).heap[B]? = some (.cells #[v0, v1, v2, v3] t (0, 0)) := set_lies 3 v3 (set_lies 2 v2 (set_lies 1 v1 (set_lies 0 v0 h)))
theorem below4 {n : Nat} {w W : World} {B : Nat} (v0 v1 v2 v3 : Value) (h : Below n w W) (hB : n ≤ B) : Below n w ((((W.setCell ⟨B, 0, none⟩ v0).setCell ⟨B, 1, none⟩ v1).setCell ⟨B, 2, none⟩ v2).setCell ⟨B, 3, none⟩ v3) :=
  (((h.setCell (p := ⟨B, 0, none⟩) hB _).setCell (p := ⟨B, 1, none⟩) hB _).setCell (p := ⟨B, 2, none⟩) hB _).setCell (p := ⟨B, 3, none⟩) hB _
theorem lies4 {W : World} {B : Nat} {ps : List (Nat × Obj)} (v0 v1 v2 v3 : Value) (h : Lies W ps) (hn : ∀ p ∈ ps, p.1 ≠ B) : Lies ((((W.setCell ⟨B, 0, none⟩ v0).setCell ⟨B, 1, none⟩ v1).setCell ⟨B, 2, none⟩ v2).setCell ⟨B, 3, none⟩ v3) ps :=
  (((h.other B 0 v0 hn).other B 1 v1 hn).other B 2 v2 hn).other B 3 v3 hn
theorem OW.put {w W : World} {k : Nat} (h : OW w W k) (j : Nat) : OW w ((((W.setCell ⟨w.heap.size + 1, 0, none⟩ (.string (ofL (sgn j)))).setCell ⟨w.heap.size + 1, 1, none⟩ (fnV (rdF j))).setCell ⟨w.heap.size + 1, 2, none⟩ (fnV (hoF j))).setCell ⟨w.heap.size + 1, 3, none⟩ (.bool (opB j))) j := by
  have l : Lies W [(w.heap.size, _), (w.heap.size + 2, _)] := Lies.cons h.res (Lies.cons h.row (Lies.nil W))
  have l1 := lies4 (B := w.heap.size + 1) (.string (ofL (sgn j))) (fnV (rdF j)) (fnV (hoF j)) (.bool (opB j)) l (by intro p hp; simp at hp; rcases hp with rfl | rfl <;> simp)
  exact ⟨l1.head, put4 _ _ _ _ h.top, l1.tail.head, below4 _ _ _ _ h.bel (by simp)⟩
theorem OW.start (w : World) : OW w (((w.alloc (.cells #[.string ⟨#[]⟩, .nilFunc, .nilFunc, .bool false] 57)).alloc (.cells #[.string ⟨#[]⟩, .nilFunc, .nilFunc, .bool false] 57)).alloc (.cells opCells 57)) 8 := by
  have h1 := World.alloc_heap_new w (.cells #[.string ⟨#[]⟩, .nilFunc, .nilFunc, .bool false] 57)
  have b1 : Below w.heap.size w (w.alloc (.cells #[.string ⟨#[]⟩, .nilFunc, .nilFunc, .bool false] 57)) := (Below.refl _ w).alloc (Nat.le_refl _) _
  have s1 : (w.alloc (.cells #[.string ⟨#[]⟩, .nilFunc, .nilFunc, .bool false] 57)).heap.size = w.heap.size + 1 := by simp
  generalize w.alloc (.cells #[.string ⟨#[]⟩, .nilFunc, .nilFunc, .bool false] 57) = A at *
  have h2 := World.alloc_heap_new A (.cells #[.string ⟨#[]⟩, .nilFunc, .nilFunc, .bool false] 57)
  have l2 := (Lies.cons h1 (Lies.nil A)).alloc (.cells #[.string ⟨#[]⟩, .nilFunc, .nilFunc, .bool false] 57)
  have b2 : Below w.heap.size w (A.alloc (.cells #[.string ⟨#[]⟩, .nilFunc, .nilFunc, .bool false] 57)) := b1.alloc (by omega) _
  have s2 : (A.alloc (.cells #[.string ⟨#[]⟩, .nilFunc, .nilFunc, .bool false] 57)).heap.size = w.heap.size + 2 := by simp [s1]
  rw [s1] at h2
  generalize A.alloc (.cells #[.string ⟨#[]⟩, .nilFunc, .nilFunc, .bool false] 57) = C at *
  have h3 := World.alloc_heap_new C (.cells opCells 57)
  have l3 := (Lies.cons h2 l2).alloc (.cells opCells 57)
  rw [s2] at h3
  exact ⟨l3.tail.head, l3.head, h3, b2.alloc (by omega) _⟩
theorem OW.seen {w W : World} {k : Nat} (h : OW w W k) : W.cell? ⟨w.heap.size + 1, 0, none⟩ = some (.string (ofL (sgn k))) ∧ W.cell? ⟨w.heap.size + 1, 1, none⟩ = some (fnV (rdF k)) ∧ W.cell? ⟨w.heap.size + 1, 2, none⟩ = some (fnV (hoF k)) ∧ W.cell? ⟨w.heap.size + 1, 3, none⟩ = some (.bool (opB k)) ∧
    W.frozen? ⟨w.heap.size + 1, 0, none⟩ = false ∧ W.frozen? ⟨w.heap.size + 1, 1, none⟩ = false ∧ W.frozen? ⟨w.heap.size + 1, 2, none⟩ = false ∧ W.frozen? ⟨w.heap.size + 1, 3, none⟩ = false :=
  ⟨cell_at 0 h.top rfl, cell_at 1 h.top rfl, cell_at 2 h.top rfl, cell_at 3 h.top rfl, one_free 0 h.top, one_free 1 h.top, one_free 2 h.top, one_free 3 h.top⟩
theorem OW.res4 {w W : World} {k : Nat} (h : OW w W k) : W.cell? ⟨w.heap.size, 0, none⟩ = some (.string ⟨#[]⟩) ∧ W.cell? ⟨w.heap.size, 1, none⟩ = some .nilFunc ∧ W.cell? ⟨w.heap.size, 2, none⟩ = some .nilFunc ∧ W.cell? ⟨w.heap.size, 3, none⟩ = some (.bool false) ∧
    W.frozen? ⟨w.heap.size, 0, none⟩ = false ∧ W.frozen? ⟨w.heap.size, 1, none⟩ = false ∧ W.frozen? ⟨w.heap.size, 2, none⟩ = false ∧ W.frozen? ⟨w.heap.size, 3, none⟩ = false :=
  ⟨cell_at 0 h.res rfl, cell_at 1 h.res rfl, cell_at 2 h.res rfl, cell_at 3 h.res rfl, one_free 0 h.res, one_free 1 h.res, one_free 2 h.res, one_free 3 h.res⟩
theorem op_cells (k : Nat) (h : k < 8) : opCells[k * 4]? = some (.string (ofL (sgn k))) ∧ opCells[k * 4 + 1]? = some (fnV (rdF k)) ∧ opCells[k * 4 + 2]? = some (fnV (hoF k)) ∧ opCells[k * 4 + 3]? = some (.bool (opB k)) ∧ rdF k ≠ 0 ∧ hoF k ≠ 0 := by
  match k, h with
  | 0, _ => exact ⟨rfl, rfl, rfl, rfl, Nat.ne_of_beq_eq_false rfl, Nat.ne_of_beq_eq_false rfl⟩
  | 1, _ => exact ⟨rfl, rfl, rfl, rfl, Nat.ne_of_beq_eq_false rfl, Nat.ne_of_beq_eq_false rfl⟩
  | 2, _ => exact ⟨rfl, rfl, rfl, rfl, Nat.ne_of_beq_eq_false rfl, Nat.ne_of_beq_eq_false rfl⟩
  | 3, _ => exact ⟨rfl, rfl, rfl, rfl, Nat.ne_of_beq_eq_false rfl, Nat.ne_of_beq_eq_false rfl⟩
  | 4, _ => exact ⟨rfl, rfl, rfl, rfl, Nat.ne_of_beq_eq_false rfl, Nat.ne_of_beq_eq_false rfl⟩
  | 5, _ => exact ⟨rfl, rfl, rfl, rfl, Nat.ne_of_beq_eq_false rfl, Nat.ne_of_beq_eq_false rfl⟩
  | 6, _ => exact ⟨rfl, rfl, rfl, rfl, Nat.ne_of_beq_eq_false rfl, Nat.ne_of_beq_eq_false rfl⟩
  | 7, _ => exact ⟨rfl, rfl, rfl, rfl, Nat.ne_of_beq_eq_false rfl, Nat.ne_of_beq_eq_false rfl⟩
theorem fin115 {R : Ending → World → Prop} (tmps : Array Value) (W : World) (B : Nat) (x : ByteArray) (f g : Value) (b : Bool) (z e : Int)
    (h4 : tmps.getD 4 undef = .pointer (some ⟨B, 0, none⟩)) (h5 : tmps.getD 5 undef = .int .i64 z) (h6 : tmps.getD 6 undef = .int .i64 e) (e1 : W.heap[B]? = some (.cells #[.string x, f, g, .bool b] 57 (0, 0)))
    (hR : R (.returned (.tuple #[.agg #[.string x, f, g, .bool b], .int .i64 z, .int .i64 e])) W) : bodyPost Tryz.prog Tryz.f115 R .ret { tmps := tmps, defers := [] } W := by
  have r0 := cell_at 0 e1 rfl
  have r1 := cell_at 1 e1 rfl
  have r2 := cell_at 2 e1 rfl
  have r3 := cell_at 3 e1 rfl
  rw [Array.getD_eq_getD_getElem?] at h4 h5 h6
  refine ⟨rfl, _, ?_, hR⟩
  simp [results, Tryz.results115, go_sem, h4, h5, h6, r0, r1, r2, r3]
  try rfl

end Go.Proofs.YtabmfdedbpmfmaaGreat

namespace Go.Proofs.YtabmfdedbpmfmaaGreat
open Go.RowKit Go.Shelf
set_option linter.unusedVariables false

def RdAt (W : World) (B : Nat) (s : ByteArray) (a : Nat) : Prop := W.heap[B]? = some (.cells #[.string s, .int .i64 (a : Int)] 122 (0, 0))
theorem RdAt.seen {W : World} {B : Nat} {s : ByteArray} {a : Nat} (h : RdAt W B s a) : W.cell? ⟨B, 0, none⟩ = some (.string s) ∧ W.cell? ⟨B, 1, none⟩ = some (.int .i64 (a : Int)) ∧ W.frozen? ⟨B, 1, none⟩ = false :=
  ⟨cell_at 0 h rfl, cell_at 1 h rfl, one_free 1 h⟩
theorem RdAt.lt {W : World} {B : Nat} {s : ByteArray} {a : Nat} (h : RdAt W B s a) : B < W.heap.size := (Array.getElem?_eq_some_iff.1 h).1
theorem RdAt.drewN {W : World} {B : Nat} {s : ByteArray} {a : Nat} (h : RdAt W B s a) (n : Nat) : RdAt (W.drewN n) B s a := by unfold RdAt; rw [heap_drewN]; exact h
theorem RdAt.place {W : World} {B : Nat} {s : ByteArray} {a : Nat} (h : RdAt W B s a) (x : Nat) : RdAt (W.setCell ⟨B, 1, none⟩ (.int .i64 (x : Int))) B s x := set_lies 1 (.int .i64 (x : Int)) h
theorem RdAt.below {W W' : World} {B : Nat} {s : ByteArray} {a : Nat} (h : RdAt W B s a) (hb : Below W.heap.size W W') : RdAt W' B s a := (hb.block B h.lt).trans h

def isMark (c : UInt8) : Bool := c == 45 || c == 95 || c == 46
def markL (l : List UInt8) (a : Nat) : Nat := if (l[a]?.map isMark).getD false then a + 1 else a

theorem rest_any (B : Nat) (s : ByteArray) (a : Nat) (w : World) (h : RdAt w B s a) (ha : a ≤ s.size) :
    Calls Tryz.prog 140 #[.pointer (some ⟨B, 0, none⟩)] w fun r w' => r = .returned (.string (ofL (s.data.toList.drop a))) ∧ ∃ n, w' = w.drewN n := by
  obtain ⟨c0, c1, f1⟩ := h.seen
  clear h
  have h0 : (0 : Int) ≤ (a : Int) := Int.natCast_nonneg _
  have h1 : (a : Int) ≤ (s.size : Int) := by omega
  go_enter Tryz.func140, Tryz.ntmps140
  go_wp2_with fail
  go_quiet (fail)
  go_wp2_with fail
  go_ret
  exact ⟨ret_s (by rw [extract_end]), _, rfl⟩

set_option maxHeartbeats 400000 in
theorem Misfit_any (s : ByteArray) (a : Nat) (w : World) :
    Calls Tryz.prog 136 #[.string s, .int .i64 (a : Int)] w fun e w' => e = .returned (.int .i64 (misL s.size a)) ∧ w' = w := by
  by_cases h : a = s.size
  · have hb : ((a : Int) == (s.size : Int)) = true := by simp; omega
    have HM : Hid (misL s.size a = 11) := if_pos h
    clear h
    go_enter Tryz.func136, Tryz.ntmps136
    go_wp2_with fail
    go_ret
    exact ⟨by rw [HM.out]; rfl, rfl⟩
  · have hb : ((a : Int) == (s.size : Int)) = false := by simp; omega
    have HM : Hid (misL s.size a = 10) := if_neg h
    clear h
    go_enter Tryz.func136, Tryz.ntmps136
    go_wp2_with fail
    go_ret
    exact ⟨by rw [HM.out]; rfl, rfl⟩

theorem misfit_any (B : Nat) (s : ByteArray) (a : Nat) (w : World) (h : RdAt w B s a) :
    Calls Tryz.prog 123 #[.pointer (some ⟨B, 0, none⟩)] w fun r w' => r = .returned (.int .i64 (misL s.size a)) ∧ ∃ n, w' = w.drewN n := by
  obtain ⟨c0, c1, f1⟩ := h.seen
  clear h
  have CM := hide (Misfit_any s a)
  go_enter Tryz.func123, Tryz.ntmps123
  go_wp2_with fail
  go_quiet ((go_at_call 136; exact Calls.quiet_of_same (CM.out _)))
  go_wp2_with fail
  go_ret
  exact ⟨rfl, _, rfl⟩

set_option maxHeartbeats 400000 in
theorem isDigits_any (s : ByteArray) (w : World) (hs : s.size ≤ maxLen) :
    Calls Tryz.prog 133 #[.string s] w fun e w' => e = .returned (.bool (digB s.data.toList)) ∧ w' = w := by
  by_cases hp : 0 < s.size
  · have hb := eqE s hp
    have hI : runI s.data.toList 0 1 = (runL 1 s.data.toList : Int) := by have := runI_in s 0 1 (by omega); simpa using this
    have HI := hide hI
    have HE := hide (emp s hp)
    clear hI
    go_enter Tryz.func133, Tryz.ntmps133
    go_wp2_with fail
    refine (Run_any _ _ _ _ hs).mono ?_
    rintro e w' ⟨rfl, rfl⟩
    go_wp2_with fail
    go_ret
    refine ⟨ret_b ?_, rfl⟩
    rw [digB, HE.out, HI.out, len_data]
    simp
    rw [Bool.eq_iff_iff]
    simp
    omega
  · have := size0 s hp
    subst this
    go_enter Tryz.func133, Tryz.ntmps133
    go_wp2_with fail
    go_ret
    exact ⟨rfl, rfl⟩

def plainL (t : List UInt8) : List UInt8 := if digB t then trimL t else t
theorem plain_any (s : ByteArray) (w : World) (hs : s.size ≤ maxLen) :
    Calls Tryz.prog 143 #[.string s] w fun e w' => e = .returned (.string (ofL (plainL s.data.toList))) ∧ w' = w := by
  have D := hide (isDigits_any s w hs)
  unfold plainL
  cases hd : digB s.data.toList
  · rw [hd] at D
    rw [if_neg (by simp)]
    go_enter Tryz.func143, Tryz.ntmps143
    go_wp2_with fail
    refine D.out.mono ?_
    rintro e w' ⟨rfl, hw⟩
    rw [hw]
    clear hw w'
    go_wp2_with fail
    go_ret
    exact ⟨ret_s (ofL_self s).symm, rfl⟩
  · rw [hd] at D
    rw [if_pos rfl]
    go_enter Tryz.func143, Tryz.ntmps143
    go_wp2_with fail
    refine D.out.mono ?_
    rintro e w' ⟨rfl, hw⟩
    rw [hw]
    clear hw w'
    go_wp2_with fail
    refine (Trim_any _ _ hs).mono ?_
    rintro e w' ⟨rfl, hw⟩
    rw [hw]
    clear hw w'
    go_wp2_with fail
    go_ret
    exact ⟨rfl, rfl⟩

end Go.Proofs.YtabmfdedbpmfmaaGreat

namespace Go.Proofs.YtabmfdedbpmfmaaGreat
open Go.RowKit Go.Shelf
set_option linter.unusedVariables false

def opA (k : Nat) : Array Value := #[.string (ofL (sgn k)), fnV (rdF k), fnV (hoF k), .bool (opB k)]
theorem fn_of {f : Nat} (h : f ≠ 0) : fnV f = .func (.func f) #[] #[] := if_neg h

set_option maxRecDepth 100000 in
set_option maxHeartbeats 4000000 in
theorem readOperator_any (s : ByteArray) (a : Nat) (w : World) (hs : s.size ≤ 256) (ha : a ≤ s.size) :
    Calls Tryz.prog 115 #[.string s, .int .i64 (a : Int)] w fun e w' => e = .returned (.tuple #[.agg (opA (opGo (s.data.toList.drop a) 8).1),
      .int .i64 ((if (opGo (s.data.toList.drop a) 8).1 = 8 then a + (opGo (s.data.toList.drop a) 8).2 else a + (sgn (opGo (s.data.toList.drop a) 8).1).length : Nat) : Int),
      .int .i64 (if (opGo (s.data.toList.drop a) 8).1 = 8 then misL s.size (a + (opGo (s.data.toList.drop a) 8).2) else 0)]) ∧ Below w.heap.size w w' := by
  have CM := hide (fun (k : Nat) (hk : (ofL (sgn k)).size ≤ 256) W => (by
    have := common_any (s.extract a s.size) (ofL (sgn k)) W (by rw [ByteArray.size_extract]; omega) hk
    rw [extract_end, ofL_data, ofL_data] at this
    rw [extract_end]
    exact this : Calls Tryz.prog 135 #[.string (s.extract a s.size), .string (ofL (sgn k))] W fun e w' => e = .returned (.int .i64 (comL (s.data.toList.drop a) (sgn k) : Int)) ∧ ∃ m, w' = W.drewN m))
  have MF := hide (fun m W => Misfit_any s m W)
  have hll : (s.data.toList.drop a).length = s.size - a := by rw [List.length_drop, len_data]
  generalize s.data.toList.drop a = l at *
  generalize hTV : Value.tuple #[.agg (opA (opGo l 8).1), _, _] = TV
  have HTV := hide hTV
  clear hTV
  have hA : (0 : Int) ≤ (a : Int) := Int.natCast_nonneg _
  have hB : (a : Int) ≤ (s.size : Int) := by omega
  go_enter Tryz.func115, Tryz.ntmps115
  go_wp2_with fail
  refine (operators_any _).mono ?_
  rintro e w1 ⟨rfl, rfl⟩
  have W0 := OW.start w
  generalize ((w.alloc _).alloc _).alloc _ = V0 at *
  have W0 := hide W0
  try dsimp only
  go_wp2_with fail
  go_loopw [8, 15] (fun y8 y15 wr => ∃ k : Nat, k ≤ 8 ∧ y15 = .int .i64 k ∧ y8 = .int .i64 ((a + (opGo l k).2 : Nat) : Int) ∧ OW w wr (opGo l k).1) (fun _ y15 _ => 8 - (intOf y15).toNat)
  case atStart => exact ⟨0, by omega, rfl, by simp [opGo], W0.out⟩
  case round =>
    obtain ⟨k, hk, rfl, rfl, hW⟩ := hrel
    by_cases hlt : k < 8
    · have hlt' : (k : Int) < 8 := by omega
      obtain ⟨o1, o2, o3, o4, o5, o6⟩ := op_cells k hlt
      have hf1 := fn_of o5
      have hf2 := fn_of o6
      rw [hf1] at o2
      rw [hf2] at o3
      have c0 := cell_at (k * 4) hW.row o1
      have c1 := cell_at (k * 4 + 1) hW.row o2
      have c2 := cell_at (k * 4 + 2) hW.row o3
      have c3 := cell_at (k * 4 + 3) hW.row o4
      have HN : Hid (opGo l (k + 1) = opStep l (opGo l k) k) := rfl
      have HLE := hide (opGo_le l k (by omega))
      have hjle := HLE.out.2.2.2
      generalize opGo l k = x at *
      obtain ⟨j, m⟩ := x
      have HS := hide hW
      clear o1 o2 o3 o4 hW
      dsimp only at HS HN HLE hjle ⊢
      have hB1 := hide (HS.out.below ((Below.refl _ wr).alloc (Nat.le_refl _) (.cells #[.string (ofL (sgn k)), .func (.func (rdF k)) #[] #[], .func (.func (hoF k)) #[] #[], .bool (opB k)] 57)))
      have n0 := World.alloc_heap_new wr (.cells #[.string (ofL (sgn k)), .func (.func (rdF k)) #[] #[], .func (.func (hoF k)) #[] #[], .bool (opB k)] 57)
      have hsk : (ofL (sgn k)).size = (sgn k).length := ofL_size _
      have hsj : (ofL (sgn j)).size = (sgn j).length := ofL_size _
      have hk3 := sgn_len k
      have CY := hide (CM.out k (by omega))
      have hcl := (comL_le l (sgn k)).2
      have hcl2 := (comL_le l (sgn k)).1
      unfold opStep at HN
      dsimp only at HN
      generalize comL l (sgn k) = c at *
      have HSK := hide hsk
      have HSJ := hide hsj
      have HF1 := hide hf1
      have HF2 := hide hf2
      have HO5 := hide o5
      have HO6 := hide o6
      have hac : a + c ≤ 256 := by omega
      clear hsk hsj hk3 hf1 hf2 o5 o6 hcl2 hjle
      by_cases h1 : c = (sgn k).length
      · have q1 : ((c : Int) == ((ofL (sgn k)).size : Int)) = true := by rw [HSK.out, h1]; simp
        by_cases h2 : (sgn j).length < c
        · have q2 : (ofL (sgn j)).size < c := by rw [HSJ.out]; exact h2
          have HN2 : Hid (opGo l (k + 1) = (k, max m c)) := hide (by rw [HN.out, if_pos ⟨h1, h2⟩])
          clear h1 h2 HN
          go_wp2_with fail
          generalize wr.alloc _ = V at *
          obtain ⟨g0, g1, g2, g3, g4, g5, g6, g7⟩ := hB1.out.seen
          have v0 := cell_at 0 n0 rfl
          have v1 := cell_at 1 n0 rfl
          have v2 := cell_at 2 n0 rfl
          have v3 := cell_at 3 n0 rfl
          go_quiet ((go_at_call 135; exact Calls.quiet_of (CY.out _)))
          have HPUT := hide (fun n => (hB1.out.below (below_drewN _ _ n)).put k)
          go_wp2_with fail
          go_roundw
          case rel => exact ⟨k + 1, by omega, by go_num, by rw [HN2.out]; congr 1; first | omega | (split <;> omega), by rw [HN2.out]; have := HPUT.out nq; rw [HF1.out, HF2.out] at this; exact this⟩
          case measure => simp [intOf]; omega
        · have q2 : ¬ (ofL (sgn j)).size < c := by rw [HSJ.out]; exact h2
          have HN2 : Hid (opGo l (k + 1) = (j, max m c)) := hide (by rw [HN.out, if_neg (fun h => h2 h.2)])
          clear h1 h2 HN
          go_wp2_with fail
          generalize wr.alloc _ = V at *
          obtain ⟨g0, g1, g2, g3, g4, g5, g6, g7⟩ := hB1.out.seen
          have v0 := cell_at 0 n0 rfl
          have v1 := cell_at 1 n0 rfl
          have v2 := cell_at 2 n0 rfl
          have v3 := cell_at 3 n0 rfl
          go_quiet ((go_at_call 135; exact Calls.quiet_of (CY.out _)))
          go_wp2_with fail
          go_roundw
          case rel => exact ⟨k + 1, by omega, by go_num, by rw [HN2.out]; congr 1; first | omega | (split <;> omega), by rw [HN2.out]; exact hB1.out.below (below_drewN _ _ _)⟩
          case measure => simp [intOf]; omega
      · have q1 : ((c : Int) == ((ofL (sgn k)).size : Int)) = false := by rw [HSK.out]; simp; omega
        have HN2 : Hid (opGo l (k + 1) = (j, max m c)) := hide (by rw [HN.out, if_neg (fun h => h1 h.1)])
        clear h1 HN
        go_wp2_with fail
        generalize wr.alloc _ = V at *
        obtain ⟨g0, g1, g2, g3, g4, g5, g6, g7⟩ := hB1.out.seen
        have v0 := cell_at 0 n0 rfl
        have v1 := cell_at 1 n0 rfl
        have v2 := cell_at 2 n0 rfl
        have v3 := cell_at 3 n0 rfl
        go_quiet ((go_at_call 135; exact Calls.quiet_of (CY.out _)))
        go_wp2_with fail
        go_roundw
        case rel => exact ⟨k + 1, by omega, by go_num, by rw [HN2.out]; congr 1; first | omega | (split <;> omega), by rw [HN2.out]; exact hB1.out.below (below_drewN _ _ _)⟩
        case measure => simp [intOf]; omega
    · obtain rfl : k = 8 := by omega
      have HLE := hide (opGo_le l 8 (by omega))
      obtain ⟨g0, g1, g2, g3, g4, g5, g6, g7⟩ := hW.seen
      obtain ⟨p0, p1, p2, p3, p4, p5, p6, p7⟩ := hW.res4
      have HS := hide hW
      generalize opGo l 8 = x at *
      obtain ⟨j, m⟩ := x
      dsimp only at *
      clear hW
      by_cases hj : j = 8
      · subst hj
        have HX := hide HS.out.res
        clear g1 g2 g3 g4 g5 g6 g7
        change _ = some (Value.string ⟨#[]⟩) at g0
        have MM := hide (MF.out (a + m))
        go_wp2_with fail
        refine (MM.out _).mono ?_
        rintro e w2 ⟨rfl, hw2⟩
        rw [hw2]
        clear hw2 w2
        go_wp2_with fail
        exact fin115 _ _ w.heap.size ⟨#[]⟩ .nilFunc .nilFunc false _ _ rfl rfl rfl (put4 _ _ _ _ HX.out) ⟨by rw [← HTV.out]; rfl, below4 _ _ _ _ HS.out.bel (Nat.le_refl _)⟩
      · have hj8 : j < 8 := by have := HLE.out.1; omega
        obtain ⟨_, _, _, _, o5, o6⟩ := op_cells j hj8
        have hne : (ofL (sgn j)).toList.isEmpty = false := by
          rw [toL, ofL_data]
          match j, hj8 with
          | 0, _ => rfl
          | 1, _ => rfl
          | 2, _ => rfl
          | 3, _ => rfl
          | 4, _ => rfl
          | 5, _ => rfl
          | 6, _ => rfl
          | 7, _ => rfl
        have HSJ := hide (ofL_size (sgn j))
        have hs3 : (ofL (sgn j)).size ≤ 3 := by rw [ofL_size]; exact sgn_len j
        rw [fn_of o5] at g1
        rw [fn_of o6] at g2
        have HE : Hid (Value.tuple #[.agg #[.string (ofL (sgn j)), .func (.func (rdF j)) #[] #[], .func (.func (hoF j)) #[] #[], .bool (opB j)], .int .i64 ((a + (sgn j).length : Nat) : Int), .int .i64 0] = TV) := hide (by rw [← HTV.out, if_neg hj, if_neg hj]; unfold opA; rw [fn_of o5, fn_of o6])
        have HX := hide HS.out.res
        clear o5 o6 hj g4 g5 g6 g7
        go_wp2_with fail
        go_region
        all_goals
          go_wp2_with fail
          refine fin115 _ _ w.heap.size (ofL (sgn j)) (.func (.func (rdF j)) #[] #[]) (.func (.func (hoF j)) #[] #[]) (opB j) _ _ rfl rfl rfl (put4 _ _ _ _ HX.out) ⟨?_, (below4 _ _ _ _ HS.out.bel (Nat.le_refl _)).drew⟩
          rw [← HE.out]
          have h9 : ((a : Int) + ((ofL (sgn j)).size : Int)) = ((a + (sgn j).length : Nat) : Int) := by rw [HSJ.out]; omega
          first | rw [h9] | simp only [HSJ.out, Int.natCast_add]

end Go.Proofs.YtabmfdedbpmfmaaGreat
