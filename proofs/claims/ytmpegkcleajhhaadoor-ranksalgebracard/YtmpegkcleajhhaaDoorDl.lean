/-
  Walks: the set of some ranks, and of all: the program and the document.
-/
import Derived.Test.YtmpegkcleajhhaaDoorDf
namespace Go.Proofs.YtmpegkcleajhhaaDoor
open Go.RowKit Go.Shelf
set_option linter.unusedVariables false

theorem inf4 : ∃ i, Tryd.prog.info? 4 = some i ∧ i.zero = some (.bool false) ∧ i.bytes = 1 ∧ i.size = 1 := by
  cases h : Tryd.prog.info? 4 with
  | none => exact absurd (show (Tryd.prog.info? 4).isSome = true by kernel_rfl) (by rw [h]; simp)
  | some i =>
    refine ⟨i, rfl, ?_, ?_, ?_⟩
    · have : (Tryd.prog.info? 4).bind (fun i => i.zero) = some (.bool false) := by kernel_rfl
      rwa [h] at this
    · have : (Tryd.prog.info? 4).map (fun i => i.bytes) = some 1 := by kernel_rfl
      rw [h] at this; simpa using this
    · have : (Tryd.prog.info? 4).map (fun i => i.size) = some 1 := by kernel_rfl
      rw [h] at this; simpa using this
def boolCells (m : List Bool) : Array Value := (m.map fun b => Value.bool b).toArray
theorem mkB (n : Nat) (hn : n ≤ 1048576) (w : World) : (Instr.makeSlice 24 (.int .i64 (n : Int)) (.int .i64 (n : Int))).run Tryd.prog w = .ok (.slice (some ⟨w.heap.size, 0, none⟩) n n) (w.alloc (.cells (boolCells (List.replicate n false)) 4)) := by
  obtain ⟨i, h1, h2, h3, h4⟩ := inf4
  have h := run_make (P := Tryd.prog) w 24 4 i (.bool false) Tryd.underlying24 h1 h2 .i64 .i64 (n : Int) (n : Int) (by omega) (Int.le_refl _) (by rw [h3]; omega) (by omega)
  rw [h, h4, Int.toNat_natCast, Nat.mul_one]
  have e : madeCells #[.bool false] n = boolCells (List.replicate n false) := by
    unfold boolCells
    rw [List.map_replicate, ← toList_madeCells_one]
  rw [← e]
  rfl
/-- Truths lie in a block of the call's own. -/
structure BW (w0 : World) (B : Nat) (m : List Bool) (W : World) : Prop where
  bel : Below w0.heap.size w0 W
  le : w0.heap.size ≤ B
  cells : W.heap[B]? = some (.cells (boolCells m) 4 (0, 0))
theorem bc_size (m : List Bool) : (boolCells m).size = m.length := by simp [boolCells]
theorem BW.lt {w0 : World} {B : Nat} {m : List Bool} {W : World} (h : BW w0 B m W) : B < W.heap.size := (Array.getElem?_eq_some_iff.1 h.cells).1
theorem BW.cell {w0 : World} {B : Nat} {m : List Bool} {W : World} (h : BW w0 B m W) (i : Nat) (hi : i < m.length) : W.cell? ⟨B, i, none⟩ = some (.bool m[i]) := cell_at i h.cells (by simp [boolCells, hi])
theorem BW.free {w0 : World} {B : Nat} {m : List Bool} {W : World} (h : BW w0 B m W) (i : Nat) : W.frozen? ⟨B, i, none⟩ = false := one_free i h.cells
theorem BW.put {w0 : World} {B : Nat} {m : List Bool} {W : World} (h : BW w0 B m W) (i : Nat) (b : Bool) : BW w0 B (m.set i b) (W.setCell ⟨B, i, none⟩ (.bool b)) := by
  refine ⟨h.bel.setCell (p := ⟨B, i, none⟩) h.le _, h.le, ?_⟩
  rw [set_lies i _ h.cells]
  congr 2
  simp [boolCells, List.map_set]
theorem BW.next {w0 : World} {B : Nat} {m : List Bool} {W W' : World} (h : BW w0 B m W) (hb : Below W.heap.size W W') : BW w0 B m W' := ⟨h.bel.trans (hb.mono h.bel.size), h.le, (hb.block B h.lt).trans h.cells⟩
theorem BW.bools {w0 : World} {B : Nat} {m : List Bool} {W : World} (h : BW w0 B m W) (n cap : Nat) (hn : m.length = n) (hc : n ≤ cap) : Bools W (.slice (some ⟨B, 0, none⟩) n cap) m := by
  subst hn
  refine ⟨_, cap, rfl, hc, (fun h => by cases h), .inr ⟨B, 0, rfl, h.lt, fun i hi => by rw [Nat.zero_add]; exact h.cell i hi⟩⟩
theorem BW.start (w : World) (m : List Bool) : BW w w.heap.size m (w.alloc (.cells (boolCells m) 4)) := ⟨(Below.refl _ w).alloc (Nat.le_refl _) _, Nat.le_refl _, World.alloc_heap_new w _⟩
/-- A slice of numbers in memory. -/
def Ints (W : World) (v : Value) (l : List Int) : Prop :=
  ∃ a cap, v = .slice a l.length cap ∧ (l = [] ∨ ∃ b off, a = some ⟨b, off, none⟩ ∧ b < W.heap.size ∧ ∀ i (h : i < l.length), W.cell? ⟨b, off + i, none⟩ = some (.int .i64 l[i]))
theorem Ints.below {W W' : World} {v : Value} {l : List Int} (h : Ints W v l) (hb : Below W.heap.size W W') : Ints W' v l := by
  obtain ⟨a, cap, hv, h0 | ⟨b, off, ha, hlt, hc⟩⟩ := h
  · exact ⟨a, cap, hv, .inl h0⟩
  · exact ⟨a, cap, hv, .inr ⟨b, off, ha, Nat.lt_of_lt_of_le hlt hb.size, fun i hi => by rw [← hc i hi]; simp only [World.cell?]; rw [hb.block b hlt]⟩⟩
/-- One number told. -/
def mark1 (m : List Bool) (x : Int) : List Bool := if 0 ≤ x ∧ x < (m.length : Int) then m.set x.toNat true else m
def marksL (k : Nat) (l : List Int) : List Bool := l.foldl mark1 (List.replicate k false)
theorem mark1_len (m : List Bool) (x : Int) : (mark1 m x).length = m.length := by unfold mark1; split <;> simp
theorem marks_len (k : Nat) (l : List Int) : (marksL k l).length = k := by
  unfold marksL
  have : ∀ (l : List Int) (m : List Bool), (l.foldl mark1 m).length = m.length := by
    intro l
    induction l with
    | nil => intro m; rfl
    | cons x l ih => intro m; rw [List.foldl_cons, ih, mark1_len]
  rw [this]; simp
theorem marks_snoc (k : Nat) (l : List Int) (x : Int) : marksL k (l ++ [x]) = mark1 (marksL k l) x := by simp [marksL]
theorem mark1_at (m : List Bool) (x : Int) (i : Nat) : atP (mark1 m x) i = (atP m i || (decide (i < m.length) && decide (x = (i : Int)))) := by
  unfold mark1 atP
  by_cases h : 0 ≤ x ∧ x < (m.length : Int)
  · rw [if_pos h, List.getD_eq_getElem?_getD, List.getElem?_set, List.getD_eq_getElem?_getD]
    by_cases hi : x.toNat = i
    · have hx : x = (i : Int) := by omega
      have hl : i < m.length := by omega
      have hl2 : x.toNat < m.length := by omega
      rw [if_pos hi, if_pos hl2]
      simp [hx, hl]
    · have hx : ¬ x = (i : Int) := by omega
      rw [if_neg hi]
      simp [hx]
  · rw [if_neg h]
    have : (decide (i < m.length) && decide (x = (i : Int))) = false := by simp; omega
    rw [this]; simp
theorem foldl_at (i : Nat) : ∀ (l : List Int) (m : List Bool), atP (l.foldl mark1 m) i = (atP m i || (decide (i < m.length) && decide ((i : Int) ∈ l)))
  | [], m => by simp
  | x :: l, m => by
    rw [List.foldl_cons, foldl_at i l, mark1_at, mark1_len]
    by_cases h1 : i < m.length
    · simp only [h1, decide_true, Bool.true_and, Bool.or_assoc, List.mem_cons]
      congr 1
      rw [Bool.eq_iff_iff]
      simp only [Bool.or_eq_true, decide_eq_true_eq]
      exact ⟨fun h => h.elim (fun h => .inl h.symm) .inr, fun h => h.elim (fun h => .inl h.symm) .inr⟩
    · simp [h1]
theorem marks_at (k : Nat) (l : List Int) (i : Nat) : atP (marksL k l) i = (decide (i < k) && decide ((i : Int) ∈ l)) := by
  unfold marksL
  rw [foldl_at]
  have : atP (List.replicate k false) i = false := by
    unfold atP
    rw [List.getD_eq_getElem?_getD, List.getElem?_replicate]
    split <;> rfl
  rw [this]; simp
/-- The set of some ranks. -/
def ofRL (n : Int) (l : List Int) : List Sp := whereL (atP (marksL (cnt n) l)) (cnt n)
theorem cnt_cnt (n : Int) : cnt ((cnt n : Nat) : Int) = cnt n := by
  have := cnt_le n
  unfold cnt at *
  omega

set_option maxRecDepth 100000 in
set_option maxHeartbeats 4000000 in
theorem Of_any (n : Int) (v : Value) (l : List Int) (w : World) (hA : Ints w v l) (hl : l.length ≤ 1000000000000000) :
    Calls Tryd.prog 10 #[.int .i64 n, v] w (SetPost (ofRL n l) w) := by
  obtain ⟨aa, ca, rfl, hra⟩ := hA
  have HA := hide hra
  clear hra
  have hK := cnt_le n
  have C := hide (fun w => counted_any n w)
  have HR : Hid (∀ m : List Bool, m = marksL (cnt n) l → m.length = cnt n → whereL (atP m) (cnt ((m.length : Nat) : Int)) = ofRL n l) := by
    rintro m rfl h
    rw [h, cnt_cnt]; rfl
  have HML := hide (fun k => marks_len (cnt n) (l.take k))
  have HM0 : Hid (marksL (cnt n) (l.take 0) = List.replicate (cnt n) false) := rfl
  have M1 := mkB (cnt n) (by omega)
  generalize cnt n = K at *
  go_enter Tryd.func10, Tryd.ntmps10
  go_wp2_with fail
  refine (C.out _).mono ?_
  rintro e w' ⟨rfl, hw'⟩
  rw [hw']; clear hw' w'
  go_wp2_with fail
  have B0 := BW.start w (List.replicate K false)
  rw [← HM0.out] at B0
  clear M1
  go_loopw [13] (fun x wr => ∃ k : Nat, k ≤ l.length ∧ x = .int .i64 k ∧ BW w w.heap.size (marksL K (l.take k)) wr) (fun x _ => l.length - (intOf x).toNat)
  case atStart => exact ⟨0, by omega, rfl, B0⟩
  case round =>
    clear B0
    obtain ⟨k, hk, rfl, hW⟩ := hrel
    by_cases hlt : k < l.length
    · have hlt' : (k : Int) < (l.length : Int) := by omega
      obtain ⟨b, off, rfl, hlb, hc⟩ : ∃ b off, aa = some ⟨b, off, none⟩ ∧ b < w.heap.size ∧ ∀ i (h : i < l.length), w.cell? ⟨b, off + i, none⟩ = some (.int .i64 l[i]) := by
        rcases HA.out with h0 | h0
        · rw [h0] at hlt; simp at hlt
        · exact h0
      have c0 : wr.cell? ⟨b, off + k, none⟩ = some (.int .i64 l[k]) := by rw [← hc k hlt]; simp only [World.cell?]; rw [hW.bel.block b hlb]
      clear hc
      have HN : Hid (marksL K (l.take (k + 1)) = mark1 (marksL K (l.take k)) l[k]) := by show _ = _; rw [List.take_succ_eq_append_getElem hlt, marks_snoc]
      generalize l[k] = x at *
      have hML := HML.out k
      generalize marksL K (l.take k) = m at *
      by_cases h0 : 0 ≤ x
      · by_cases h1 : x < (K : Int)
        · obtain ⟨q, rfl⟩ : ∃ q : Nat, x = (q : Int) := ⟨x.toNat, by omega⟩
          have hq : q < m.length := by omega
          have cq := hW.cell q hq
          have fq := hW.free q
          have HP := hide (hW.put q true)
          have HN2 : Hid (marksL K (l.take (k + 1)) = m.set q true) := by
            show _ = _
            rw [HN.out]; unfold mark1
            rw [if_pos ⟨by omega, by omega⟩, Int.toNat_natCast]
          generalize m[q] = bq at *
          clear HN
          go_wp2_with fail
          go_roundw
          case rel => exact ⟨k + 1, by omega, by go_num, by rw [HN2.out]; exact HP.out⟩
          case measure => simp [intOf]; omega
        · have HN2 : Hid (marksL K (l.take (k + 1)) = m) := by
            show _ = _
            rw [HN.out]; unfold mark1
            rw [if_neg (by omega)]
          clear HN
          go_wp2_with fail
          go_roundw
          case rel => exact ⟨k + 1, by omega, by go_num, by rw [HN2.out]; exact hW⟩
          case measure => simp [intOf]; omega
      · have HN2 : Hid (marksL K (l.take (k + 1)) = m) := by
          show _ = _
          rw [HN.out]; unfold mark1
          rw [if_neg (by omega)]
        clear HN
        go_wp2_with fail
        go_roundw
        case rel => exact ⟨k + 1, by omega, by go_num, by rw [HN2.out]; exact hW⟩
        case measure => simp [intOf]; omega
    · have hlt' : ¬ (k : Int) < (l.length : Int) := by omega
      have hML := HML.out k
      have HE : Hid (marksL K (l.take k) = marksL K l) := by show _ = _; rw [List.take_of_length_le (by omega)]
      have CW := Where_any _ _ _ (hW.bools K K hML (Nat.le_refl _)) (by omega)
      rw [HR.out _ HE.out hML] at CW
      have CW := hide CW
      go_wp2_with fail
      refine CW.out.mono ?_
      rintro e w2 ⟨v2, rfl, s2, b2⟩
      go_wp2_with fail
      go_ret
      exact ⟨v2, rfl, s2, hW.bel.trans (b2.mono hW.bel.size)⟩

set_option maxRecDepth 100000 in
set_option maxHeartbeats 4000000 in
theorem ROf_any (n : Int) (v : Value) (l : List Int) (w : World) (hA : Ints w v l) (hl : l.length ≤ 1000000000000000) :
    Calls Tryd.prog 11 #[.int .i64 n, v] w (SetPost (ofRL n l) w) := by
  obtain ⟨aa, ca, rfl, hra⟩ := hA
  have HA := hide hra
  clear hra
  have hK := cnt_le n
  have C := hide (fun w => bounded_any n w)
  have HR : Hid (∀ m : List Bool, m = marksL (cnt n) l → m.length = cnt n → whereL (atP m) (cnt ((m.length : Nat) : Int)) = ofRL n l) := by
    rintro m rfl h
    rw [h, cnt_cnt]; rfl
  have HML := hide (fun k => marks_len (cnt n) (l.take k))
  have HM0 : Hid (marksL (cnt n) (l.take 0) = List.replicate (cnt n) false) := rfl
  have M1 := mkB (cnt n) (by omega)
  generalize cnt n = K at *
  go_enter Tryd.func11, Tryd.ntmps11
  go_wp2_with fail
  refine (C.out _).mono ?_
  rintro e w' ⟨rfl, hw'⟩
  rw [hw']; clear hw' w'
  go_wp2_with fail
  have B0 := BW.start w (List.replicate K false)
  rw [← HM0.out] at B0
  clear M1
  go_loopw [6] (fun x wr => ∃ k : Nat, k ≤ l.length ∧ x = .int .i64 k ∧ BW w w.heap.size (marksL K (l.take k)) wr) (fun x _ => l.length - (intOf x).toNat)
  case atStart => exact ⟨0, by omega, rfl, B0⟩
  case round =>
    clear B0
    obtain ⟨k, hk, rfl, hW⟩ := hrel
    by_cases hlt : k < l.length
    · have hlt' : (k : Int) < (l.length : Int) := by omega
      obtain ⟨b, off, rfl, hlb, hc⟩ : ∃ b off, aa = some ⟨b, off, none⟩ ∧ b < w.heap.size ∧ ∀ i (h : i < l.length), w.cell? ⟨b, off + i, none⟩ = some (.int .i64 l[i]) := by
        rcases HA.out with h0 | h0
        · rw [h0] at hlt; simp at hlt
        · exact h0
      have c0 : wr.cell? ⟨b, off + k, none⟩ = some (.int .i64 l[k]) := by rw [← hc k hlt]; simp only [World.cell?]; rw [hW.bel.block b hlb]
      clear hc
      have HN : Hid (marksL K (l.take (k + 1)) = mark1 (marksL K (l.take k)) l[k]) := by show _ = _; rw [List.take_succ_eq_append_getElem hlt, marks_snoc]
      generalize l[k] = x at *
      have hML := HML.out k
      generalize marksL K (l.take k) = m at *
      by_cases h0 : 0 ≤ x
      · by_cases h1 : x < (K : Int)
        · obtain ⟨q, rfl⟩ : ∃ q : Nat, x = (q : Int) := ⟨x.toNat, by omega⟩
          have hq : q < m.length := by omega
          have cq := hW.cell q hq
          have fq := hW.free q
          have HP := hide (hW.put q true)
          have HN2 : Hid (marksL K (l.take (k + 1)) = m.set q true) := by
            show _ = _
            rw [HN.out]; unfold mark1
            rw [if_pos ⟨by omega, by omega⟩, Int.toNat_natCast]
          generalize m[q] = bq at *
          clear HN
          go_wp2_with fail
          go_roundw
          case rel => exact ⟨k + 1, by omega, by go_num, by rw [HN2.out]; exact HP.out⟩
          case measure => simp [intOf]; omega
        · have HN2 : Hid (marksL K (l.take (k + 1)) = m) := by
            show _ = _
            rw [HN.out]; unfold mark1
            rw [if_neg (by omega)]
          clear HN
          go_wp2_with fail
          go_roundw
          case rel => exact ⟨k + 1, by omega, by go_num, by rw [HN2.out]; exact hW⟩
          case measure => simp [intOf]; omega
      · have HN2 : Hid (marksL K (l.take (k + 1)) = m) := by
          show _ = _
          rw [HN.out]; unfold mark1
          rw [if_neg (by omega)]
        clear HN
        go_wp2_with fail
        go_roundw
        case rel => exact ⟨k + 1, by omega, by go_num, by rw [HN2.out]; exact hW⟩
        case measure => simp [intOf]; omega
    · have hlt' : ¬ (k : Int) < (l.length : Int) := by omega
      have hML := HML.out k
      have HE : Hid (marksL K (l.take k) = marksL K l) := by show _ = _; rw [List.take_of_length_le (by omega)]
      have CW := RWhere_any _ _ _ (hW.bools K K hML (Nat.le_refl _)) (by omega)
      rw [HR.out _ HE.out hML] at CW
      have CW := hide CW
      go_wp2_with fail
      refine CW.out.mono ?_
      rintro e w2 ⟨v2, rfl, s2, b2⟩
      go_wp2_with fail
      go_ret
      exact ⟨v2, rfl, s2, hW.bel.trans (b2.mono hW.bel.size)⟩

/-- All ranks. -/
def allL (n : Int) : List Sp := if n < 1 then [] else [(0, (cnt n : Int))]
theorem one_spans (w : World) (lo hi : Int) : Spans (w.alloc (.cells #[.int .i64 lo, .int .i64 hi] 45)) (.slice (some ⟨w.heap.size, 0, none⟩) 1 1) [(lo, hi)] := by
  refine ⟨_, 1, rfl, .inr ⟨w.heap.size, 0, rfl, by simp, ?_⟩⟩
  exact cells_row (s := [(lo, hi)]) (sp := []) (World.alloc_heap_new w _)
theorem All_any (n : Int) (w : World) : Calls Tryd.prog 14 #[.int .i64 n] w (SetPost (allL n) w) := by
  have C := hide (fun w => counted_any n w)
  by_cases h : n < 1
  · have HX : Hid (allL n = []) := by show _ = _; unfold allL; rw [if_pos h]
    go_enter Tryd.func14, Tryd.ntmps14
    go_wp2_with fail
    go_ret
    exact ⟨_, rfl, by rw [HX.out]; exact Spans.nil _, Below.refl _ _⟩
  · have HX : Hid (allL n = [(0, (cnt n : Int))]) := by show _ = _; unfold allL; rw [if_neg h]
    generalize cnt n = K at *
    go_enter Tryd.func14, Tryd.ntmps14
    go_wp2_with fail
    refine (C.out _).mono ?_
    rintro e w' ⟨rfl, hw'⟩
    rw [hw']; clear hw' w'
    go_wp2_with fail
    go_ret
    exact ⟨_, rfl, by rw [HX.out]; exact one_spans _ _ _, (Below.refl _ w).alloc (Nat.le_refl _) _⟩
theorem RAll_any (n : Int) (w : World) : Calls Tryd.prog 15 #[.int .i64 n] w (SetPost (allL n) w) := by
  have C := hide (fun w => bounded_any n w)
  by_cases h : n < 1
  · have HX : Hid (allL n = []) := by show _ = _; unfold allL; rw [if_pos h]
    go_enter Tryd.func15, Tryd.ntmps15
    go_wp2_with fail
    go_ret
    exact ⟨_, rfl, by rw [HX.out]; exact Spans.nil _, Below.refl _ _⟩
  · have HX : Hid (allL n = [(0, (cnt n : Int))]) := by show _ = _; unfold allL; rw [if_neg h]
    generalize cnt n = K at *
    go_enter Tryd.func15, Tryd.ntmps15
    go_wp2_with fail
    refine (C.out _).mono ?_
    rintro e w' ⟨rfl, hw'⟩
    rw [hw']; clear hw' w'
    go_wp2_with fail
    go_ret
    exact ⟨_, rfl, by rw [HX.out]; exact one_spans _ _ _, (Below.refl _ w).alloc (Nat.le_refl _) _⟩
theorem all_set {n : Int} (h0 : 0 ≤ n) (h1 : n ≤ 65536) : IsSet n (fun r => decide (0 ≤ r) && decide (r < n)) (allL n) := by
  unfold allL
  by_cases h : n < 1
  · rw [if_pos h]
    refine ⟨fitL_iff.2 ⟨h0, h1, rfl⟩, fun r => ?_⟩
    rw [has_nil, eq_comm, Bool.and_eq_false_iff]
    simp
    omega
  · rw [if_neg h, cnt_of n h0 h1]
    refine ⟨fitL_iff.2 ⟨h0, h1, by rw [fitF_cons]; exact ⟨by simp, by simp; omega, by simp, rfl⟩⟩, fun r => ?_⟩
    rw [has_cons, has_nil, Bool.or_false]

end Go.Proofs.YtmpegkcleajhhaaDoor
