/-
  Walks: texts of sets: the program and the document.
-/
import Derived.Test.YtmpegkcleajhhaaDoorJoin
import Derived.Test.YtmpegkcleajhhaaDoorDm
import Derived.Lib.ItoaLen
import Derived.Lib.Join
namespace Go.Proofs.YtmpegkcleajhhaaDoor
open Go.RowKit Go.Shelf
set_option linter.unusedVariables false

/-- The table of powers lies where it was laid. -/
def Tab (w : World) : Prop := Lib.TabIs Tryd.prog w "internal/strconv.uint64pow10" .u64 Lib.pow10Tab
theorem gTab : ∃ g, Tryd.prog.globalNamed "internal/strconv.uint64pow10" = some g := by
  cases h : Tryd.prog.globalNamed "internal/strconv.uint64pow10" with
  | none => exact absurd (show (Tryd.prog.globalNamed "internal/strconv.uint64pow10").isSome = true by kernel_rfl) (by rw [h]; simp)
  | some g => exact ⟨g, rfl⟩
theorem Tab.below {w w' : World} (h : Tab w) (hb : Below w.heap.size w w') : Tab w' := by
  obtain ⟨g, hg⟩ := gTab
  unfold Tab Lib.TabIs World.var? at h ⊢
  rw [hg] at h ⊢
  simp only [Option.bind_some] at h ⊢
  have hlt : g < w.heap.size := by
    rcases Nat.lt_or_ge g w.heap.size with h' | h'
    · exact h'
    · rw [Array.getElem?_eq_none h'] at h; cases h
  rw [hb.block g hlt]
  exact h
theorem below_grow (w : World) (k : Nat) (os : Array Obj) : Below w.heap.size w (Go.Sort.grow (w.drewN k) os) := by
  have h := Turn.drewN 0 w k
  refine ⟨h.os, h.tape, h.output, ?_, fun j hj => ?_⟩
  · show w.heap.size ≤ ((w.drewN k).heap ++ os).size
    rw [heap_drewN, Array.size_append]; omega
  · show ((w.drewN k).heap ++ os)[j]? = _
    rw [heap_drewN, Array.getElem?_append_left hj]
theorem Itoa_any (n : Int) (w : World) (hT : Tab w) (h0 : 0 ≤ n) (h1 : n ≤ 65536) : Calls Tryd.prog 52 #[.int .i64 n] w fun e w' => e = .returned (.string (ofL (Lib.itoa n))) ∧ Below w.heap.size w w' := by
  refine (Tryd.strconv_Itoa n (by omega) (by omega) w hT).mono ?_
  rintro e w' ⟨rfl, k, os, rfl⟩
  exact ⟨rfl, below_grow _ _ _⟩
/-- The text of a span. -/
def writeT (p : Sp) : List UInt8 := if p.2 - p.1 = 1 then Lib.itoa p.1 else Lib.itoa p.1 ++ 45 :: Lib.itoa (p.2 - 1)
theorem write_len (p : Sp) (h0 : 0 ≤ p.1) (h1 : p.1 < p.2) (h2 : p.2 ≤ 65536) : (writeT p).length ≤ 60 := by
  have a := Lib.itoa_length_le p.1 (by omega) (by omega)
  have b := Lib.itoa_length_le (p.2 - 1) (by omega) (by omega)
  unfold writeT
  split
  · omega
  · simp only [List.length_append, List.length_cons]; omega

set_option maxRecDepth 100000 in
set_option maxHeartbeats 1000000 in
theorem write_any (x0 x1 : Int) (w : World) (hT : Tab w) (h0 : 0 ≤ x0) (h1 : x0 < x1) (h2 : x1 ≤ 65536) :
    Calls Tryd.prog 50 #[.agg #[.int .i64 x0, .int .i64 x1]] w fun e w' => e = .returned (.string (ofL (writeT (x0, x1)))) ∧ Below w.heap.size w w' := by
  obtain ⟨W0, hW0⟩ : ∃ W0, W0 = w.alloc (.cells #[.int .i64 x0, .int .i64 x1] 45) := ⟨_, rfl⟩
  have bel0 : Below w.heap.size w W0 := by rw [hW0]; exact (Below.refl _ w).alloc (Nat.le_refl _) _
  have at0 : W0.heap[w.heap.size]? = some (.cells #[.int .i64 x0, .int .i64 x1] 45 (0, 0)) := by rw [hW0]; exact World.alloc_heap_new w _
  have C0 := hide (Itoa_any x0 W0 (hT.below bel0) h0 (by omega))
  have C1 := hide (fun W (hb : Below W0.heap.size W0 W) => Itoa_any (x1 - 1) W ((hT.below bel0).below hb) (by omega) (by omega))
  have HW : Hid (writeT (x0, x1) = if x1 - x0 = 1 then Lib.itoa x0 else Lib.itoa x0 ++ 45 :: Lib.itoa (x1 - 1)) := rfl
  have hlt : w.heap.size < W0.heap.size := (Array.getElem?_eq_some_iff.1 at0).1
  have L0 := Lib.itoa_length_le x0 (by omega) (by omega)
  have L1 := Lib.itoa_length_le (x1 - 1) (by omega) (by omega)
  have c0 := cell_at 0 at0 rfl
  have c1 := cell_at 1 at0 rfl
  generalize Lib.itoa x0 = t0 at *
  generalize Lib.itoa (x1 - 1) = t1 at *
  have z0 := ofL_size t0
  go_enter Tryd.func50, Tryd.ntmps50
  go_wp2_with fail
  rw [← hW0]
  refine C0.out.mono ?_
  rintro e w1 ⟨rfl, b1⟩
  have at1 := (b1.block _ hlt).trans at0
  have d0 := cell_at 0 at1 rfl
  have d1 := cell_at 1 at1 rfl
  by_cases hd : x1 - x0 = 1
  · have hq : (x1 - x0 == 1) = true := by simp [hd]
    rw [if_pos hd] at HW
    go_wp2_with fail
    go_ret
    exact ⟨ret_s (by rw [HW.out]), bel0.trans (b1.mono bel0.size)⟩
  · have hq : (x1 - x0 == 1) = false := by simp [hd]
    rw [if_neg hd] at HW
    have C2 := hide (C1.out w1 b1)
    generalize hT0 : ofL t0 = T0 at *
    go_wp2_with fail
    refine C2.out.mono ?_
    rintro e w2 ⟨rfl, b2⟩
    have z1 := ofL_size t1
    generalize hT1 : ofL t1 = T1 at *
    go_wp2_with fail
    go_ret
    refine ⟨ret_s ?_, (bel0.trans (b1.mono bel0.size)).trans (b2.mono (Nat.le_trans bel0.size b1.size))⟩
    rw [HW.out, ← hT0, ← hT1]
    apply ba_ext
    simp [ofL]
theorem inf9 : ∃ i, Tryd.prog.info? 9 = some i ∧ i.zero = some (.string ⟨#[]⟩) ∧ i.bytes = 16 ∧ i.size = 1 := by
  cases h : Tryd.prog.info? 9 with
  | none => exact absurd (show (Tryd.prog.info? 9).isSome = true by kernel_rfl) (by rw [h]; simp)
  | some i =>
    refine ⟨i, rfl, ?_, ?_, ?_⟩
    · have : (Tryd.prog.info? 9).bind (fun i => i.zero) = some (.string ⟨#[]⟩) := by kernel_rfl
      rwa [h] at this
    · have : (Tryd.prog.info? 9).map (fun i => i.bytes) = some 16 := by kernel_rfl
      rw [h] at this; simpa using this
    · have : (Tryd.prog.info? 9).map (fun i => i.size) = some 1 := by kernel_rfl
      rw [h] at this; simpa using this
def strCells (m : List (List UInt8)) : Array Value := (m.map fun t => Value.string (ofL t)).toArray
theorem mkS (n : Nat) (hn : n ≤ 1048576) (w : World) : (Instr.makeSlice 54 (.int .i64 (n : Int)) (.int .i64 (n : Int))).run Tryd.prog w = .ok (.slice (some ⟨w.heap.size, 0, none⟩) n n) (w.alloc (.cells (strCells (List.replicate n [])) 9)) := by
  obtain ⟨i, h1, h2, h3, h4⟩ := inf9
  have h := run_make (P := Tryd.prog) w 54 9 i (.string ⟨#[]⟩) Tryd.underlying54 h1 h2 .i64 .i64 (n : Int) (n : Int) (by omega) (Int.le_refl _) (by rw [h3]; omega) (by omega)
  rw [h, h4, Int.toNat_natCast, Nat.mul_one]
  have e : madeCells #[.string ⟨#[]⟩] n = strCells (List.replicate n []) := by
    unfold strCells
    rw [List.map_replicate, show ofL [] = ⟨#[]⟩ from rfl, ← toList_madeCells_one]
  rw [← e]
  rfl
/-- Texts lie in a block of the call's own. -/
structure PW (w0 : World) (B : Nat) (m : List (List UInt8)) (W : World) : Prop where
  bel : Below w0.heap.size w0 W
  le : w0.heap.size ≤ B
  cells : W.heap[B]? = some (.cells (strCells m) 9 (0, 0))
theorem PW.lt {w0 : World} {B : Nat} {m : List (List UInt8)} {W : World} (h : PW w0 B m W) : B < W.heap.size := (Array.getElem?_eq_some_iff.1 h.cells).1
theorem PW.cell {w0 : World} {B : Nat} {m : List (List UInt8)} {W : World} (h : PW w0 B m W) (i : Nat) (t : List UInt8) (hi : m[i]? = some t) : W.cell? ⟨B, i, none⟩ = some (.string (ofL t)) := cell_at i h.cells (by simp [strCells, hi])
theorem PW.free {w0 : World} {B : Nat} {m : List (List UInt8)} {W : World} (h : PW w0 B m W) (i : Nat) : W.frozen? ⟨B, i, none⟩ = false := one_free i h.cells
theorem PW.put {w0 : World} {B : Nat} {m : List (List UInt8)} {W : World} (h : PW w0 B m W) (i : Nat) (t : List UInt8) : PW w0 B (m.set i t) (W.setCell ⟨B, i, none⟩ (.string (ofL t))) := by
  refine ⟨h.bel.setCell (p := ⟨B, i, none⟩) h.le _, h.le, ?_⟩
  rw [set_lies i _ h.cells]
  congr 2
  simp [strCells, List.map_set]
theorem PW.next {w0 : World} {B : Nat} {m : List (List UInt8)} {W W' : World} (h : PW w0 B m W) (hb : Below W.heap.size W W') : PW w0 B m W' := ⟨h.bel.trans (hb.mono h.bel.size), h.le, (hb.block B h.lt).trans h.cells⟩
theorem PW.start (w : World) (m : List (List UInt8)) : PW w w.heap.size m (w.alloc (.cells (strCells m) 9)) := ⟨(Below.refl _ w).alloc (Nat.le_refl _) _, Nat.le_refl _, World.alloc_heap_new w _⟩
def partsK (s : List Sp) (k : Nat) : List (List UInt8) := (s.take k).map writeT ++ List.replicate (s.length - k) []
theorem parts_zero (s : List Sp) : partsK s 0 = List.replicate s.length [] := by simp [partsK]
theorem parts_all (s : List Sp) (k : Nat) (h : s.length ≤ k) : partsK s k = s.map writeT := by
  unfold partsK
  rw [List.take_of_length_le h, show s.length - k = 0 by omega]; simp
theorem parts_at (s : List Sp) (k : Nat) (h : k < s.length) : (partsK s k)[k]? = some [] := by
  unfold partsK
  rw [List.getElem?_append_right (by simp; omega), List.getElem?_replicate]
  simp
  omega
theorem parts_step (s : List Sp) (k : Nat) (h : k < s.length) : (partsK s k).set k (writeT s[k]) = partsK s (k + 1) := by
  unfold partsK
  have hl : ((s.take k).map writeT).length = k := by simp; omega
  rw [List.set_append_right _ _ (by omega), hl, Nat.sub_self, List.take_succ_eq_append_getElem h, show s.length - k = (s.length - (k + 1)) + 1 by omega, List.replicate_succ, List.set_cons_zero]
  simp only [List.map_append, List.map_cons, List.map_nil, List.append_assoc, List.cons_append, List.nil_append]
/-- The text of a set. -/
def textL (s : List Sp) : List UInt8 := if s = [] then [110, 111, 110, 101] else Lib.join (s.map writeT) [44]
theorem lens_le : ∀ (xs : List (List UInt8)), (∀ x ∈ xs, x.length ≤ 60) → Lib.lens xs ≤ 60 * xs.length
  | [], _ => by simp [Lib.lens]
  | x :: xs, h => by
    have := lens_le xs (fun y hy => h y (List.mem_cons_of_mem _ hy))
    have := h x List.mem_cons_self
    simp only [Lib.lens, List.map_cons, List.sum_cons, List.length_cons] at *
    omega
theorem join_le (s : List Sp) (h : ∀ p ∈ s, 0 ≤ p.1 ∧ p.1 < p.2 ∧ p.2 ≤ 65536) (hl : s.length ≤ 65536) : (Lib.join (s.map writeT) [44]).length ≤ 10000000 := by
  cases s with
  | nil => simp [Lib.join_nil]
  | cons p s =>
    rw [List.map_cons, Lib.join_length]
    have := lens_le ((p :: s).map writeT) (fun x hx => by
      obtain ⟨q, hq, rfl⟩ := List.mem_map.1 hx
      exact write_len q (h q hq).1 (h q hq).2.1 (h q hq).2.2)
    simp only [List.map_cons, List.length_cons, List.length_map, List.length_nil] at this hl ⊢
    omega

set_option maxRecDepth 100000 in
set_option maxHeartbeats 2000000 in
theorem Text_any (n : Int) (v : Value) (s : List Sp) (w : World) (hA : Spans w v s) (hf : fitL n s = true) (hT : Tab w) :
    Calls Tryd.prog 36 #[v] w fun e w' => e = .returned (.string (ofL (textL s))) ∧ Below w.heap.size w w' := by
  have hl := fit_len hf
  have hf' := fitL_iff.1 hf
  have HB : Hid (∀ p ∈ s, 0 ≤ p.1 ∧ p.1 < p.2 ∧ p.2 ≤ 65536) := fun p hp => by have := fitF_mem hf'.2.2 p hp; omega
  clear hf hf'
  obtain ⟨aa, ca, rfl, hra⟩ := hA
  have HA := hide hra
  have HT := hide hT
  clear hra hT
  by_cases h0 : s = []
  · subst h0
    clear HB HA
    go_enter Tryd.func36, Tryd.ntmps36
    go_wp2_with fail
    go_ret
    exact ⟨rfl, Below.refl _ _⟩
  have hpos : 0 < s.length := by cases s with | nil => exact absurd rfl h0 | cons p s => simp
  have hq : ((s.length : Int) == 0) = false := int_ne0 (by omega)
  obtain ⟨b, off, rfl, hlb, hc⟩ : ∃ b off, aa = some ⟨b, off, none⟩ ∧ b < w.heap.size ∧ SRow w b off s := by
    rcases HA.out with h1 | h1
    · exact absurd h1 h0
    · exact h1
  have HC := hide hc
  have HTX : Hid (textL s = Lib.join (s.map writeT) [44]) := by show _ = _; unfold textL; rw [if_neg h0]
  clear HA hc h0
  have M1 := mkS s.length (by omega)
  go_enter Tryd.func36, Tryd.ntmps36
  go_wp2_with fail
  have B0 := PW.start w (List.replicate s.length [])
  rw [← parts_zero] at B0
  clear M1
  go_loopw [14] (fun x wr => ∃ k : Nat, k ≤ s.length ∧ x = .int .i64 k ∧ PW w w.heap.size (partsK s k) wr) (fun x _ => s.length - (intOf x).toNat)
  case atStart => exact ⟨0, by omega, rfl, B0⟩
  case round =>
    clear B0
    obtain ⟨k, hk, rfl, hW⟩ := hrel
    by_cases hlt : k < s.length
    · have hlt' : (k : Int) < (s.length : Int) := by omega
      obtain ⟨c0, c1⟩ := (HC.out.of_block (hW.bel.block b hlb)) k hlt
      have HN := hide (parts_step s k hlt)
      have hpk := parts_at s k hlt
      have hbd := HB.out s[k] (List.getElem_mem hlt)
      generalize s[k] = p at *
      obtain ⟨x0, x1⟩ := p
      dsimp only at c0 c1 hbd
      have ba : Below wr.heap.size wr (wr.alloc (.cells #[.int .i64 x0, .int .i64 x1] 45)) := (Below.refl _ wr).alloc (Nat.le_refl _) _
      have CW := hide (write_any x0 x1 _ ((HT.out.below (hW.bel)).below ba) hbd.1 hbd.2.1 hbd.2.2)
      have hWa := hW.next ba
      go_wp2_with fail
      refine CW.out.mono ?_
      rintro e w2 ⟨rfl, b2⟩
      have hW2 := hWa.next b2
      have cz := hW2.cell k [] hpk
      have fz := hW2.free k
      have HP := hide (hW2.put k (writeT (x0, x1)))
      generalize ofL (writeT (x0, x1)) = T at *
      go_wp2_with fail
      go_roundw
      case rel => exact ⟨k + 1, by omega, by go_num, by rw [← HN.out]; exact HP.out⟩
      case measure => simp [intOf]; omega
    · have hlt' : ¬ (k : Int) < (s.length : Int) := by omega
      have HE := parts_all s k (by omega)
      rw [HE] at hW
      have HJ := hide (Tryd.strings_Join w.heap.size 0 s.length ((s.map writeT).map ofL) ⟨#[44]⟩ wr (fun j x hx => by
        rw [List.getElem?_map] at hx
        cases hh : (s.map writeT)[j]? with
        | none => rw [hh] at hx; cases hx
        | some t =>
          rw [hh] at hx
          cases hx
          rw [Nat.zero_add]
          exact hW.cell j t hh) hW.lt (by simp; omega) (by simp) (by
        have e : ((s.map writeT).map ofL).map (·.data.toList) = s.map writeT := by
          rw [List.map_map]
          conv => rhs; rw [← List.map_id (s.map writeT)]
          apply List.map_congr_left
          intro t _
          exact ofL_data t
        have := join_le s HB.out (by omega)
        rw [e]
        exact Nat.le_trans this (by decide)))
      have e : ((s.map writeT).map ofL).map (·.data.toList) = s.map writeT := by
        rw [List.map_map]
        conv => rhs; rw [← List.map_id (s.map writeT)]
        apply List.map_congr_left
        intro t _
        exact ofL_data t
      rw [e, List.length_map, List.length_map] at HJ
      go_wp2_with fail
      refine HJ.out.mono ?_
      rintro e w2 ⟨rfl, b2⟩
      go_wp2_with fail
      go_ret
      exact ⟨ret_s (by rw [HTX.out]; rfl), hW.bel.trans (b2.mono hW.bel.size)⟩

end Go.Proofs.YtmpegkcleajhhaaDoor
