/-
  Walks: a byte's weight; a row of a part; the iterator over two parts, row by row.
-/
import Derived.Test.YthojcidbhojlhaaDd
import Derived.RangeFuncNested
import Derived.RangeFuncBound
import Derived.RangeFuncCalls
import Derived.RangeFuncLeaves
import Derived.Shelf.Abstract
import Derived.Shelf.RegionOpen
import Derived.OwnWalkIn
import Derived.TacticsInMore
import Derived.LoopNIn
import Derived.LoopIn
import Derived.Sort.QuietIn
namespace Go.Proofs.Ythojcidbhojlhaa
open Go.RowKit Go.Shelf
set_option linter.unusedVariables false

attribute [local go_sem] Oper.semAt_some

set_option maxHeartbeats 400000 in
theorem weight_any (s : ByteArray) (i : Nat) (w : World) (hs : s.size ≤ 9223372036854775000) :
    Calls Try.prog 42 #[.string s, .int .i64 (i : Int)] w fun e w' => e = .returned (.int .i64 (wtL s.data.toList i)) ∧ w' = w := by
  by_cases h : i < s.size
  · have hn : ¬ (s.size : Int) ≤ (i : Int) := by omega
    have hi : (i : Int) < (s.size : Int) := by omega
    have HW : Hid (wtL s.data.toList i = wtB s[i]) := by show _ = _; unfold wtL; rw [if_pos (by rw [len_data]; exact h), getD_at s i h]
    have hW : wtB s[i] = if s[i] = 126 then -1 else if isC (s[i].toNat : Int) 4 then (s[i].toNat : Int) else 256 + (s[i].toNat : Int) := rfl
    by_cases h1 : s[i] = 126
    · have hb : ((s[i].toNat : Int) == 126) = true := by rw [h1]; rfl
      rw [if_pos h1] at hW
      have HV := hide hW
      clear h1 hW
      go_enter Try.func42, Try.ntmps42
      go_wp2_with fail
      go_ret
      exact ⟨ret_i (by rw [HW.out, HV.out]), rfl⟩
    · have hb : ((s[i].toNat : Int) == 126) = false := by
        have : s[i].toNat ≠ 126 := fun e => h1 (UInt8.toNat_inj.1 e)
        simp; omega
      rw [if_neg h1] at hW
      have hlt := s[i].toNat_lt
      by_cases h4 : isC (s[i].toNat : Int) 4 = true
      · rw [if_pos h4] at hW
        have HV := hide hW
        clear h1 hW
        go_enter Try.func42, Try.ntmps42
        go_wp2_with fail
        refine (Is_any _ _ _).mono ?_
        rintro e w' ⟨rfl, rfl⟩
        go_wp2_with fail
        go_ret
        exact ⟨ret_i (by rw [HW.out, HV.out]), rfl⟩
      · have h4' : isC (s[i].toNat : Int) 4 = false := by simpa using h4
        rw [if_neg h4] at hW
        have HV := hide hW
        clear h1 hW h4
        go_enter Try.func42, Try.ntmps42
        go_wp2_with fail
        refine (Is_any _ _ _).mono ?_
        rintro e w' ⟨rfl, rfl⟩
        go_wp2_with fail
        go_ret
        exact ⟨ret_i (by rw [HW.out, HV.out] <;> first | rfl | omega), rfl⟩
  · have hn : (s.size : Int) ≤ (i : Int) := by omega
    have HW : Hid (wtL s.data.toList i = 0) := by show _ = _; exact wtL_out _ _ (by rw [len_data]; omega)
    go_enter Try.func42, Try.ntmps42
    go_wp2_with fail
    go_ret
    exact ⟨ret_i (by rw [HW.out]), rfl⟩

/-- How many bytes that are no digits a list begins with. -/
def ndL (l : List UInt8) : Nat := (wordL l).length
theorem ndL_hit (s : ByteArray) (i : Nat) (h : i < s.size) (hc : isC (s[i].toNat : Int) 1 = false) : ndL (s.data.toList.drop i) = ndL (s.data.toList.drop (i + 1)) + 1 := by
  rw [drop_at s i h]; simp [ndL, wordL, hc]
theorem ndL_miss (s : ByteArray) (i : Nat) (h : i < s.size) (hc : isC (s[i].toNat : Int) 1 = true) : ndL (s.data.toList.drop i) = 0 := by
  rw [drop_at s i h]; simp [ndL, wordL, hc]
theorem ndL_end (s : ByteArray) (i : Nat) (h : s.size ≤ i) : ndL (s.data.toList.drop i) = 0 := by
  rw [drop_end s i h]; simp [ndL, wordL]
theorem wordL_take (l : List UInt8) : wordL l = l.take (ndL l) := by
  unfold ndL wordL
  induction l with
  | nil => rfl
  | cons c r ih =>
    rw [List.takeWhile_cons]
    split
    · simp only [List.length_cons, List.take_succ_cons]; rw [← ih]
    · simp

/-- A row as a value. -/
def rowV (l : List UInt8) : Value := .agg #[.string (ofL (wordL l)), .string (ofL (digsL l))]

theorem two57 {W : World} {B : Nat} {x0 x1 : Value} (a b : Value) (h : W.heap[B]? = some (.cells #[x0, x1] 57 (0, 0))) :
    ((W.setCell ⟨B, 0, none⟩ a).setCell ⟨B, 1, none⟩ b).heap[B]? = some (.cells #[a, b] 57 (0, 0)) := by
  have h0 : (W.setCell ⟨B, 0, none⟩ a).heap[B]? = some (.cells #[a, x1] 57 (0, 0)) := set_lies 0 a h
  exact set_lies 1 b h0

theorem fin57 {R : Ending → World → Prop} (tmps : Array Value) (W : World) (B : Nat) (a b c : ByteArray)
    (h2 : tmps.getD 2 undef = .pointer (some ⟨B, 0, none⟩)) (h3 : tmps.getD 3 undef = .string c)
    (e1 : W.heap[B]? = some (.cells #[.string a, .string b] 57 (0, 0)))
    (hR : R (.returned (.tuple #[.agg #[.string a, .string b], .string c])) W) :
    bodyPost Try.prog Try.f40 R .ret { tmps := tmps, defers := [] } W := by
  have r0 := cell_at 0 e1 rfl
  have r1 := cell_at 1 e1 rfl
  rw [Array.getD_eq_getD_getElem?] at h2 h3
  refine ⟨rfl, _, ?_, hR⟩
  simp [results, Try.results40, go_sem, h2, h3, r0, r1]
  try rfl

set_option maxRecDepth 100000 in
set_option maxHeartbeats 1000000 in
theorem cutTurn_any (s : ByteArray) (w : World) (hs : s.size ≤ maxLen) :
    Calls Try.prog 40 #[.string s] w fun e w' => e = .returned (.tuple #[rowV s.data.toList, .string (ofL (restL s.data.toList))]) ∧ Below w.heap.size w w' := by
  have hrl := runs_le s.data.toList
  rw [len_data] at hrl
  have R := fun w => Run_any s (ndL s.data.toList : Int) 1 w hs
  unfold maxLen at hs
  have hnd : ndL s.data.toList ≤ s.size := by have := wordL_le s.data.toList; rw [len_data] at this; exact this
  have hrI : runI s.data.toList (ndL s.data.toList : Int) 1 = ((ndL s.data.toList + runL 1 (s.data.toList.drop (ndL s.data.toList)) : Nat) : Int) := by rw [runI_in s _ 1 hnd]; omega
  rw [hrI] at R
  have HV : Hid (rowV s.data.toList = .agg #[.string (s.extract 0 (ndL s.data.toList)), .string (s.extract (ndL s.data.toList) (ndL s.data.toList + runL 1 (s.data.toList.drop (ndL s.data.toList))))]) := by
    show _ = _
    unfold rowV
    rw [wordL_take, extract_seg, extract_seg, seg_run, digsL]
    simp [seg, ndL]
  have HR : Hid (ofL (restL s.data.toList) = s.extract (ndL s.data.toList + runL 1 (s.data.toList.drop (ndL s.data.toList))) s.size) := by
    show _ = _
    rw [extract_end]; rfl
  change ndL s.data.toList + runL 1 (s.data.toList.drop (ndL s.data.toList)) ≤ _ at hrl
  have R := hide R
  generalize rowV s.data.toList = V at *
  generalize ofL (restL s.data.toList) = RS at *
  clear hrI
  have hE : ndL s.data.toList ≤ ndL s.data.toList + runL 1 (s.data.toList.drop (ndL s.data.toList)) := Nat.le_add_right _ _
  generalize ndL s.data.toList + runL 1 (s.data.toList.drop (ndL s.data.toList)) = E at *
  generalize hM : ndL s.data.toList = M at *
  have HM := hide hM
  clear hM
  go_enter Try.func40, Try.ntmps40
  go_wp2_with fail
  go_loop [4] (fun i => ∃ j : Nat, j ≤ s.size ∧ i = .int .i64 j ∧ Hid (M = j + ndL (s.data.toList.drop j))) (fun i => s.size - (intOf i).toNat)
  case atStart => exact ⟨0, by omega, rfl, by show _ = _; rw [← HM.out]; simp⟩
  case round =>
    obtain ⟨j, hj, rfl, HJ⟩ := hrel
    by_cases hlt : j < s.size
    · have hlt' : (j : Int) < (s.size : Int) := by omega
      cases hc : isC (s[j].toNat : Int) 1
      · have H1 : Hid _ := ndL_hit s j hlt hc
        go_wp2_with fail
        refine (Is_any _ _ _).mono ?_
        rintro e w' ⟨rfl, rfl⟩
        go_wp2_with fail
        go_round
        case rel => exact ⟨j + 1, by omega, by go_num, by have a := HJ.out; have b := H1.out; show _ = _; omega⟩
        case measure => simp [intOf]; omega
      · obtain rfl : M = j := by have a := HJ.out; have b := ndL_miss s j hlt hc; omega
        clear HJ
        have h1 : (M : Int) ≤ (E : Int) := by omega
        have h2 : (E : Int) ≤ (s.size : Int) := by omega
        have h0 : (0 : Int) ≤ (M : Int) := by omega
        have hB := World.alloc_heap_new w (.cells #[.string ⟨#[]⟩, .string ⟨#[]⟩] 57)
        go_wp2_with fail
        refine (Is_any _ _ _).mono ?_
        rintro e w' ⟨rfl, hw'⟩
        rw [hw']
        clear hw' w'
        go_wp2_with fail
        refine (R.out _).mono ?_
        rintro e w' ⟨rfl, hw'⟩
        rw [hw']
        clear hw' w'
        go_wp2_with fail
        go_region
        go_wp2_with fail
        refine fin57 _ _ w.heap.size (s.extract 0 M) (s.extract M E) (s.extract E s.size) rfl rfl ?_ ?_
        · exact World.alloc_heap_new w _
        · exact ⟨by rw [HV.out, HR.out], ((Below.refl _ w).alloc (Nat.le_refl _) _).drew⟩
    · obtain rfl : M = j := by have a := HJ.out; have b := ndL_end s j (by omega); omega
      clear HJ
      have hlt' : ¬ (M : Int) < (s.size : Int) := by omega
      have h1 : (M : Int) ≤ (E : Int) := by omega
      have h2 : (E : Int) ≤ (s.size : Int) := by omega
      have h0 : (0 : Int) ≤ (M : Int) := by omega
      go_wp2_with fail
      refine (R.out _).mono ?_
      rintro e w' ⟨rfl, hw'⟩
      rw [hw']
      clear hw' w'
      go_wp2_with fail
      go_region
      go_wp2_with fail
      refine fin57 _ _ w.heap.size (s.extract 0 M) (s.extract M E) (s.extract E s.size) rfl rfl ?_ ?_
      · exact World.alloc_heap_new w _
      · exact ⟨by rw [HV.out, HR.out], ((Below.refl _ w).alloc (Nat.le_refl _) _).drew⟩

theorem cutTurn_row (l : List UInt8) (w : World) (hs : l.length ≤ maxLen) :
    Calls Try.prog 40 #[.string (ofL l)] w fun e w' => e = .returned (.tuple #[rowV l, .string (ofL (restL l))]) ∧ Below w.heap.size w w' := by
  have := cutTurn_any (ofL l) w (by rw [ofL_size]; exact hs)
  rwa [ofL_data] at this

end Go.Proofs.Ythojcidbhojlhaa
