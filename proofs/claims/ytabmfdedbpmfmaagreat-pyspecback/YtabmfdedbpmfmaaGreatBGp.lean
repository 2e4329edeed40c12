/-
  A whole clause out of one block into another. · Walks: a clause without an operator.
-/
import Derived.Deep.MidRow
import Derived.Test.YtabmfdedbpmfmaaGreatBGn
import Derived.Deep.Cut
import Derived.Test.YtabmfdedbpmfmaaGreatBPb
import Derived.Test.YtabmfdedbpmfmaaGreatBQb
namespace Go.Proofs.YtabmfdedbpmfmaaGreat
open Go.RowKit Go.Shelf
set_option linter.unusedVariables false

theorem range_block {W : World} {B : Nat} {c : Array Value} {t : TypeId} (h : W.heap[B]? = some (.cells c t (0, 0))) : W.rangeAt B 0 c.toList := fun j v hv => by
  rw [Nat.zero_add]
  exact cell_at j h (by simpa using hv)
theorem there_block {W : World} {B n : Nat} {c : Array Value} {t : TypeId} (h : W.heap[B]? = some (.cells c t (0, 0))) (hn : n ≤ c.size) : W.there B 0 n := fun j hj => by
  rw [Nat.zero_add]
  refine ⟨?_, one_free j h⟩
  rw [cell_at j h (Array.getElem?_eq_getElem (by omega))]
  rfl
theorem setCells_put : ∀ (vs : List Value) (W : World) (B o : Nat), W.setCells B o vs = putL W B o vs
  | [], _, _, _ => rfl
  | v :: vs, W, B, o => setCells_put vs _ B (o + 1)
theorem fill_get : ∀ (vs : List Value) (cs : Array Value) (o i : Nat), o + vs.length ≤ cs.size → (fillA cs o vs)[i]? = if o ≤ i ∧ i < o + vs.length then vs[i - o]? else cs[i]?
  | [], cs, o, i, h => by
    rw [if_neg (by simp only [List.length_nil]; omega)]
    rfl
  | v :: vs, cs, o, i, h => by
    rw [List.length_cons] at h ⊢
    show (fillA (cs.setIfInBounds o v) (o + 1) vs)[i]? = _
    rw [fill_get vs (cs.setIfInBounds o v) (o + 1) i (by simp; omega)]
    by_cases h1 : o + 1 ≤ i ∧ i < o + 1 + vs.length
    · rw [if_pos h1, if_pos (by omega), show i - o = (i - (o + 1)) + 1 by omega, List.getElem?_cons_succ]
    · rw [if_neg h1, Array.getElem?_setIfInBounds]
      by_cases h2 : o = i
      · subst h2
        rw [if_pos rfl, if_pos (by omega), if_pos (by omega), Nat.sub_self, List.getElem?_cons_zero]
      · rw [if_neg h2, if_neg (by omega)]
theorem fill_all (cs : Array Value) (vs : List Value) (h : cs.size = vs.length) : fillA cs 0 vs = vs.toArray := by
  apply Array.ext_getElem?
  intro i
  rw [fill_get vs cs 0 i (by omega), Nat.sub_zero, show vs.toArray[i]? = vs[i]? by simp]
  split
  · rfl
  · rename_i h1
    rw [Array.getElem?_eq_none (by omega), List.getElem?_eq_none (by omega)]
theorem RC.copy {w W : World} {r c : Array Value} (h : RC w W r c) (hr : r.size = c.size) : (W.setCells w.heap.size 0 c.toList).heap[w.heap.size]? = some (.cells c 61 (0, 0)) ∧ Below w.heap.size w (W.setCells w.heap.size 0 c.toList) ∧
    ∀ (u : Value) (ts : List (List UInt8)), Txt W u ts → FreshC (w.heap.size + 2) u → Txt (W.setCells w.heap.size 0 c.toList) u ts := by
  rw [setCells_put]
  have T := putL_turn c.toList W w.heap.size 0
  refine ⟨?_, h.bel.trans (T.below (Nat.le_refl _) h.bel.size), fun u ts h1 h2 => txt_youngC h1 h2 (fun j h3 h4 => T.block j h4 (by omega)) T.size⟩
  have k := putL_heap c.toList W w.heap.size 0 _ _ h.res
  rw [fill_all r c.toList (by simpa using hr)] at k
  simpa using k

end Go.Proofs.YtabmfdedbpmfmaaGreat

namespace Go.Proofs.YtabmfdedbpmfmaaGreat
open Go.RowKit Go.Shelf
set_option linter.unusedVariables false

set_option maxRecDepth 100000 in
set_option maxHeartbeats 8000000 in
theorem readClause_no (s : ByteArray) (a : Nat) (w : World) (hs : s.size ≤ 256) (ha : a ≤ s.size) (h8 : (opGo (s.data.toList.drop a) 8).1 = 8) :
    Calls Tryz.prog 88 #[.string s, .int .i64 (a : Int)] w (ClPost (clP s.data.toList a) w) := by
  have O1 := fun W => readOperator_any s a W hs ha
  have HC : Hid (clP s.data.toList a = ⟨8, pep0, [], false, a, a + (opGo (s.data.toList.drop a) 8).2, misL s.size (a + (opGo (s.data.toList.drop a) 8).2)⟩) := hide (by unfold clP; rw [if_pos h8, len_data])
  rw [HC.out]
  rw [h8, if_pos rfl, if_pos rfl] at O1
  have HM : Hid (misL s.size (a + (opGo (s.data.toList.drop a) 8).2) ≠ 0) := hide (by unfold misL; split <;> decide)
  have n1 : (misL s.size (a + (opGo (s.data.toList.drop a) 8).2) == 0) = false := by have := HM.out; simpa using this
  have hml := (opGo_le (s.data.toList.drop a) 8 (by omega)).2.1
  rw [List.length_drop, len_data] at hml
  generalize misL s.size (a + (opGo (s.data.toList.drop a) 8).2) = er at *
  generalize (opGo (s.data.toList.drop a) 8).2 = m at *
  obtain ⟨p, hp⟩ : ∃ p, a + m = p := ⟨_, rfl⟩
  rw [hp] at O1 ⊢
  have hps : p ≤ s.size := by omega
  clear hp
  change ∀ W, Calls Tryz.prog 115 #[.string s, .int .i64 (a : Int)] W fun e w' => e = .returned (.tuple #[.agg #[.string ⟨#[]⟩, .nilFunc, .nilFunc, .bool false], .int .i64 (p : Int), .int .i64 er]) ∧ Below W.heap.size W w' at O1
  have O1 := hide O1
  clear h8 HC
  have R0 := RC.start w a
  go_enter Tryz.func88, Tryz.ntmps88
  go_wp2_with fail
  generalize (w.alloc _).alloc _ = V0 at *
  refine (O1.out _).mono ?_
  rintro e w1 ⟨rfl, b1⟩
  have R2 := R0.below b1
  obtain ⟨x0, x1, x2, x3, x4, x5, x6, x7, x8, x9, x10, x11, x12, x13, x14, x15, x16, x17, x_0, x_1, x_2, x_3, x_4, x_5, x_6, x_7, x_8, x_9, x_10, x_11, x_12, x_13, x_14, x_15, x_16, x_17⟩ := seen18v R2.top
  obtain ⟨W6, hW6, R6, _⟩ := R2.op6 (.string ⟨#[]⟩) .nilFunc .nilFunc (.bool false) (.int .i64 (p : Int)) (.int .i64 er)
  have HW6 := hide hW6
  have HR6 := hide R6
  clear R0 R2 b1 O1 hW6 R6
  go_upto_region 3 with fail
  rw [← HW6.out]
  clear x0 x_0 x1 x_1 x2 x_2 x3 x_3 x4 x_4 x5 x_5 x6 x_6 x7 x_7 x8 x_8 x9 x_9 x10 x_10 x11 x_11 x12 x_12 x13 x_13 x14 x_14 x15 x_15 x16 x_16 x17 x_17 HW6
  obtain ⟨x0, x1, x2, x3, x4, x5, x6, x7, x8, x9, x10, x11, x12, x13, x14, x15, x16, x17, x_0, x_1, x_2, x_3, x_4, x_5, x_6, x_7, x_8, x_9, x_10, x_11, x_12, x_13, x_14, x_15, x_16, x_17⟩ := seen18v HR6.out.top
  obtain ⟨C9, B9, _⟩ := HR6.out.copy rfl
  have HC9 := hide C9
  have HB9 := hide B9
  have RG := hide (range_block HR6.out.top)
  have TH := hide (there_block (n := 18) HR6.out.res (Nat.le_refl _))
  clear C9 B9
  go_upto_region 7 with fail
  refine wp_region_lit (wpList_load_mid rfl 61 (.tmp 5) rfl (w.heap.size + 1) 0 rfl _ _ RG.out Tryz.underlying61 rfl size61 ?_)
  refine wpList_store_mid rfl 61 (.tmp 4) (.tmp 49) rfl w.heap.size 0 _ rfl rfl TH.out size61 (by simp [Value.oneCell']) (wpList_nil ?_)
  trace_state
  go_wp2_with fail
  refine fin88 _ _ w.heap.size _ rfl rfl HC9.out ?_
  exact clpost_no a p er HB9.out

end Go.Proofs.YtabmfdedbpmfmaaGreat
