/-
  Walks: Parse, Valid. · Walks: whether rows of clauses are equal; Format. · Walks: whether some clause is so. · Walks: a product of two words, room for a row.
-/
import Derived.Deep.Cut
import Derived.Test.YtabmfdedbpmfmaaGreatBHq
import Derived.Test.YtabmfdedbpmfmaaGreatBHu
import Derived.Test.YtabmfdedbpmfmaaGreatBGn
import Derived.Lib.AppendZerosOnto
import Derived.Laws.Bits64b
import Derived.Laws.CopyOwn
import Derived.OwnWalk
import Derived.Test.YtabmfdedbpmfmaaGreatBHf
import Derived.Test.YtabmfdedbpmfmaaGreatBQb
namespace Go.Proofs.YtabmfdedbpmfmaaGreat
open Go.RowKit Go.Shelf
set_option linter.unusedVariables false

theorem fin9 {R : Ending → World → Prop} (tmps : Array Value) (W : World) (B : Nat) (v c0 c1 : Value) (h2 : tmps.getD 2 undef = v) (h3 : tmps.getD 3 undef = .pointer (some ⟨B, 0, none⟩))
    (e1 : W.heap[B]? = some (.cells #[c0, c1] 25 (0, 0))) (hR : R (.returned (.tuple #[v, .agg #[c0, c1]])) W) : bodyPost Tryz.prog Tryz.f9 R .ret { tmps := tmps, defers := [] } W := by
  have r0 := cell_at 0 e1 rfl
  have r1 := cell_at 1 e1 rfl
  rw [Array.getD_eq_getD_getElem?] at h2 h3
  refine ⟨rfl, _, ?_, hR⟩
  simp [results, Tryz.results9, go_sem, h2, h3, r0, r1]
  try rfl
theorem flat_at {α β : Type} (f : α → List β) (k : Nat) : ∀ (l : List α), (∀ x ∈ l, (f x).length = k) → ∀ i (h : i < l.length) j, j < k → (l.flatMap f)[i * k + j]? = (f l[i])[j]?
  | [], _, i, h, _, _ => by cases h
  | x :: l, hk, 0, h, j, hj => by
    rw [List.flatMap_cons, Nat.zero_mul, Nat.zero_add, List.getElem?_append_left (by rw [hk x (by simp)]; exact hj)]
    rfl
  | x :: l, hk, i + 1, h, j, hj => by
    rw [List.flatMap_cons, List.getElem?_append_right (by rw [hk x (by simp), Nat.succ_mul]; omega), hk x (by simp), show (i + 1) * k + j - k = i * k + j by rw [Nat.succ_mul]; omega]
    exact flat_at f k l (fun y hy => hk y (by simp [hy])) i (by simpa using h) j hj
theorem pyGo_len (l : List UInt8) : ∀ n a acc, n + acc.length = 33 → (pyGo l n a acc).2.2.length ≤ 33
  | 0, a, acc, h => by unfold pyGo; simp
  | n + 1, a, acc, h => by
    unfold pyGo
    split
    · simp
    · split
      · simp
      · split
        · exact pyGo_len l n _ _ (by simp; omega)
        · simp; omega
theorem pyL_len (l : List UInt8) : (pyL l).2.2.length ≤ 33 := by
  unfold pyL
  split
  · simp
  · split
    · simp
    · exact pyGo_len l 33 0 [] rfl
theorem ClsV.at_ {Z : Nat} {W : World} {v : Value} {its : List It} (h : ClsV Z W v its) : ∃ a c, v = .slice a its.length c ∧ ∀ i (hi : i < its.length), ∃ g, a = some ⟨g, 0, none⟩ ∧ W.rangeAt g (i * 18) (clL its[i]) := by
  obtain ⟨a, c, rfl, h0⟩ := ownA_cells h.1
  refine ⟨a, c, rfl, fun i hi => ?_⟩
  rcases h0 with h0 | ⟨g, rfl, _, hg⟩
  · omega
  · refine ⟨g, rfl, fun j u hj => hg _ _ ?_⟩
    rw [flat_at clL 18 its (fun x _ => rfl) i hi j (by have := (List.getElem?_eq_some_iff.1 hj).1; rw [clL_len] at this; exact this)]
    exact hj
theorem ClsV.below {Z : Nat} {W W' : World} {v : Value} {its : List It} (h : ClsV Z W v its) (hb : Below W.heap.size W W') : ClsV Z W' v its := h.keep (keepA_below hb)
theorem plainc_any {x : It} {W : World} {A : Nat → Prop} (h : TxC A W x) (w : World) : Calls Tryz.prog 30 #[.agg (clV x.1 x.2.1 x.2.2)] w fun e w' => e = .returned (.agg #[.string (ofL (sgn x.1.k)), .string (ofL x.1.t), .bool x.1.st]) ∧ Below w.heap.size w w' := by
  obtain ⟨x1, x2, x3⟩ := x
  obtain ⟨⟨r1, c1, h1, _⟩, ⟨q1, d1, h2, _⟩, _, _⟩ := h
  dsimp only at h1 h2
  subst h1
  subst h2
  exact plain_cl x1.x r1 q1 c1 d1 _ _ _ _ _ _ _ _ _ w
variable {ops : Array Oper} {rest : List Oper} {op : Oper} {a : Act} {w : World} {Q : Exit → Act → World → Prop}
theorem wpList_alloc61 (hgd : op.guard = none) (ho : op.op = .alloc 61) (h : wpList Tryz.prog ops Q rest (a.put op.dst (.pointer (some ⟨w.heap.size, 0, none⟩))) (w.alloc (.cells Z61 61))) : wpList Tryz.prog ops Q (op :: rest) a w := by
  refine wpList_plain hgd fun K hK => ?_
  unfold Oper.wp
  simp only [execOp, ho, Sem.run_bind, Sem.run_pure, Result.andThen_ok, run_alloc61]
  exact hK _ _ h

set_option maxRecDepth 100000 in
set_option maxHeartbeats 8000000 in
theorem Parse9_any (s : ByteArray) (w : World) : Calls Tryz.prog 9 #[.string s] w (PfPost (pyL s.data.toList) w) := by
  have RC := hide (fun W => readClauses_any s W)
  have hlen := pyL_len s.data.toList
  generalize pyL s.data.toList = G at *
  obtain ⟨er, p, cs⟩ := G
  have hB := World.alloc_heap_new w (.cells #[.int .i64 0, .int .i64 0] 25)
  have hbW : Below w.heap.size w (w.alloc (.cells #[.int .i64 0, .int .i64 0] 25)) := (Below.refl _ w).alloc (Nat.le_refl _) _
  have hlw : w.heap.size + 1 = (w.alloc (.cells #[.int .i64 0, .int .i64 0] 25)).heap.size := by simp
  obtain ⟨i0, hi0, hz0, hz1, hz2⟩ := info_parts info32
  go_enter Tryz.func9, Tryz.ntmps9
  go_wp2_with fail
  generalize w.alloc _ = W0 at *
  refine (RC.out _).mono ?_
  rintro e w1 ⟨b1, v, rfl, its, hits, hv⟩
  dsimp only at hits
  subst hits
  have hl33 : its.length ≤ 33 := by simpa using hlen
  clear hlen
  rw [← hlw] at hv
  have n5 := World.alloc_heap_new w1 (.cells #[.int .i64 er, .int .i64 (p : Int)] 25)
  have hal : Below w1.heap.size w1 (w1.alloc (.cells #[.int .i64 er, .int .i64 (p : Int)] 25)) := (Below.refl _ w1).alloc (Nat.le_refl _) _
  have hB1 := (hal.block _ (Nat.lt_of_lt_of_le (by omega) b1.size)).trans ((b1.block _ (by omega)).trans hB)
  have hb1 := (hbW.trans (b1.mono (by omega))).trans (hal.mono (Nat.le_trans (by omega) b1.size))
  have HV := hide (hv.below hal)
  obtain ⟨av, cv, rfl, _⟩ := hv.at_
  have hsz : w1.heap.size + 1 = (w1.alloc (.cells #[.int .i64 er, .int .i64 (p : Int)] 25)).heap.size := by simp
  have hwz : w.heap.size < w1.heap.size := by have := b1.size; omega
  clear hv b1 hal hB hbW hlw
  go_upto_region 3 with fail
  generalize w1.alloc _ = V at *
  have HB1 := hide hB1
  have HBL := hide hb1
  have HN5 := hide n5
  clear hB1 hb1 n5
  go_wp2_with fail
  go_loopw [6, 16] (fun x y wr => ∃ i : Nat, i ≤ its.length ∧ y = .int .i64 i ∧ Hid (wr.ownsRow V.heap.size 32 3 x i ((its.take i).flatMap fun t => plL t.1)) ∧ Below V.heap.size V wr) (fun _ y _ => its.length - (intOf y).toNat)
  case atStart => exact ⟨0, Nat.zero_le _, rfl, hide (World.ownsRow_nil _ _ _ _), Below.refl _ _⟩
  case round =>
    obtain ⟨i, hi, rfl, HO, hb⟩ := hrel
    by_cases hin : i < its.length
    · have hin' : (i : Int) < (its.length : Int) := by omega
      obtain ⟨av', cv', he, hA⟩ := (HV.out.below hb).at_
      cases he
      obtain ⟨g, rfl, hr⟩ := hA i hin
      have hx := (HV.out.below hb).2 its[i] (List.getElem_mem _)
      have HR := hide hr
      have HX := hide hx
      clear hr hx hA
      go_upto_region 5 with fail
      refine wp_region_lit ?_
      go_step
      go_step
      go_step
      refine wpList_load_mid rfl 61 (.tmp 18) rfl g (i * 18) rfl _ _ HR.out Tryz.underlying61 rfl size61 ?_
      refine wpList_alloc61 rfl rfl ?_
      have hZ := World.alloc_heap_new wr (.cells Z61 61)
      have hone := all_oneCell_toArray (clV_one HX.out.1 HX.out.2.1)
      refine wpList_store_mid rfl 61 (.tmp 8) (.tmp 19) rfl wr.heap.size 0 (clV its[i].1 its[i].2.1 its[i].2.2) rfl rfl (there_block hZ (Nat.le_refl _)) size61 (by simpa using hone) (wpList_nil ?_)
      have hT := putL_turn (clV its[i].1 its[i].2.1 its[i].2.2).toList (wr.alloc (.cells Z61 61)) wr.heap.size 0
      have hh := putL_heap (clV its[i].1 its[i].2.1 its[i].2.2).toList (wr.alloc (.cells Z61 61)) wr.heap.size 0 _ _ hZ
      rw [fill_all Z61 (clV its[i].1 its[i].2.1 its[i].2.2).toList rfl] at hh
      have hba : Below wr.heap.size wr (wr.alloc (.cells Z61 61)) := (Below.refl _ wr).alloc (Nat.le_refl _) _
      have hb2 := hba.trans (hT.below (Nat.le_refl _) hba.size)
      rw [setCells_put]
      have HH : Hid ((putL (wr.alloc (.cells Z61 61)) wr.heap.size 0 (clV its[i].1 its[i].2.1 its[i].2.2).toList).heap[wr.heap.size]? = some (.cells (clV its[i].1 its[i].2.1 its[i].2.2) 61 (0, 0))) := hide (by simpa using hh)
      generalize hW2 : putL (wr.alloc (.cells Z61 61)) wr.heap.size 0 (clV its[i].1 its[i].2.1 its[i].2.2).toList = W2 at *
      have HB2 := hide hb2
      have PL := hide (fun W => plainc_any HX.out W)
      clear hZ hone hT hh hba hb2 hW2
      go_upto_region 6 with fail
      refine wp_region_lit ?_
      go_step
      go_step
      go_step
      refine wpList_load_mid rfl 61 (.tmp 8) rfl wr.heap.size 0 rfl _ _ (range_block HH.out) Tryz.underlying61 rfl size61 ?_
      go_wp2_with fail
      refine (PL.out _).mono ?_
      rintro e w4 ⟨rfl, b4⟩
      have hbA : Below wr.heap.size wr (w4.alloc (.cells #[.string (ofL (sgn its[i].1.k)), .string (ofL its[i].1.t), .bool its[i].1.st] 32)) := (HB2.out.trans (b4.mono HB2.out.size)).trans ((Below.refl _ w4).alloc (Nat.le_refl _) _ |>.mono (Nat.le_trans HB2.out.size b4.size))
      have HUA := hide (ownA_keep (A := fun _ => True) HO.out (keepA_below hbA) (fun _ _ => trivial))
      have HBA := hide (hb.trans (hbA.mono hb.size))
      have HNW : Hid (∀ j u, (plL its[i].1)[j]? = some u → (w4.alloc (.cells #[.string (ofL (sgn its[i].1.k)), .string (ofL its[i].1.t), .bool its[i].1.st] 32)).cell? ((⟨w4.heap.size, 0, none⟩ : Addr).add j) = some u) := hide (fun j u h => news_at w4 #[.string (ofL (sgn its[i].1.k)), .string (ofL its[i].1.t), .bool its[i].1.st] 32 j u h)
      have HTK : Hid ((its.take (i + 1)).flatMap (fun t => plL t.1) = (its.take i).flatMap (fun t => plL t.1) ++ plL its[i].1) := hide (by rw [List.take_succ_eq_append_getElem hin, List.flatMap_append]; simp)
      clear hbA b4
      go_wp2_with (at_builtin; refine wpList_append_own _ rfl _ _ 22 rfl V.heap.size 32 i0 (.agg #[.string ⟨#[]⟩, .string ⟨#[]⟩, .bool false]) 3 40 Tryz.underlying22 hi0 hz0 hz1 hz2 rfl (by decide) _ _ _ rfl HUA.out ⟨w4.heap.size, 0, none⟩ 1 1 (plL its[i].1) rfl rfl HNW.out (plL_one _) (by unfold maxLen; omega) (by omega) HBA.out.size ?_; intro v' w5 hown' hgrow _; have HB5 := hide (HBA.out.trans (own_below HUA.out HBA.out.size hgrow)); have HO5 := hide hown'; clear hown' hgrow)
      go_roundw
      case rel => exact ⟨i + 1, by omega, by go_num, by rw [HTK.out]; exact HO5, HB5.out⟩
      case measure => simp [intOf]; omega
    · have hin' : ¬ (i : Int) < (its.length : Int) := by omega
      obtain rfl : i = its.length := by omega
      have n5 := (hb.block _ (by omega)).trans HN5.out
      have n1 := (hb.block _ (by omega)).trans HB1.out
      have x0 := cell_at 0 n5 rfl
      have x1 := cell_at 1 n5 rfl
      have y0 := cell_at 0 n1 rfl
      have y1 := cell_at 1 n1 rfl
      have z0 := one_free 0 n1
      have z1 := one_free 1 n1
      have hne : w1.heap.size ≠ w.heap.size := by omega
      have HN1 := hide n1
      rw [List.take_length] at HO
      have HBW := hide (HBL.out.trans (hb.mono HBL.out.size))
      clear n5 n1
      go_wp2_with fail
      go_region
      all_goals
        go_wp2_with fail
        have e5 := set_lies 1 (.int .i64 (p : Int)) (set_lies 0 (.int .i64 er) HN1.out)
        refine fin9 _ _ w.heap.size _ _ _ rfl rfl e5 ?_
        have hT : Turn w.heap.size wr ((wr.setCell ⟨w.heap.size, 0, none⟩ (.int .i64 er)).setCell ⟨w.heap.size, 1, none⟩ (.int .i64 (p : Int))) := (Turn.set w.heap.size 0 wr _).trans (Turn.set w.heap.size 1 _ _)
        have hT2 : Turn w.heap.size wr ((wr.setCell ⟨w.heap.size, 0, none⟩ (.int .i64 er)).setCell ⟨w.heap.size, 1, none⟩ (.int .i64 (p : Int))).drew := hT.trans (Turn.drewN _ _ 1)
        have hV : w.heap.size < V.heap.size := by omega
        have ho : wr.ownsRow V.heap.size 32 3 u6 (its.map Prod.fst).length ((its.map Prod.fst).flatMap plL) := by
          rw [List.length_map, List.flatMap_map]
          exact HO.out
        exact ⟨HBW.out.trans (hT2.below (Nat.le_refl _) HBW.out.size), u6, rfl, (py_own ho).young (own_fresh ho) (fun j h3 h4 => hT2.block j h4 (by omega)) hT2.size, (own_fresh ho).mono (Nat.le_of_lt hV)⟩

end Go.Proofs.YtabmfdedbpmfmaaGreat

namespace Go.Proofs.YtabmfdedbpmfmaaGreat
open Go.RowKit Go.Shelf
set_option linter.unusedVariables false

theorem ofL_eq (a b : List UInt8) : ((ofL a).toList == (ofL b).toList) = (a == b) := by rw [toL, toL, ofL_data, ofL_data]
set_option maxRecDepth 100000 in
set_option maxHeartbeats 4000000 in
theorem Equal33_any (v v' : Value) (qs rs : List Tri) (w : World) (h1 : TriAt w v qs) (h2 : TriAt w v' rs) (hl : qs.length ≤ 9000000000000000000) :
    Calls Tryz.prog 33 #[v, v'] w fun e w' => e = .returned (.bool (decide (qs = rs))) ∧ Below w.heap.size w w' := by
  obtain ⟨a, c1, rfl, _⟩ := id h1
  obtain ⟨b, c2, rfl, _⟩ := id h2
  by_cases hlen : qs.length = rs.length
  · have H1 := hide h1
    have H2 := hide h2
    have HL := hide hlen
    clear h1 h2
    rw [← hlen]
    clear hlen
    have hnn : ((qs.length : Int) != (qs.length : Int)) = false := by simp
    go_enter Tryz.func33, Tryz.ntmps33
    go_wp2_with fail
    go_loopw [13] (fun x wr => ∃ i : Nat, i ≤ qs.length ∧ x = .int .i64 i ∧ Hid (qs.take i = rs.take i) ∧ Below w.heap.size w wr) (fun x _ => qs.length - (intOf x).toNat)
    case atStart => exact ⟨0, Nat.zero_le _, rfl, hide rfl, Below.refl _ _⟩
    case round =>
      obtain ⟨i, hi, rfl, HT, hb⟩ := hrel
      by_cases hin : i < qs.length
      · have hin' : (i : Int) < (qs.length : Int) := by omega
        have hin2 : i < rs.length := by rw [← HL.out]; exact hin
        obtain ⟨_, _, he1, hA⟩ := (H1.out.below hb)
        obtain ⟨_, _, he2, hB⟩ := (H2.out.below hb)
        obtain ⟨g1, o1, hg1, _, p0, p1, p2⟩ := hA i hin
        obtain ⟨g2, o2, hg2, _, q0, q1, q2⟩ := hB i hin2
        cases he1
        cases he2
        subst hg1
        subst hg2
        clear hA hB
        have HN : Hid (qs[i] = rs[i] → qs.take (i + 1) = rs.take (i + 1)) := hide (fun h => by rw [List.take_succ_eq_append_getElem hin, List.take_succ_eq_append_getElem hin2, HT.out, h])
        have HM : Hid (qs[i] ≠ rs[i] → decide (qs = rs) = false) := hide (fun h => by simp only [decide_eq_false_iff_not]; rintro rfl; exact h rfl)
        generalize qs[i] = X at *
        generalize rs[i] = Y at *
        obtain ⟨X0, X1, X2⟩ := X
        obtain ⟨Y0, Y1, Y2⟩ := Y
        dsimp only at p0 p1 p2 q0 q1 q2
        have e0 := ofL_eq X0 Y0
        have e1 := ofL_eq X1 Y1
        have HX : Hid ((X0 == Y0) = true ∧ (X1 == Y1) = true ∧ X2 = Y2 → (X0, X1, X2) = (Y0, Y1, Y2)) := hide (fun ⟨a, b, c⟩ => by rw [beq_iff_eq] at a b; rw [a, b, c])
        have HY : Hid ((X0, X1, X2) = (Y0, Y1, Y2) → (X0 == Y0) = true ∧ (X1 == Y1) = true ∧ X2 = Y2) := hide (fun h => by cases h; simp)
        generalize (X0 == Y0) = E0 at *
        generalize (X1 == Y1) = E1 at *
        have hlt : wr.heap.size = wr.heap.size := rfl
        cases E0 <;> cases E1 <;> cases X2 <;> cases Y2
        all_goals
          go_wp2_with fail
          go_quiet (fail)
          have hb' : Below w.heap.size w (wr.drewN nq) := hb.trans ((below_drewN _ _ _).mono hb.size)
          generalize wr.drewN nq = W9 at *
          go_wp2_with fail
          first
            | (go_ret
               exact ⟨by rw [HM.out (fun h => by have := HY.out h; simp at this)]; rfl, hb'⟩)
            | (go_roundw
               case rel => exact ⟨i + 1, by omega, by go_num, hide (HN.out (HX.out (by simp))), hb'⟩
               case measure => simp [intOf]; omega)
      · have hin' : ¬ (i : Int) < (qs.length : Int) := by omega
        obtain rfl : i = qs.length := by omega
        have HE : Hid (decide (qs = rs) = true) := hide (by have := HT.out; rw [List.take_length, List.take_of_length_le (by rw [HL.out]; omega)] at this; simp [this])
        go_wp2_with fail
        go_ret
        exact ⟨by rw [HE.out]; rfl, hb⟩
  · have hnn : ((qs.length : Int) != (rs.length : Int)) = true := by simp; omega
    have HE : Hid (decide (qs = rs) = false) := hide (by simp only [decide_eq_false_iff_not]; rintro rfl; exact hlen rfl)
    have hne : ¬ (qs.length : Int) = (rs.length : Int) := by omega
    clear h1 h2
    go_enter Tryz.func33, Tryz.ntmps33
    go_wp2_with fail
    go_ret
    exact ⟨by rw [HE.out]; rfl, Below.refl _ _⟩

def fmtT (qs : List Tri) : List UInt8 := if (pyL (joinT qs)).2.2.map triC = qs then joinT qs else []
set_option maxRecDepth 100000 in
set_option maxHeartbeats 4000000 in
theorem Format14_any (v : Value) (qs : List Tri) (w : World) (hv : TriAt w v qs) (hs : SmallT qs) :
    Calls Tryz.prog 14 #[v] w fun e w' => e = .returned (.string (ofL (fmtT qs))) ∧ Below w.heap.size w w' := by
  have P32 := hide (write32_any v qs w hv hs)
  have P9 := hide (fun W => Parse9_any (ofL (joinT qs)) W)
  rw [ofL_data] at P9
  have HL := hide (pyL_len (joinT qs))
  obtain ⟨a, c, rfl, _⟩ := id hv
  have HV := hide hv
  clear hv
  unfold fmtT
  generalize joinT qs = T at *
  generalize pyL T = R at *
  obtain ⟨er, p, cs⟩ := R
  dsimp only at *
  unfold PfPost at P9
  dsimp only at P9
  cases hd : decide (cs.map triC = qs)
  · have hne : ¬ (cs.map triC = qs) := by simpa using hd
    rw [if_neg hne]
    go_enter Tryz.func14, Tryz.ntmps14
    go_wp2_with fail
    refine (P32.out).mono ?_
    rintro e w1 ⟨rfl, b1⟩
    have HB1 := hide b1
    have HV1 := hide (HV.out.below b1)
    clear b1
    go_wp2_with fail
    refine (P9.out _).mono ?_
    rintro e w2 ⟨b2, v2, rfl, hv2, _⟩
    obtain ⟨a2, k2, rfl, _⟩ := id hv2
    have hal : Below w2.heap.size w2 (w2.alloc (.cells #[.int .i64 er, .int .i64 (p : Int)] 25)) := (Below.refl _ w2).alloc (Nat.le_refl _) _
    have HB2 := hide (HB1.out.trans ((b2.trans (hal.mono b2.size)).mono HB1.out.size))
    have HE := hide (fun W (hW : Below (w2.alloc (.cells #[.int .i64 er, .int .i64 (p : Int)] 25)).heap.size (w2.alloc (.cells #[.int .i64 er, .int .i64 (p : Int)] 25)) W) => Equal33_any (.slice a2 cs.length k2) (.slice a qs.length c) (cs.map triC) qs W ((hv2.below hal).tri.below hW) (((HV1.out.below b2).below hal).below hW) (by rw [List.length_map]; have := HL.out; omega))
    rw [hd] at HE
    clear hv2 b2 hal
    go_upto_region 3 with fail
    generalize w2.alloc _ = W2 at *
    go_wp2_with fail
    refine (HE.out _ (by first | exact Below.refl _ _ | exact below_drewN _ _ _)).mono ?_
    rintro e w3 ⟨rfl, b3⟩
    have HB3 := hide (HB2.out.trans (b3.mono HB2.out.size))
    clear b3
    go_wp2_with fail
    go_ret
    exact ⟨rfl, HB3.out⟩
  · have hne : cs.map triC = qs := by simpa using hd
    rw [if_pos hne]
    go_enter Tryz.func14, Tryz.ntmps14
    go_wp2_with fail
    refine (P32.out).mono ?_
    rintro e w1 ⟨rfl, b1⟩
    have HB1 := hide b1
    have HV1 := hide (HV.out.below b1)
    clear b1
    go_wp2_with fail
    refine (P9.out _).mono ?_
    rintro e w2 ⟨b2, v2, rfl, hv2, _⟩
    obtain ⟨a2, k2, rfl, _⟩ := id hv2
    have hal : Below w2.heap.size w2 (w2.alloc (.cells #[.int .i64 er, .int .i64 (p : Int)] 25)) := (Below.refl _ w2).alloc (Nat.le_refl _) _
    have HB2 := hide (HB1.out.trans ((b2.trans (hal.mono b2.size)).mono HB1.out.size))
    have HE := hide (fun W (hW : Below (w2.alloc (.cells #[.int .i64 er, .int .i64 (p : Int)] 25)).heap.size (w2.alloc (.cells #[.int .i64 er, .int .i64 (p : Int)] 25)) W) => Equal33_any (.slice a2 cs.length k2) (.slice a qs.length c) (cs.map triC) qs W ((hv2.below hal).tri.below hW) (((HV1.out.below b2).below hal).below hW) (by rw [List.length_map]; have := HL.out; omega))
    rw [hd] at HE
    clear hv2 b2 hal
    go_upto_region 3 with fail
    generalize w2.alloc _ = W2 at *
    go_wp2_with fail
    refine (HE.out _ (by first | exact Below.refl _ _ | exact below_drewN _ _ _)).mono ?_
    rintro e w3 ⟨rfl, b3⟩
    have HB3 := hide (HB2.out.trans (b3.mono HB2.out.size))
    clear b3
    go_wp2_with fail
    go_ret
    exact ⟨rfl, HB3.out⟩

end Go.Proofs.YtabmfdedbpmfmaaGreat

namespace Go.Proofs.YtabmfdedbpmfmaaGreat
open Go.RowKit Go.Shelf
set_option linter.unusedVariables false

theorem any_take {α : Type} (P : α → Bool) (l : List α) (i : Nat) (h : i < l.length) : (l.take (i + 1)).any P = ((l.take i).any P || P l[i]) := by
  rw [List.take_succ_eq_append_getElem h, List.any_append]
  simp
theorem any_of_take {α : Type} (P : α → Bool) (l : List α) (i : Nat) (h : i < l.length) (hp : P l[i] = true) : l.any P = true := List.any_eq_true.2 ⟨l[i], List.getElem_mem _, hp⟩
set_option maxRecDepth 100000 in
set_option maxHeartbeats 4000000 in
theorem IndexFunc_46 (P : It → Bool) (Z : Nat) (v : Value) (its : List It) (w : World) (hv : ClsV Z w v its) (hl : its.length ≤ 33)
    (H : ∀ x ∈ its, ∀ W, Below w.heap.size w W → (∃ A, TxC A W x) → Calls Tryz.prog 46 #[.agg (clV x.1 x.2.1 x.2.2)] W fun e W' => e = .returned (.bool (P x)) ∧ Below W.heap.size W W') :
    Calls Tryz.prog 101 #[v, .func (.func 46) #[] #[]] w fun e w' => ∃ z : Int, e = .returned (.int .i64 z) ∧ decide (0 ≤ z) = its.any P ∧ Below w.heap.size w w' := by
  obtain ⟨a, c, rfl, _⟩ := hv.at_
  have HV := hide hv
  have HH := hide H
  clear hv H
  go_enter Tryz.func101, Tryz.ntmps101
  go_wp2_with fail
  go_loopw [8] (fun x wr => ∃ i : Nat, i ≤ its.length ∧ x = .int .i64 (i : Int) ∧ Hid ((its.take i).any P = false) ∧ Below w.heap.size w wr) (fun x _ => its.length - (intOf x).toNat)
  case atStart => exact ⟨0, Nat.zero_le _, rfl, rfl, Below.refl _ _⟩
  case round =>
    obtain ⟨i, hi, rfl, HN, hb⟩ := hrel
    by_cases hin : i < its.length
    · have hin' : (i : Int) < (its.length : Int) := by omega
      obtain ⟨a', c', he, hA⟩ := (HV.out.below hb).at_
      cases he
      obtain ⟨g, rfl, hr⟩ := hA i hin
      have hx := (HV.out.below hb).2 its[i] (List.getElem_mem _)
      have HC := hide (HH.out its[i] (List.getElem_mem _) wr hb ⟨_, hx⟩)
      have HR := hide hr
      have HT := hide (any_take P its i hin)
      have HF := hide (any_of_take P its i hin)
      clear hr hA hx
      go_upto_region 4 with fail
      refine wp_region_lit ?_
      go_step
      go_step
      go_step
      go_step
      go_step
      go_step
      go_step
      go_step
      go_step
      go_step
      go_step
      go_step
      refine wpList_load_mid rfl 61 (.tmp 14) rfl g (i * 18) rfl _ _ HR.out Tryz.underlying61 rfl size61 ?_
      cases hP : P its[i]
      · rw [hP] at HC HT
        clear hP
        go_wp2_with fail
        refine (HC.out).mono ?_
        rintro e w2 ⟨rfl, b2⟩
        have HB := hide (hb.trans (b2.mono hb.size))
        clear b2
        go_wp2_with fail
        go_roundw
        case rel => exact ⟨i + 1, by omega, by go_num, by show _ = _; rw [HT.out, HN.out]; rfl, HB.out⟩
        case measure => simp [intOf]; omega
      · rw [hP] at HC
        have HF2 := hide (HF.out hP)
        clear hP HF
        go_wp2_with fail
        refine (HC.out).mono ?_
        rintro e w2 ⟨rfl, b2⟩
        have HB := hide (hb.trans (b2.mono hb.size))
        clear b2
        go_wp2_with fail
        go_ret
        exact ⟨_, rfl, by rw [HF2.out]; simp, HB.out⟩
    · have hin' : ¬ (i : Int) < (its.length : Int) := by omega
      obtain rfl : i = its.length := by omega
      rw [List.take_length] at HN
      go_wp2_with fail
      go_ret
      exact ⟨_, rfl, by rw [HN.out]; decide, hb⟩
set_option maxRecDepth 100000 in
set_option maxHeartbeats 4000000 in
theorem ContainsFunc_46 (P : It → Bool) (Z : Nat) (v : Value) (its : List It) (w : World) (hv : ClsV Z w v its) (hl : its.length ≤ 33)
    (H : ∀ x ∈ its, ∀ W, Below w.heap.size w W → (∃ A, TxC A W x) → Calls Tryz.prog 46 #[.agg (clV x.1 x.2.1 x.2.2)] W fun e W' => e = .returned (.bool (P x)) ∧ Below W.heap.size W W') :
    Calls Tryz.prog 78 #[v, .func (.func 46) #[] #[]] w fun e w' => e = .returned (.bool (its.any P)) ∧ Below w.heap.size w w' := by
  have I := hide (IndexFunc_46 P Z v its w hv hl H)
  obtain ⟨a, c, rfl, _⟩ := hv.at_
  clear hv H
  go_enter Tryz.func78, Tryz.ntmps78
  go_wp2_with fail
  refine (I.out).mono ?_
  rintro e w2 ⟨z, rfl, hz, b2⟩
  have HZ := hide hz
  clear hz
  go_wp2_with fail
  go_ret
  exact ⟨by rw [← HZ.out]; rfl, b2⟩
set_option maxRecDepth 100000 in
set_option maxHeartbeats 4000000 in
theorem IndexFunc_79 (P : It → Bool) (p : Nat) (Z : Nat) (v : Value) (its : List It) (w : World) (hv : ClsV Z w v its) (hl : its.length ≤ 33)
    (H : ∀ x ∈ its, ∀ W, Below w.heap.size w W → (∃ A, TxC A W x) → Calls Tryz.prog 79 #[.agg (clV x.1 x.2.1 x.2.2), .pointer (some ⟨p, 0, none⟩)] W fun e W' => e = .returned (.bool (P x)) ∧ Below W.heap.size W W') :
    Calls Tryz.prog 101 #[v, .func (.func 79) #[] #[.pointer (some ⟨p, 0, none⟩)]] w fun e w' => ∃ z : Int, e = .returned (.int .i64 z) ∧ decide (0 ≤ z) = its.any P ∧ Below w.heap.size w w' := by
  obtain ⟨a, c, rfl, _⟩ := hv.at_
  have HV := hide hv
  have HH := hide H
  clear hv H
  go_enter Tryz.func101, Tryz.ntmps101
  go_wp2_with fail
  go_loopw [8] (fun x wr => ∃ i : Nat, i ≤ its.length ∧ x = .int .i64 (i : Int) ∧ Hid ((its.take i).any P = false) ∧ Below w.heap.size w wr) (fun x _ => its.length - (intOf x).toNat)
  case atStart => exact ⟨0, Nat.zero_le _, rfl, rfl, Below.refl _ _⟩
  case round =>
    obtain ⟨i, hi, rfl, HN, hb⟩ := hrel
    by_cases hin : i < its.length
    · have hin' : (i : Int) < (its.length : Int) := by omega
      obtain ⟨a', c', he, hA⟩ := (HV.out.below hb).at_
      cases he
      obtain ⟨g, rfl, hr⟩ := hA i hin
      have hx := (HV.out.below hb).2 its[i] (List.getElem_mem _)
      have HC := hide (HH.out its[i] (List.getElem_mem _) wr hb ⟨_, hx⟩)
      have HR := hide hr
      have HT := hide (any_take P its i hin)
      have HF := hide (any_of_take P its i hin)
      clear hr hA hx
      go_upto_region 4 with fail
      refine wp_region_lit ?_
      go_step
      go_step
      go_step
      go_step
      go_step
      go_step
      go_step
      go_step
      go_step
      go_step
      go_step
      go_step
      refine wpList_load_mid rfl 61 (.tmp 14) rfl g (i * 18) rfl _ _ HR.out Tryz.underlying61 rfl size61 ?_
      cases hP : P its[i]
      · rw [hP] at HC HT
        clear hP
        go_wp2_with fail
        refine (HC.out).mono ?_
        rintro e w2 ⟨rfl, b2⟩
        have HB := hide (hb.trans (b2.mono hb.size))
        clear b2
        go_wp2_with fail
        go_roundw
        case rel => exact ⟨i + 1, by omega, by go_num, by show _ = _; rw [HT.out, HN.out]; rfl, HB.out⟩
        case measure => simp [intOf]; omega
      · rw [hP] at HC
        have HF2 := hide (HF.out hP)
        clear hP HF
        go_wp2_with fail
        refine (HC.out).mono ?_
        rintro e w2 ⟨rfl, b2⟩
        have HB := hide (hb.trans (b2.mono hb.size))
        clear b2
        go_wp2_with fail
        go_ret
        exact ⟨_, rfl, by rw [HF2.out]; simp, HB.out⟩
    · have hin' : ¬ (i : Int) < (its.length : Int) := by omega
      obtain rfl : i = its.length := by omega
      rw [List.take_length] at HN
      go_wp2_with fail
      go_ret
      exact ⟨_, rfl, by rw [HN.out]; decide, hb⟩
set_option maxRecDepth 100000 in
set_option maxHeartbeats 4000000 in
theorem ContainsFunc_79 (P : It → Bool) (p : Nat) (Z : Nat) (v : Value) (its : List It) (w : World) (hv : ClsV Z w v its) (hl : its.length ≤ 33)
    (H : ∀ x ∈ its, ∀ W, Below w.heap.size w W → (∃ A, TxC A W x) → Calls Tryz.prog 79 #[.agg (clV x.1 x.2.1 x.2.2), .pointer (some ⟨p, 0, none⟩)] W fun e W' => e = .returned (.bool (P x)) ∧ Below W.heap.size W W') :
    Calls Tryz.prog 78 #[v, .func (.func 79) #[] #[.pointer (some ⟨p, 0, none⟩)]] w fun e w' => e = .returned (.bool (its.any P)) ∧ Below w.heap.size w w' := by
  have I := hide (IndexFunc_79 P p Z v its w hv hl H)
  obtain ⟨a, c, rfl, _⟩ := hv.at_
  clear hv H
  go_enter Tryz.func78, Tryz.ntmps78
  go_wp2_with fail
  refine (I.out).mono ?_
  rintro e w2 ⟨z, rfl, hz, b2⟩
  have HZ := hide hz
  clear hz
  go_wp2_with fail
  go_ret
  exact ⟨by rw [← HZ.out]; rfl, b2⟩

end Go.Proofs.YtabmfdedbpmfmaaGreat

namespace Go.Proofs.YtabmfdedbpmfmaaGreat
open Go.RowKit Go.Shelf
set_option linter.unusedVariables false

set_option maxRecDepth 100000 in
set_option maxHeartbeats 4000000 in
theorem Mul64_any (n : Nat) (hn : n ≤ 1048576) (w : World) : Calls Tryz.prog 201 #[.int .u64 1, .int .u64 (n : Int)] w fun e w' => e = .returned (.tuple #[.int .u64 0, .int .u64 (n : Int)]) ∧ w' = w := by
  have b1 : bits .and .u64 1 4294967295 = 1 := (bits_and_u64_nat 1 4294967295 (by decide) (by decide)).trans (by decide)
  have b0 : bits .and .u64 0 4294967295 = 0 := (bits_and_u64_nat 0 4294967295 (by decide) (by decide)).trans (by decide)
  have bn : bits .and .u64 (n : Int) 4294967295 = (n : Int) := by
    refine (bits_and_u64_nat n 4294967295 (by omega) (by decide)).trans ?_
    rw [show (4294967295 : Nat) = 2 ^ 32 - 1 from rfl, Nat.and_two_pow_sub_one_eq_mod, Nat.mod_eq_of_lt (by omega)]
  have d1 : (n : Int) / 4294967296 = 0 := by omega
  have wn : IntKind.u64.wrap (n : Int) = (n : Int) := by rw [IntKind.wrap_u64]; omega
  go_enter Tryz.func201, Tryz.ntmps201
  go_wp2_with fail
  go_ret2
  exact ⟨rfl, rfl⟩
set_option maxRecDepth 100000 in
set_option maxHeartbeats 4000000 in
theorem Mul_any (n : Nat) (hn : n ≤ 1048576) (w : World) : Calls Tryz.prog 192 #[.int .u64 1, .int .u64 (n : Int)] w fun e w' => e = .returned (.tuple #[.int .u64 0, .int .u64 (n : Int)]) ∧ w' = w := by
  have M := hide (fun W => Mul64_any n hn W)
  go_enter Tryz.func192, Tryz.ntmps192
  go_wp2_with fail
  refine (M.out _).mono ?_
  rintro e w0 ⟨rfl, hw0⟩
  rw [hw0]
  clear hw0 w0
  go_wp2_with fail
  go_ret2
  exact ⟨rfl, rfl⟩
theorem info9 : (Tryz.prog.info? 9).map (fun i => (i.zero, i.size, i.bytes)) = some (some (.string ⟨#[]⟩), 1, 16) := by kernel_rfl
theorem append_zeros (w : World) (n : Nat) (ty : TypeId) (h0 : 0 < n) (hn : n ≤ 1048576) : ∃ c w', (Builtin.append_ #[37, 3] ty #[.slice none 0 0, .int .i64 (n : Int)]).run Tryz.prog w = .ok (.slice (some ⟨w.heap.size, 0, none⟩) n c) w' ∧ n ≤ c ∧
    w'.ownsRow w.heap.size 9 1 (.slice (some ⟨w.heap.size, 0, none⟩) 0 c) 0 [] ∧ Below w.heap.size w w' := by
  obtain ⟨i, hi, hz, hs, hb⟩ := info_parts info9
  have hr := Go.Lib.run_append_grow_zeros (P := Tryz.prog) w 37 3 ty 9 i (.string ⟨#[]⟩) .i64 .i64 Tryz.underlying37 Tryz.underlying3 hi hz none 0 0 [] (by rw [hs]; exact run_firstCells_none _ _ _ _ _) n h0 (by omega) (by omega) (by omega) (by rw [hb]; omega)
    (by rw [Nat.zero_add, nextslicecap_zero h0, hb]; omega)
  have hg := grownCap_ge w (0 + n) 0 9
  have hm := grownCap_le_maxLen w (0 + n) 0 9 (by unfold maxLen; omega)
  rw [Nat.zero_add] at hr hg hm
  refine ⟨_, _, hr, hg, ?_, ?_⟩
  · refine ⟨rfl, .inr ⟨w.heap.size, _, _, rfl, Nat.le_refl _, World.alloc_heap_new w.drew _, Nat.zero_le _, hm, ?_, by simp⟩⟩
    simp [Array.size_append, size_zeroCells, Value.cells]
    omega
  · exact ((Below.refl w.heap.size w).drew).alloc (Nat.le_refl _) _
theorem wpList_append_zeros {ops : Array Oper} {rest : List Oper} {o : Oper} {a : Act} {w : World} {Q : Exit → Act → World → Prop} (hgd : o.guard = none) (s x : Operand) (ho : o.op = .call { callee := .builtin .append, args := #[s, x], argTypes := #[37, 3] })
    (n : Nat) (hs : a.eval s = .slice none 0 0) (hx : a.eval x = .int .i64 (n : Int)) (h0 : 0 < n) (hn : n ≤ 1048576)
    (h : ∀ c w', n ≤ c → w'.ownsRow w.heap.size 9 1 (.slice (some ⟨w.heap.size, 0, none⟩) 0 c) 0 [] → Below w.heap.size w w' → wpList Tryz.prog ops Q rest (a.put o.dst (.slice (some ⟨w.heap.size, 0, none⟩) n c)) w') : wpList Tryz.prog ops Q (o :: rest) a w := by
  obtain ⟨c, w', hr, h1, h2, h3⟩ := append_zeros w n o.type h0 hn
  refine wpList_plain hgd fun K hK => ?_
  unfold Oper.wp
  simp [execOp, ho, resolve, invoke, builtin, hs, hx, hr, Result.andThen]
  exact hK _ _ (h c w' h1 h2 h3)
set_option maxRecDepth 100000 in
set_option maxHeartbeats 4000000 in
theorem Grow_any (n : Nat) (hn : n ≤ 1048576) (w : World) : Calls Tryz.prog 191 #[.slice none 0 0, .int .i64 (n : Int)] w fun e w' => ∃ v, e = .returned v ∧ w'.ownsRow w.heap.size 9 1 v 0 [] ∧ Below w.heap.size w w' := by
  have h1 : ¬ ((n : Int) < 0) := by omega
  by_cases h0 : 0 < n
  · have h2 : (0 : Int) < (n : Int) := by omega
    go_enter Tryz.func191, Tryz.ntmps191
    go_wp2_with (at_builtin; refine wpList_append_zeros rfl _ _ rfl n rfl rfl h0 hn ?_; intro c w1 hc ho hb; have HO := hide ho; have HB := hide hb; clear ho hb)
    go_ret
    exact ⟨_, rfl, HO.out, HB.out⟩
  · have h2 : ¬ (0 : Int) < (n : Int) := by omega
    go_enter Tryz.func191, Tryz.ntmps191
    go_wp2_with fail
    go_ret
    exact ⟨_, rfl, World.ownsRow_nil _ _ _ _, Below.refl _ _⟩

end Go.Proofs.YtabmfdedbpmfmaaGreat
