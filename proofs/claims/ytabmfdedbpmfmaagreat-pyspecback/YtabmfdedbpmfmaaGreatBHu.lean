/-
  Walks: reading clauses. · Walks: reading clauses, whatever the text.
-/
import Derived.Deep.LoopGhost
import Derived.Deep.Cut
import Derived.Test.YtabmfdedbpmfmaaGreatBHt
namespace Go.Proofs.YtabmfdedbpmfmaaGreat
open Go.RowKit Go.Shelf
set_option linter.unusedVariables false

attribute [local go_sem] Oper.semAt_some

theorem fin29 {R : Ending → World → Prop} (tmps : Array Value) (Ds : List Nat) (W : World) (n₀ B : Nat) (v e p : Value) (h1 : tmps.getD 2 undef = v) (h2 : tmps.getD 3 undef = .pointer (some ⟨B, 0, none⟩)) (e1 : W.heap[B]? = some (.cells #[e, p] 25 (0, 0)))
    (hnd : Ds.Nodup) (hD : ∀ D ∈ Ds, n₀ ≤ D ∧ W.heap[D]? = some (.deferred (some []))) (hR : ∀ W', Past n₀ W W' → R (.returned (.tuple #[v, .agg #[e, p]])) W') :
    bodyPostM Fence.wide 5 Tryz.prog Tryz.f29 R .ret { tmps := tmps, defers := marks Ds } W := by
  show LeavesInM _ _ _ _ _ _ _ _ _
  refine leaves_marks n₀ Ds W hnd hD ?_
  intro W' hW'
  have k := hW'.2 _ _ e1 rfl
  have r0 := cell_at 0 k rfl
  have r1 := cell_at 1 k rfl
  rw [Array.getD_eq_getD_getElem?] at h1 h2
  refine ⟨_, ?_, hR W' hW'⟩
  simp [results, Tryz.results29, go_sem, h1, h2, r0, r1]
  try rfl

set_option maxRecDepth 100000 in
set_option maxHeartbeats 8000000 in
theorem readClauses_in (s : ByteArray) (w : World) (hs : s.size ≤ 256) (h0 : runL 6 s.data.toList ≠ s.size) :
    CallsIn Fence.wide 5 Tryz.prog 29 #[.string s] w (RcPost (foldC s.data.toList.length (rowC s.data.toList 257 0) []) w) := by
  refine callsIn_of_wp_marks Tryz.func29 rfl trivial (wpIn_wide.2 ?_) rfl
  simp only [Tryz.ntmps29, List.size_toArray, List.length_cons, List.length_nil, Nat.reduceAdd, Nat.reduceSub, Array.replicate_succ, Array.replicate_zero, List.push_toArray, List.append_toArray, List.nil_append, List.cons_append]
  have hs' : ¬ (256 : Int) < (s.size : Int) := by omega
  have HL : Hid (s.data.toList.length = s.size) := len_data s
  have RN := fun W => Run_any s (0 : Int) 6 W (by unfold maxLen; omega)
  have hr : runI s.data.toList (0 : Int) 6 = ((runL 6 s.data.toList : Nat) : Int) := by
    have := runI_in s 0 6 (Nat.zero_le _)
    simpa using this
  rw [hr] at RN
  have hnb : (((runL 6 s.data.toList : Nat) : Int) == (s.size : Int)) = false := by simp; omega
  replace RN := hide RN
  have CL := hide (fun W => clauses_any s W)
  generalize hG : foldC s.data.toList.length (rowC s.data.toList 257 0) [] = G
  have HG := hide hG
  generalize runL 6 s.data.toList = r0 at *
  clear hr hG h0
  obtain ⟨V0, hV0, n1, n2, bV, sV⟩ := two_new w #[.string s] #[.int .i64 0, .int .i64 0] 9 25
  have x0 := cell_at 0 n1 rfl
  go_wp2_with fail
  try rw [hV0]
  clear hV0
  go_step3
  go_wp2_with fail
  go_quiet (first | (go_at_call 60; exact Calls.quiet_of_same (RN.out _)) | fail)
  have N1 : Boxed (V0.drewN nq) w.heap.size 9 (.string s) := n1
  have N2 : (V0.drewN nq).heap[w.heap.size + 1]? = some (.cells #[.int .i64 0, .int .i64 0] 25 (0, 0)) := n2
  have bW : Below w.heap.size w (V0.drewN nq) := bV.trans ((below_drewN _ V0 nq).mono bV.size)
  have sW : (V0.drewN nq).heap.size = w.heap.size + 2 := sV
  generalize V0.drewN nq = V1 at *
  clear n1 n2 bV sV x0
  obtain ⟨V2, hV2, n3, n4, b2, s2⟩ := two_new V1 #[.slice none 0 0] #[.int .i64 0, .int .i64 0] 50 25
  go_wp2_with fail
  try rw [hV2]
  clear hV2
  rw [sW] at n3 n4 s2
  have N3 : Boxed V2 (w.heap.size + 2) 50 (.slice none 0 0) := n3
  have RJ0 : ∀ V3, V3 = V2.alloc (.cells #[.string s] 9) → RJ w s [] 0 0 V3 ∧ V3.heap.size = w.heap.size + 5 := by
    rintro V3 rfl
    have b3 : Below V2.heap.size V2 (V2.alloc (.cells #[.string s] 9)) := (Below.refl _ V2).alloc (Nat.le_refl _) _
    refine ⟨⟨(b3.block _ (by omega)).trans ((b2.block _ (by omega)).trans N1), (b3.block _ (by omega)).trans ((b2.block _ (by omega)).trans N2), ⟨_, (b3.block _ (by omega)).trans N3, ClsV.nil _ _⟩, (b3.block _ (by omega)).trans n4, ?_, (bW.trans (b2.mono (by omega))).trans (b3.mono (by omega))⟩, by simp; omega⟩
    have := World.alloc_heap_new V2 (.cells #[.string s] 9)
    rw [s2] at this
    exact this
  have x0 : V2.cell? ⟨w.heap.size, 0, none⟩ = some (.string s) := cell_at 0 ((b2.block _ (by omega)).trans N1) rfl
  clear b2 n3 n4 N1 N2 N3 bW
  go_step3
  go_wp2_with fail
  refine (CL.out _).mono ?_
  rintro e V3 ⟨rfl, hV3⟩
  obtain ⟨J0, s3⟩ := RJ0 V3 hV3
  rw [s2]
  rw [show w.heap.size + 2 + 1 = w.heap.size + 3 from rfl]
  clear hV3 RJ0 x0 s2 sW
  have x0 := J0.str.cell
  go_wp2_with fail
  rw [show w.heap.size + 2 + 2 = w.heap.size + 4 from rfl]
  refine (wpIn_wide (n := 5)).1 ?_
  have HJ0 := hide J0
  have hN5 : w.heap.size + 5 ≤ V3.heap.size := by omega
  clear J0 x0 V1 V0 RN CL hnb hs'
  obtain ⟨ACT, hACT⟩ : ∃ ACT : It → Nat → Act, ACT = fun x B => { tmps := #[.string s, .pointer (some ⟨w.heap.size, 0, none⟩), .slice none 0 0, .pointer (some ⟨w.heap.size + 1, 0, none⟩), .pointer (some ⟨w.heap.size + 2, 0, none⟩), .pointer (some ⟨w.heap.size + 3, 0, none⟩), .pointer (some ⟨B, 0, none⟩), .string s, .int .i64 (s.size : Int), .bool (decide ((256 : Int) < (s.size : Int))), undef, .string s, .int .i64 (r0 : Int), .string s, .int .i64 (s.size : Int), .bool false, undef, .string s, .func (.func 87) #[] #[.pointer (some ⟨w.heap.size + 4, 0, none⟩)], .agg (clV x.1 x.2.1 x.2.2), undef, undef, undef, undef, undef, undef, undef, undef, undef, undef, undef, undef, undef, undef, undef, undef, undef, undef, undef, undef, undef, undef, undef, undef, undef, undef, undef, undef, undef, undef, undef, undef, undef], defers := [] } := ⟨_, rfl⟩
  refine range_cond (F := Fence.wide) (n := 5) (α := It) rfl (by omega) (gf := 87) (lb := #[.pointer (some ⟨w.heap.size + 4, 0, none⟩)]) rfl trivial (enters_of Tryz.func87 (by kernel_rfl) rfl) (w0 := V3) (seq_of_clauses s (w.heap.size + 4) V3 hs HJ0.out.itr) (Below.refl _ _) (fun h k => KpC.trans h k)
    (fun Z V l o o' hl ho hnc _ => ⟨fun k cs t m _ hh => (World.putObj_heap_other (by rintro rfl; rw [hh] at ho; cases ho; cases hnc)).trans hh, World.putObj_heap_other (by omega)⟩) (fun _ => rfl)
    (fun pre V => Goes29 w s s.data.toList.length pre V) (fun k pre V => Left29 w s s.data.toList.length k pre V)
    (fun pre A B row h hg hr => ⟨h.fold, h.ok, h.few, RJ.own hN5 () A B row h.rj hg hr⟩)
    (fun k pre A B row h hg hr => ⟨h.code, by obtain ⟨e, p, its, h1, h2, h3⟩ := h.is; exact ⟨e, p, its, h1, h2, RJ.own hN5 () A B row h3 hg hr⟩⟩)
    ⟨(fun rest => rfl), (fun x h => by cases h), (by simp), HJ0.out⟩ (fun pre x V h => h.ok x (by simp))
    (fun pre x Z0 b V => x.1 ∈ rowC s.data.toList 257 0 ∧ ∃ B, b = ACT x B ∧ B < V.heap.size ∧ w.heap.size + 5 ≤ B ∧ V.heap[B]? = some (.cells (clV x.1 x.2.1 x.2.2) 61 (0, 0)) ∧ w.heap.size + 5 ≤ Z0.heap.size ∧ ∃ v, Boxed V (w.heap.size + 2) 50 v ∧ TxC (fun b => w.heap.size + 5 ≤ b ∧ v.ownBlock ≠ some b) V x ∧ ∀ g, v.ownBlock = some g → g < Z0.heap.size)
    (fun pre x Z0 b u A B row h hg hr => by
      obtain ⟨hm, B1, h1, h2, h3, h4, h5, v, h6, h7, h8⟩ := h
      have K : KeepA (fun _ => True) A B := keepA_own hg hr
      exact ⟨hm, B1, h1, Nat.lt_of_lt_of_le h2 hg.size, h3, K.at_ trivial h4, h5, v, K.at_ trivial h6, h7.keep ⟨K.1, fun b cs t m _ => K.2 b cs t m trivial⟩ (fun b hb _ => hb), h8⟩)
    ?assign ?body ?done ?stop
  case assign =>
    rintro l pre x W0 V K2 hi0 hi hbl ⟨hpre, t1, t2, f1, f2⟩ hK2
    obtain ⟨v, hv, hc⟩ := hi0.rj.row
    have hvV : Boxed V (w.heap.size + 2) 50 v := (hbl.block _ hv.lt).trans hv
    have hsz := hi0.rj.sz
    have hawf := hc.fresh hsz (Nat.le_refl _) f1 f2
    have hlt := fun g hg => (ownA_lt hc.1 g hg).2
    obtain ⟨x1, x2, x3⟩ := x
    dsimp only at t1 t2 f1 f2 hawf hpre
    have fin : ∀ W', Below V.heap.size V W' → W'.heap[V.heap.size]? = some (.cells (clV x1 x2 x3) 61 (0, 0)) → K2 (ACT (x1, x2, x3) V.heap.size) W' := fun W' hb hh =>
      hK2 _ _ ((KeepsOthers.of_grownBy (grown_below hb) (fun j o ej _ => by cases ej)).from _) ⟨fun k cs t m _ hh => (hb.block _ (Array.getElem?_eq_some_iff.1 hh).1).trans hh, hb.block _ hi.rj.itr.lt⟩ ⟨hi.fold, hi.ok, hi.few, hi.rj.next hb⟩
      ⟨hpre.subset (by simp), V.heap.size, rfl, (Array.getElem?_eq_some_iff.1 hh).1, hi.rj.sz, hh, hsz, v, (hb.block _ hvV.lt).trans hvV, ⟨t1.below hb, t2.below hb, hawf⟩, hlt⟩
    rw [hACT] at fin
    have hone := all_oneCell_toArray (clV_one t1 t2)
    have hZ := World.alloc_heap_new V (.cells Z61 61)
    have hz : ∀ T : Array Value, ((#[19] : Array Tmp).zip (encC (x1, x2, x3))).foldl (fun t x => match x with | (p, v) => t.setIfInBounds p v) T = T.setIfInBounds 19 (.agg (clV x1 x2 x3)) := fun T => by simp [encC]
    rw [hz]
    refine wpIn_region_lit ?_
    refine wpListIn_alloc61 rfl rfl ?_
    refine wpListIn_store_mid rfl 61 (.tmp 6) (.tmp 19) rfl V.heap.size 0 (clV x1 x2 x3) rfl rfl (there_block hZ (Nat.le_refl _)) size61 (by simpa using hone) ?_
    have hT := putL_turn (clV x1 x2 x3).toList (V.alloc (.cells Z61 61)) V.heap.size 0
    have hh := putL_heap (clV x1 x2 x3).toList (V.alloc (.cells Z61 61)) V.heap.size 0 _ _ hZ
    rw [fill_all Z61 (clV x1 x2 x3).toList rfl] at hh
    have hb : Below V.heap.size V (V.alloc (.cells Z61 61)) := (Below.refl _ V).alloc (Nat.le_refl _) _
    rw [setCells_put]
    exact fin _ (hb.trans (hT.below (Nat.le_refl _) hb.size)) (by simpa using hh)
  case body =>
    rintro lx pre x W0 b V hl _ hi ⟨hmem, B, rfl, hBl, hB5, eB, h5, v, hv, htx, hlt⟩
    rw [hACT]
    clear hACT HJ0
    obtain ⟨x1, x2, x3⟩ := x
    dsimp only at eB htx hmem ⊢
    obtain ⟨v0, hv0, hc⟩ := hi.rj.row
    obtain rfl := boxed_inj hv hv0
    obtain ⟨av, cv, rfl, _⟩ := ownA_cells hc.1
    obtain ⟨i0, hi0, hz0, hz1, hz2⟩ := info_parts info61
    have hfew := hi.few
    have cV := hv.cell
    have cS := hi.rj.str.cell
    have x15 : V.cell? ⟨B, 15, none⟩ = some (.int .i64 (x1.s : Int)) := cell_at 15 eB rfl
    have x16 : V.cell? ⟨B, 16, none⟩ = some (.int .i64 (x1.e : Int)) := cell_at 16 eB rfl
    have x17 : V.cell? ⟨B, 17, none⟩ = some (.int .i64 x1.er) := cell_at 17 eB rfl
    have f0 := cell_at 0 hi.rj.flt rfl
    have f1 := cell_at 1 hi.rj.flt rfl
    have g0 := one_free 0 hi.rj.flt
    have g1 := one_free 1 hi.rj.flt
    have HI := hide hi
    have HC := hide hc
    have HV := hide hv
    have HTX := hide htx
    have HEB := hide eB
    have HM := hide hmem
    clear hi hc hv hv0 htx eB hmem
    generalize hR13 : Code.region 13 _ _ = R13
    by_cases hA : pre.length = 32 ∧ x1.s < s.size
    · have h32 : ((pre.length : Int) == 32) = true := by rw [hA.1]; rfl
      have hss : (x1.s : Int) < (s.size : Int) := by omega
      have HF := hide (HI.out.rj.fault 12 x1.s)
      have HFO := hide (fold_many (x := (x1, x2, x3)) HI.out.fold ⟨hA.1, by rw [HL.out]; exact hA.2⟩)
      clear hA
      gi_wp2
      exact ⟨((KeepsOthers.setCell V _ _).trans (KeepsOthers.setCell _ _ _)).from _, ⟨rfl, 12, x1.s, pre, by decide, HFO.out, HF.out⟩⟩
    · have HNA : Hid (¬(pre.length = 32 ∧ ((x1, x2, x3) : It).1.s < s.data.toList.length)) := hide (by rw [HL.out]; exact hA)
      by_cases h32n : pre.length = 32
      · have h32 : ((pre.length : Int) == 32) = true := by rw [h32n]; rfl
        have hss : ¬ (x1.s : Int) < (s.size : Int) := by omega
        have herr : x1.er ≠ 0 := fun h => by have := rowC_lt 257 0 HM.out h; rw [HL.out] at this; omega
        have n1 : (x1.er != 0) = true := by simpa using herr
        have HF := hide (HI.out.rj.fault x1.er x1.e)
        have HFO := hide (fold_bad (x := (x1, x2, x3)) HI.out.fold HNA.out herr)
        have HE := hide herr
        clear hA herr h32n
        gi_wp2
        exact ⟨((KeepsOthers.setCell V _ _).trans (KeepsOthers.setCell _ _ _)).from _, ⟨rfl, x1.er, x1.e, pre, HE.out, HFO.out, HF.out⟩⟩
      · have h32 : ((pre.length : Int) == 32) = false := by simp; omega
        by_cases herr : x1.er = 0
        · have n1 : (x1.er != 0) = false := by rw [herr]; rfl
          clear hA
          gi_wp2
          rw [← hR13]
          refine wpIn_region_lit ?_
          refine wpListIn_load50 rfl (.tmp 4) rfl (w.heap.size + 2) (.slice av pre.length cv) rfl cV ?_
          refine wpListIn_load_mid rfl 61 (.tmp 6) rfl B 0 rfl _ _ (range_block HEB.out) Tryz.underlying61 rfl size61 ?_
          refine wpListIn_build61 rfl (.tmp 44) rfl x1 x2 x3 rfl ?_
          have hal : Below V.heap.size V (V.alloc (.cells (clV x1 x2 x3) 61)) := (Below.refl _ V).alloc (Nat.le_refl _) _
          have K0 : KeepA (fun _ => True) V (V.alloc (.cells (clV x1 x2 x3) 61)) := keepA_below hal
          have hc1 : ClsV (w.heap.size + 5) (V.alloc (.cells (clV x1 x2 x3) 61)) (.slice av pre.length cv) pre := HC.out.keep ⟨K0.1, fun b cs t m _ => K0.2 b cs t m trivial⟩
          have hx1 := HTX.out.keep (A' := fun b => w.heap.size + 5 ≤ b ∧ (Value.slice av pre.length cv).ownBlock ≠ some b) (⟨K0.1, fun b cs t m _ => K0.2 b cs t m trivial⟩ : KeepA _ V (V.alloc (.cells (clV x1 x2 x3) 61))) (fun b hb _ => hb)
          have hj1 := HI.out.rj.next hal
          have hv1 : Boxed (V.alloc (.cells (clV x1 x2 x3) 61)) (w.heap.size + 2) 50 (.slice av pre.length cv) := K0.at_ trivial HV.out
          refine wpListIn_append_own_at _ rfl _ _ 50 rfl (w.heap.size + 5) 61 i0 (.agg Z61) 18 224 Tryz.underlying50 hi0 hz0 hz1 hz2 rfl (by decide) _ _ _ rfl hc1.1 ⟨V.heap.size, 0, none⟩ 1 1 (clL (x1, x2, x3)) rfl rfl (news_at V (clV x1 x2 x3) 61) (clV_one hx1.1 hx1.2.1) (by unfold maxLen; omega) (by omega) hj1.sz ?_
          intro v' w3 hown' hgrow _ hat
          obtain ⟨a', c', rfl, _⟩ := ownA_cells hown'
          obtain ⟨hj3, hv3⟩ := hj1.app hv1 hc1 hx1 hown' hgrow hat
          refine wpListIn_store50 rfl (.tmp 4) (.tmp 46) rfl (w.heap.size + 2) (.slice av pre.length cv) a' _ c' rfl rfl hv3.cell hv3.frozen ?_
          have hgc : ∀ j o, (Value.slice av pre.length cv).ownBlock = some j → (V.alloc (.cells (clV x1 x2 x3) 61)).heap[j]? = some o → o.isCells = true := fun j o ej hjo => by
            rcases hc1.1.2 with ⟨h1, _⟩ | ⟨g, cap', cur, h1, _, hgb, _⟩
            · rw [h1] at ej; cases ej
            · rw [h1] at ej
              simp only [Value.ownBlock, Option.some.injEq] at ej
              subst ej
              rw [hgb] at hjo; cases hjo; rfl
          have hkeep : ∀ k, k < V.heap.size → k ≠ w.heap.size + 2 → (Value.slice av pre.length cv).ownBlock ≠ some k → (w3.setCell ⟨w.heap.size + 2, 0, none⟩ (.slice a' (pre.length + 1) c')).heap[k]? = V.heap[k]? := fun k h1 h2 h3 =>
            (Below.heap_setCell _ _ _ k (by simp only; omega)).trans ((hgrow.block k (Nat.lt_of_lt_of_le h1 hal.size) (fun e => h3 e.symm)).trans (hal.block k h1))
          refine ⟨(((keeps_below' hal).trans (KeepsOthers.of_grownBy hgrow hgc)).trans (KeepsOthers.setCell _ _ _)).from _, ⟨fun k cs t m hk hh => (hkeep k (Array.getElem?_eq_some_iff.1 hh).1 (by omega) (fun e => by have := hlt k e; omega)).trans hh, hkeep _ HI.out.rj.itr.lt (by omega) (fun e => by have := (ownA_lt HC.out.1 _ e).1; omega)⟩, ⟨fold_next HI.out.fold HNA.out herr, ?_, ?_, hj3⟩⟩
          · intro y hy
            rcases List.mem_append.1 hy with hy | hy
            · exact HI.out.ok y hy
            · simp at hy; subst hy; exact herr
          · rw [List.length_append, List.length_singleton]; omega
        · have n1 : (x1.er != 0) = true := by simpa using herr
          have HF := hide (HI.out.rj.fault x1.er x1.e)
          have HFO := hide (fold_bad (x := (x1, x2, x3)) HI.out.fold HNA.out herr)
          have HE := hide herr
          clear hA herr h32n
          gi_wp2
          exact ⟨((KeepsOthers.setCell V _ _).trans (KeepsOthers.setCell _ _ _)).from _, ⟨rfl, x1.er, x1.e, pre, HE.out, HFO.out, HF.out⟩⟩
  case done =>
    rintro D xs V hD hS hi hdef
    have hfold := hi.fold []
    rw [List.append_nil, hS, HG.out] at hfold
    have HGE : Hid (G = (0, 0, xs.map Prod.fst)) := hide (by rw [hS]; exact hfold)
    obtain ⟨v, hv, hc⟩ := hi.rj.row
    obtain ⟨av, cv, rfl, _⟩ := ownA_cells hc.1
    have HC := hide hc
    have HI := hide hi.rj
    have cV := hv.cell
    have x0 := cell_at 0 hi.rj.flt rfl
    have x1 := cell_at 1 hi.rj.flt rfl
    have y0 := cell_at 0 hi.rj.res rfl
    have y1 := cell_at 1 hi.rj.res rfl
    have z0 := one_free 0 hi.rj.res
    have z1 := one_free 1 hi.rj.res
    have HDF := hide hdef
    clear hfold hS hi hc hdef hACT HJ0 hv
    dsimp only
    go_wp2_with fail
    go_region
    all_goals
      go_wp2_with fail
      have e5 : ((V.setCell ⟨w.heap.size + 1, 0, none⟩ (.int .i64 0)).setCell ⟨w.heap.size + 1, 1, none⟩ (.int .i64 0)).drew.heap[w.heap.size + 1]? = some (.cells #[.int .i64 0, .int .i64 0] 25 (0, 0)) := set_lies 1 _ (set_lies 0 _ HI.out.res)
      have hK : KeepA (fun b => w.heap.size + 5 ≤ b) V ((V.setCell ⟨w.heap.size + 1, 0, none⟩ (.int .i64 0)).setCell ⟨w.heap.size + 1, 1, none⟩ (.int .i64 0)).drew := (keepA_set V _ 0 _ (fun b hb => by omega)).trans (keepA_set _ _ 1 _ (fun b hb => by omega))
      have hb5 : Below w.heap.size w ((V.setCell ⟨w.heap.size + 1, 0, none⟩ (.int .i64 0)).setCell ⟨w.heap.size + 1, 1, none⟩ (.int .i64 0)).drew := ((HI.out.bel.setCell (p := ⟨w.heap.size + 1, 0, none⟩) (Nat.le_succ _) _).setCell (p := ⟨w.heap.size + 1, 1, none⟩) (Nat.le_succ _) _).drew
      refine fin29 _ [D] _ w.heap.size (w.heap.size + 1) _ _ _ rfl rfl e5 (by simp) (by
        intro E hE
        simp at hE
        subst hE
        exact ⟨by omega, (Below.heap_setCell _ _ _ _ (by simp only; omega)).trans ((Below.heap_setCell _ _ _ _ (by simp only; omega)).trans HDF.out)⟩) ?_
      intro W' hp
      rw [HGE.out]
      exact ⟨hb5.trans hp.1, _, rfl, xs, rfl, ((HC.out.keep hK).keep (keepA_past hp)).weak (by omega)⟩
  case stop =>
    rintro D k pre V hD ⟨rest, hrest⟩ hL hdef
    obtain rfl := hL.code
    obtain ⟨e, p, its, hne, hfold, hj⟩ := hL.is
    have HGE : Hid (G = (e, p, [])) := hide (by rw [← HG.out, ← hrest]; exact hfold rest)
    have HI := hide hj
    have n1 : (e != 0) = true := by simpa using hne
    have x0 := cell_at 0 hj.flt rfl
    have x1 := cell_at 1 hj.flt rfl
    have y0 := cell_at 0 hj.res rfl
    have y1 := cell_at 1 hj.res rfl
    have z0 := one_free 0 hj.res
    have z1 := one_free 1 hj.res
    have HDF := hide hdef
    clear hfold hrest hL hj hdef hACT HJ0 hne
    gi_wp2
    go_wp2_with fail
    go_region
    all_goals
      go_wp2_with fail
      have e5 : ((V.setCell ⟨w.heap.size + 1, 0, none⟩ (.int .i64 e)).setCell ⟨w.heap.size + 1, 1, none⟩ (.int .i64 (p : Int))).drew.heap[w.heap.size + 1]? = some (.cells #[.int .i64 e, .int .i64 (p : Int)] 25 (0, 0)) := set_lies 1 _ (set_lies 0 _ HI.out.res)
      have hb5 : Below w.heap.size w ((V.setCell ⟨w.heap.size + 1, 0, none⟩ (.int .i64 e)).setCell ⟨w.heap.size + 1, 1, none⟩ (.int .i64 (p : Int))).drew := ((HI.out.bel.setCell (p := ⟨w.heap.size + 1, 0, none⟩) (Nat.le_succ _) _).setCell (p := ⟨w.heap.size + 1, 1, none⟩) (Nat.le_succ _) _).drew
      refine fin29 _ [D] _ w.heap.size (w.heap.size + 1) _ _ _ rfl rfl e5 (by simp) (by
        intro E hE
        simp at hE
        subst hE
        exact ⟨by omega, (Below.heap_setCell _ _ _ _ (by simp only; omega)).trans ((Below.heap_setCell _ _ _ _ (by simp only; omega)).trans HDF.out)⟩) ?_
      intro W' hp
      rw [HGE.out]
      exact ⟨hb5.trans hp.1, _, rfl, [], rfl, ClsV.nil _ _⟩

end Go.Proofs.YtabmfdedbpmfmaaGreat

namespace Go.Proofs.YtabmfdedbpmfmaaGreat
open Go.RowKit Go.Shelf
set_option linter.unusedVariables false

theorem fin29b {R : Ending → World → Prop} (tmps : Array Value) (W : World) (B : Nat) (v c0 c1 : Value) (h2 : tmps.getD 2 undef = v) (h3 : tmps.getD 3 undef = .pointer (some ⟨B, 0, none⟩))
    (e1 : W.heap[B]? = some (.cells #[c0, c1] 25 (0, 0))) (hR : R (.returned (.tuple #[v, .agg #[c0, c1]])) W) : bodyPost Tryz.prog Tryz.f29 R .ret { tmps := tmps, defers := [] } W := by
  have r0 := cell_at 0 e1 rfl
  have r1 := cell_at 1 e1 rfl
  rw [Array.getD_eq_getD_getElem?] at h2 h3
  refine ⟨rfl, _, ?_, hR⟩
  simp [results, Tryz.results29, go_sem, h2, h3, r0, r1]
  try rfl
set_option maxRecDepth 100000 in
set_option maxHeartbeats 4000000 in
theorem readClauses_long (s : ByteArray) (w : World) (hs : 256 < s.size) : Calls Tryz.prog 29 #[.string s] w (RcPost (12, 256, []) w) := by
  have hs' : (256 : Int) < (s.size : Int) := by omega
  obtain ⟨V0, hV0, n1, n2, bV, sV⟩ := two_new w #[.string s] #[.int .i64 0, .int .i64 0] 9 25
  have x0 := cell_at 0 n1 rfl
  have r0 := cell_at 0 n2 rfl
  have r1 := cell_at 1 n2 rfl
  have g0 := one_free 0 n2
  have g1 := one_free 1 n2
  have N2 := hide n2
  have BV := hide bV
  clear n1 n2 bV sV
  go_enter Tryz.func29, Tryz.ntmps29
  go_wp2_with fail
  try rw [hV0]
  clear hV0
  go_step3
  go_wp2_with fail
  refine fin29b _ _ (w.heap.size + 1) _ _ _ rfl rfl (set_lies 1 (.int .i64 256) (set_lies 0 (.int .i64 12) N2.out)) ?_
  exact ⟨(BV.out.setCell (p := ⟨w.heap.size + 1, 0, none⟩) (Nat.le_succ _) _).setCell (p := ⟨w.heap.size + 1, 1, none⟩) (Nat.le_succ _) _, _, rfl, [], rfl, ClsV.nil _ _⟩
set_option maxRecDepth 100000 in
set_option maxHeartbeats 4000000 in
theorem readClauses_nil (s : ByteArray) (w : World) (hs : s.size ≤ 256) (h0 : runL 6 s.data.toList = s.size) : Calls Tryz.prog 29 #[.string s] w (RcPost (0, 0, []) w) := by
  have hs' : ¬ (256 : Int) < (s.size : Int) := by omega
  have RN := fun W => Run_any s (0 : Int) 6 W (by unfold maxLen; omega)
  have hr : runI s.data.toList (0 : Int) 6 = ((s.size : Nat) : Int) := by
    have := runI_in s 0 6 (Nat.zero_le _)
    rw [← h0]
    simpa using this
  rw [hr] at RN
  replace RN := hide RN
  clear hr h0
  obtain ⟨V0, hV0, n1, n2, bV, sV⟩ := two_new w #[.string s] #[.int .i64 0, .int .i64 0] 9 25
  have x0 := cell_at 0 n1 rfl
  have r0 := cell_at 0 n2 rfl
  have r1 := cell_at 1 n2 rfl
  have g0 := one_free 0 n2
  have g1 := one_free 1 n2
  have N2 := hide n2
  have BV := hide bV
  clear n1 n2 bV sV
  go_enter Tryz.func29, Tryz.ntmps29
  go_wp2_with fail
  try rw [hV0]
  clear hV0
  go_step3
  go_wp2_with fail
  go_quiet (first | (go_at_call 60; exact Calls.quiet_of_same (RN.out _)) | fail)
  have BV9 := hide (BV.out.trans ((below_drewN _ V0 nq).mono BV.out.size))
  have N9 : Hid ((V0.drewN nq).heap[w.heap.size + 1]? = _) := hide N2.out
  have r0 := cell_at 0 N9.out rfl
  have r1 := cell_at 1 N9.out rfl
  have g0 := one_free 0 N9.out
  have g1 := one_free 1 N9.out
  generalize V0.drewN nq = V1 at *
  go_wp2_with fail
  refine fin29b _ _ (w.heap.size + 1) _ _ _ rfl rfl (set_lies 1 (.int .i64 0) (set_lies 0 (.int .i64 0) N9.out)) ?_
  exact ⟨(BV9.out.setCell (p := ⟨w.heap.size + 1, 0, none⟩) (Nat.le_succ _) _).setCell (p := ⟨w.heap.size + 1, 1, none⟩) (Nat.le_succ _) _, _, rfl, [], rfl, ClsV.nil _ _⟩
theorem readClauses_any (s : ByteArray) (w : World) : Calls Tryz.prog 29 #[.string s] w (RcPost (pyL s.data.toList) w) := by
  by_cases hs : s.size ≤ 256
  · by_cases h0 : runL 6 s.data.toList = s.size
    · have hP : pyL s.data.toList = (0, 0, []) := by unfold pyL; rw [if_neg (by rw [len_data]; omega), if_pos (by rw [len_data]; exact h0)]
      rw [hP]
      exact readClauses_nil s w hs h0
    · rw [pyL_row _ (by rw [len_data]; exact hs) (by rw [len_data]; exact h0)]
      exact (callsIn_wide (n := 5)).1 (readClauses_in s w hs h0)
  · have hP : pyL s.data.toList = (12, 256, []) := by unfold pyL; rw [if_pos (by rw [len_data]; omega)]
    rw [hP]
    exact readClauses_long s w (by omega)

end Go.Proofs.YtabmfdedbpmfmaaGreat
