/-
  Walks: a text read as tokens.
-/
import Derived.Test.YtpedljmpobhimaaGreatDoorDi
namespace Go.Proofs.YtpedljmpobhimaaGreatDoor
open Go.RowKit Go.Shelf
set_option linter.unusedVariables false

attribute [local go_sem] Oper.semAt_some

theorem trimmed_any (v : Value) (ts : List Tok) (w : World) (h : Toks w v ts) (hl : ts.length ≤ 1000000000000) (h0 : 0 < w.heap.size) : Calls Tryz.prog 80 #[v] w (TrimPost ts w) := by
  obtain ⟨a, cap, rfl, h1 | ⟨b, off, ha, hlt, hc⟩⟩ := h
  · exact (callsIn_wide (n := 5)).1 (trimmed_in a cap 0 0 ts w hl h0 (.inl h1))
  · exact (callsIn_wide (n := 5)).1 (trimmed_in a cap b off ts w hl hlt (.inr ⟨ha, hlt, hc⟩))

theorem fin8 {R : Ending → World → Prop} (tmps : Array Value) (Ds : List Nat) (W : World) (n₀ B : Nat) (v e p : Value) (h1 : tmps.getD 2 undef = v) (h2 : tmps.getD 3 undef = .pointer (some ⟨B, 0, none⟩)) (e1 : W.heap[B]? = some (.cells #[e, p] 27 (0, 0)))
    (hnd : Ds.Nodup) (hD : ∀ D ∈ Ds, n₀ ≤ D ∧ W.heap[D]? = some (.deferred (some []))) (hR : ∀ W', Past n₀ W W' → R (.returned (.tuple #[v, .agg #[e, p]])) W') :
    bodyPostM Fence.wide 5 Tryz.prog Tryz.f58 R .ret { tmps := tmps, defers := marks Ds } W := by
  show LeavesInM _ _ _ _ _ _ _ _ _
  refine leaves_marks n₀ Ds W hnd hD ?_
  intro W' hW'
  have k := hW'.2 _ _ e1 rfl
  have r0 := cell_at 0 k rfl
  have r1 := cell_at 1 k rfl
  rw [Array.getD_eq_getD_getElem?] at h1 h2
  refine ⟨_, ?_, hR W' hW'⟩
  simp [results, Tryz.results58, go_sem, h1, h2, r0, r1]
  try rfl
theorem fin8p {R : Ending → World → Prop} (tmps : Array Value) (W : World) (B : Nat) (v e p : Value) (h1 : tmps.getD 2 undef = v) (h2 : tmps.getD 3 undef = .pointer (some ⟨B, 0, none⟩)) (e1 : W.heap[B]? = some (.cells #[e, p] 27 (0, 0)))
    (hR : R (.returned (.tuple #[v, .agg #[e, p]])) W) :
    bodyPost Tryz.prog Tryz.f58 R .ret { tmps := tmps, defers := [] } W := by
  have r0 := cell_at 0 e1 rfl
  have r1 := cell_at 1 e1 rfl
  rw [Array.getD_eq_getD_getElem?] at h1 h2
  refine ⟨rfl, _, ?_, hR⟩
  simp [results, Tryz.results58, go_sem, h1, h2, r0, r1]
  try rfl

set_option maxRecDepth 100000 in
set_option maxHeartbeats 1000000 in
theorem Tokens_no (s : ByteArray) (x : Int × Nat) (h : toksL s.data.toList = .error x) (w : World) :
    Calls Tryz.prog 58 #[.string s] w fun e w' => e = .returned (.tuple #[.slice none 0 0, .agg #[.int .i64 x.1, .int .i64 (x.2 : Int)]]) ∧ Below w.heap.size w w' := by
  have HH := hide h
  unfold toksL at h
  rw [len_data] at h
  by_cases h1 : 64 < s.size
  · rw [if_pos h1] at h
    cases h
    have h1' : (64 : Int) < (s.size : Int) := by omega
    go_enter Tryz.func58, Tryz.ntmps58
    go_wp2_with fail
    exact fin8p _ _ w.heap.size _ _ _ rfl rfl (World.alloc_heap_new w _) ⟨rfl, (Below.refl _ w).alloc (Nat.le_refl _) _⟩
  · rw [if_neg h1] at h
    have h1' : ¬ (64 : Int) < (s.size : Int) := by omega
    by_cases h2 : 0 < s.size
    · have hne : s.data.toList ≠ [] := by intro e; have := len_data s; rw [e] at this; simp at this; omega
      rw [if_neg hne] at h
      have hem := eqE s h2
      have hem' : s.toList.isEmpty = false := by rw [toL]; exact emp s h2
      by_cases h3 : okN s.data.toList < s.size
      · rw [if_pos h3] at h
        cases h
        have h3' : (okN s.data.toList : Int) < (s.size : Int) := by omega
        have C := hide (fun w => wrongAt_any s w (by omega))
        clear hne HH
        generalize okN s.data.toList = k at *
        go_enter Tryz.func58, Tryz.ntmps58
        go_wp2_with fail
        refine (C.out _).mono ?_
        rintro e w' ⟨rfl, hw'⟩
        rw [hw']; clear hw' w'
        go_wp2_with fail
        exact fin8p _ _ w.heap.size _ _ _ rfl rfl (World.alloc_heap_new w _) ⟨rfl, (Below.refl _ w).alloc (Nat.le_refl _) _⟩
      · rw [if_neg h3] at h
        cases h
    · obtain rfl := size0 s h2
      rw [if_pos rfl] at h
      cases h
      clear h1 h1' h2 HH
      go_enter Tryz.func58, Tryz.ntmps58
      go_wp2_with fail
      exact fin8p _ _ w.heap.size _ _ _ rfl rfl (World.alloc_heap_new w _) ⟨rfl, (Below.refl _ w).alloc (Nat.le_refl _) _⟩

/-- Behind an append onto a row of the call's own. -/
theorem app_blocks {W w1 : World} {B0 : Nat} {v : Value} {k : Nat} {xs : List Value} {tmp : Obj} (hr : W.ownsRow B0 91 3 v k xs) (hS : B0 ≤ W.heap.size) (hg : (W.alloc tmp).grownBy w1 v.ownBlock) : (∀ k, k < B0 → w1.heap[k]? = W.heap[k]?) ∧ KeepsOthers W w1 := by
  refine ⟨fun k hk => (hg.block k (by simp; omega) (fun e => ?_)).trans (Below.heap_alloc _ _ _ (by omega)), (KeepsOthers.alloc W tmp).trans (KeepsOthers.of_grownBy hg fun j o ej hj => ?_)⟩
  · rcases hr.2 with ⟨h1, _⟩ | ⟨g, cap', cur, h1, hg, _⟩
    · rw [h1] at e; cases e
    · rw [h1] at e
      simp only [Value.ownBlock, Option.some.injEq] at e
      omega
  · rcases (hr.alloc tmp).2 with ⟨h1, _⟩ | ⟨g, cap', cur, h1, _, hgb, _⟩
    · rw [h1] at ej; cases ej
    · rw [h1] at ej
      simp only [Value.ownBlock, Option.some.injEq] at ej
      subst ej
      rw [hgb] at hj; cases hj; rfl

/-- What reading leaves. -/
def ToksPost (ts : List Tok) (w : World) (r : Ending) (w' : World) : Prop := ∃ v, r = .returned (.tuple #[v, .agg #[.int .i64 0, .int .i64 0]]) ∧ ToksN w.heap.size w' v ts ∧ Below w.heap.size w w'

theorem boxed_own' {β : Type} (B : Nat) (t : TypeId) (v : Value) : Own (fun (_ : β) W => Boxed W B t v) := by
  rintro s X Y row hv hg hrow
  exact hv.kept hg (fun e' => by
    obtain ⟨o, ho, hc⟩ := hrow B e'.symm
    rw [show X.heap[B]? = _ from hv] at ho; cases ho; cases hc)

set_option maxRecDepth 100000 in
set_option maxHeartbeats 4000000 in
theorem Tokens_in (s : ByteArray) (ts : List Tok) (h : toksL s.data.toList = .ok ts) (w : World) (hw0 : 0 < w.heap.size) :
    CallsIn Fence.wide 5 Tryz.prog 58 #[.string s] w (ToksPost ts w) := by
  unfold toksL at h
  rw [len_data] at h
  by_cases h1 : 64 < s.size
  · rw [if_pos h1] at h; cases h
  rw [if_neg h1] at h
  by_cases h2 : s.data.toList = []
  · rw [if_pos h2] at h; cases h
  rw [if_neg h2] at h
  by_cases h3 : okN s.data.toList < s.size
  · rw [if_pos h3] at h; cases h
  rw [if_neg h3] at h
  have hts : trimT (splitL s.data.toList) = ts := by cases h; rfl
  have hok := okN_all s.data.toList (by rw [len_data]; exact h3)
  have hp : 0 < s.size := by rcases Nat.eq_zero_or_pos s.size with e | e; exact absurd (List.length_eq_zero_iff.1 ((len_data s).trans e)) h2; exact e
  have hs : s.size ≤ 64 := by omega
  have hem := eqE s hp
  have hem' : s.toList.isEmpty = false := by rw [toL]; exact emp s hp
  have hoke : okN s.data.toList = s.size := by
    have := (List.takeWhile_sublist (l := s.data.toList) okM).length_le
    rw [len_data] at this
    unfold okN at h3 ⊢
    omega
  have CW := fun w => wrongAt_any s w hs
  rw [hoke] at CW
  have CW := hide CW
  have HTS := hide hts
  have HOK := hide hok
  have hsl : (splitL s.data.toList).length ≤ 65 := by
    have := splitN_len (s.data.toList.length + 1) false s.data.toList
    rw [len_data] at this
    unfold splitL
    rw [len_data]
    omega
  have h1' : ¬ (64 : Int) < (s.size : Int) := by omega
  clear h h1 h2 h3 hts hok hoke
  obtain ⟨i0, hi, hz0, hz1, hz2⟩ := info_parts Tryz.info91
  refine callsIn_of_wp_marks Tryz.func58 rfl trivial (wpIn_wide.2 ?_) rfl
  simp only [Tryz.ntmps58, List.size_toArray, List.length_cons, List.length_nil, Nat.reduceAdd, Nat.reduceSub, Array.replicate_succ, Array.replicate_zero, List.push_toArray, List.append_toArray, List.nil_append, List.cons_append]
  go_wp2_with fail
  refine (CW.out _).mono ?_
  rintro e w' ⟨rfl, hw'⟩
  rw [hw']; clear hw' w'
  go_wp2_with fail
  refine (split_any s _).mono ?_
  rintro e w1 ⟨rfl, hw1⟩
  have B3 : Below w.heap.size w w1 := by rw [hw1]; exact (((Below.refl _ w).alloc (Nat.le_refl _) _).alloc (by simp) _).alloc (by simp; omega) _
  have hz : w1.heap.size = w.heap.size + 1 + 1 + 1 := by rw [hw1]; simp
  have gf : At w1 w.heap.size (.cells #[.int .i64 0, .int .i64 0] 27 (0, 0)) := by
    show w1.heap[w.heap.size]? = _
    rw [hw1]
    exact (Below.heap_alloc _ _ _ (by simp; omega)).trans ((Below.heap_alloc _ _ _ (by simp)).trans (World.alloc_heap_new w _))
  have g0 : Boxed w1 (w.heap.size + 1) 60 (.slice none 0 0) := by
    show w1.heap[w.heap.size + 1]? = _
    rw [hw1]
    have k := World.alloc_heap_new (w.alloc (.cells #[.int .i64 0, .int .i64 0] 27)) (.cells #[.slice none 0 0] 60)
    rw [World.size_alloc] at k
    exact (Below.heap_alloc _ _ _ (by simp)).trans k
  have g2 : Boxed w1 (w.heap.size + 1 + 1) 9 (.string s) := by
    rw [hw1]
    have k := World.alloc_heap_new ((w.alloc (.cells #[.int .i64 0, .int .i64 0] 27)).alloc (.cells #[.slice none 0 0] 60)) (.cells #[.string s] 9)
    rw [World.size_alloc, World.size_alloc] at k
    exact k
  clear hw1
  simp only [World.size_alloc]
  go_wp2_with fail
  refine (wpIn_wide (n := 5)).1 ?_
  obtain ⟨ACT, hACT⟩ : ∃ ACT : Tok → Nat → Act, ACT = fun x X => { tmps := #[.string s, undef, .slice none 0 0, .pointer (some ⟨w.heap.size, 0, none⟩), .int .i64 (s.size : Int), .pointer (some ⟨w.heap.size + 1, 0, none⟩), .pointer (some ⟨X, 0, none⟩), .string s, .int .i64 (s.size : Int), .bool false, undef, .string s, .bool false, undef, .string s, .int .i64 (s.size : Int), .int .i64 (s.size : Int), .string s, .int .i64 (s.size : Int), .bool false, undef, undef, .string s, .func (.func 95) #[] #[.pointer (some ⟨w.heap.size + 1 + 1, 0, none⟩)], .agg #[.bool x.dash, .bool x.num, .string (ofL x.text)], undef, undef, undef, undef, undef, undef, undef], defers := [] } := ⟨_, rfl⟩
  refine wpIn_rangeFunc_ownH rfl (by omega) (gf := 95) (lb := #[.pointer (some ⟨w.heap.size + 1 + 1, 0, none⟩)]) rfl trivial (enters_of Tryz.func95 (by kernel_rfl) rfl)
    (split_stops 4 (by omega) (w.heap.size + 1 + 1) s hs HOK.out w1 g2) One.trans (one_b (by omega)) (Below.refl _ _) (fun _ => rfl)
    (fun pre W => (∃ v, Boxed W (w.heap.size + 1) 60 v ∧ W.ownsRow w1.heap.size 91 3 v pre.length (flatT pre) ∧ True) ∧ At W w.heap.size (.cells #[.int .i64 0, .int .i64 0] 27 (0, 0)) ∧ Below w.heap.size w W ∧ w1.heap.size ≤ W.heap.size)
    (fun _ _ _ => False)
    (fun pre X Y row h hg hr => ⟨(Own.from (holdsRow_own w1.heap.size (w.heap.size + 1) 60 91 3 (fun pre => pre.length) (fun pre => flatT pre) (fun _ _ => True)) w1.heap.size) pre X Y row h.1 hg hr, at_own (β := Unit) w1.heap.size _ _ (by omega) () X Y row h.2.1 hg hr, (ownFrom_below (β := Unit) (Nat.le_refl _) (by omega)) () X Y row h.2.2.1 hg hr, Nat.le_trans h.2.2.2 hg.size⟩)
    (fun _ _ _ _ _ h _ _ => h)
    ⟨⟨_, g0, World.ownsRow_nil _ _ _ _, trivial⟩, gf, B3, Nat.le_refl _⟩
    (fun x a' W => ∃ X, a' = ACT x X ∧ At W X (.cells #[.bool x.dash, .bool x.num, .string (ofL x.text)] 91 (0, 0)))
    (fun x a' u X Y row h hg hr => by
      obtain ⟨B, h2, h3⟩ := h
      exact ⟨B, h2, atc_own (β := Unit) w1.heap.size _ _ _ _ () X Y row h3 hg hr⟩) ?assign ?body ?done ?stop
  case assign =>
    rintro l pre x W K ⟨⟨v, hv, hr, _⟩, hA, hB, hS⟩ hK
    unfold tokV
    gi_wp2
    refine hK _ _ ((KeepsOthers.alloc _ _).from _) (Below.heap_alloc _ _ _ (by omega)) ⟨⟨v, hv.alloc _, hr.alloc _, trivial⟩, (Below.heap_alloc _ _ _ (by omega)).trans hA, hB.alloc hB.size _, by rw [World.size_alloc]; omega⟩ ⟨W.heap.size, ?_, World.alloc_heap_new W _⟩
    rw [hACT]
  case body =>
    rintro lx pre x a' Wi _ _ ⟨⟨v, hv, hr, _⟩, hA, hB, hS⟩ ⟨X, rfl, eX⟩ hlen
    rw [hACT]
    clear hACT g0 g2 gf
    dsimp only
    have hc := hv.cell
    have c0 := cell_at 0 (show Wi.heap[X]? = _ from eX) rfl
    have c1 := cell_at 1 (show Wi.heap[X]? = _ from eX) rfl
    have c2 := cell_at 2 (show Wi.heap[X]? = _ from eX) rfl
    gi_wp2_with (gi_at_builtin; refine wpListIn_append_own _ rfl _ _ 60 rfl w1.heap.size 91 i0 (.agg #[.bool false, .bool false, .string .empty]) 3 24 Tryz.underlying60 hi hz0 hz1 hz2 rfl (by decide) _ _ _ rfl (hr.alloc _) ⟨Wi.heap.size, 0, none⟩ 1 1 (rowT x) rfl rfl (cell_three_new _ _ _ _ _) (rowT_one _) (by unfold maxLen; omega) (by omega) (by simp; omega) ?_; intro v' w3 hown' hgrow _; obtain ⟨g', cap', rfl⟩ := ownsRow_succ hown'; obtain ⟨hk, hbx⟩ := app_blocks hr hS hgrow; have hv3 : Boxed w3 (w.heap.size + 1) 60 v := (hk _ (by omega)).trans hv; have hc1 := hv3.cell; have hf1 := hv3.frozen)
    refine ⟨hbx.from _ |>.trans ((KeepsOthers.setCell _ _ _).from _), (Below.heap_setCell _ _ _ _ (by simp only; omega)).trans (hk _ (by omega)), ⟨_, set_lies 0 _ hv3, ?_, trivial⟩, ?_, ?_, ?_⟩
    · rw [List.length_append, flatT_snoc]
      exact ownsRow_setCell_below hown' (a := ⟨w.heap.size + 1, 0, none⟩) (by simp only; omega) _
    · exact (Below.heap_setCell _ _ _ _ (by simp only; omega)).trans ((hk _ (by omega)).trans hA)
    · refine ⟨hgrow.os.trans hB.os, hgrow.tape.trans hB.tape, hgrow.output.trans hB.output, ?_, ?_⟩
      · have := hgrow.size
        have z := (KeepsOthers.setCell w3 ⟨w.heap.size + 1, 0, none⟩ (.slice (some ⟨g', 0, none⟩) (pre.length + 1) cap')).size
        simp only [World.size_alloc] at this
        omega
      · intro k hk'
        exact (Below.heap_setCell _ _ _ _ (by simp only; omega)).trans ((hk k (by omega)).trans (hB.block k hk'))
    · have := hgrow.size
      have z := (KeepsOthers.setCell w3 ⟨w.heap.size + 1, 0, none⟩ (.slice (some ⟨g', 0, none⟩) (pre.length + 1) cap')).size
      simp only [World.size_alloc] at this
      omega
  case done =>
    rintro D ys W hD rfl ⟨⟨v, hv, hr, _⟩, hA, hB, hS⟩ hK
    have cV := hv.cell
    clear hACT g0 g2 gf
    have CT := hide (trimmed_any v _ W (own_toks hr) (by omega) (by omega))
    gi_wp2
    go_wp2_with fail
    refine CT.out.mono ?_
    rintro e w4 ⟨v4, rfl, ht4, b4⟩
    have hA4 : w4.heap[w.heap.size]? = some (.cells #[.int .i64 0, .int .i64 0] 27 (0, 0)) := (b4.block _ (by omega)).trans hA
    have a0 := cell_at 0 hA4 rfl
    have a1 := cell_at 1 hA4 rfl
    have f0 := one_free 0 hA4
    have f1 := one_free 1 hA4
    go_wp2_with fail
    have hlD : D < W.heap.size := (Array.getElem?_eq_some_iff.1 hK).1
    have e5 : ((w4.setCell ⟨w.heap.size, 0, none⟩ (.int .i64 0)).setCell ⟨w.heap.size, 1, none⟩ (.int .i64 0)).heap[w.heap.size]? = some (.cells #[.int .i64 0, .int .i64 0] 27 (0, 0)) := set_lies 1 _ (set_lies 0 _ hA4)
    refine fin8 _ [D] _ w.heap.size w.heap.size v4 _ _ rfl rfl e5 (by simp) (by
      intro E hE
      rw [List.mem_singleton.1 hE]
      exact ⟨by omega, (Below.heap_setCell _ _ _ _ (by simp only; omega)).trans ((Below.heap_setCell _ _ _ _ (by simp only; omega)).trans ((b4.block _ hlD).trans hK))⟩) ?_
    intro W' hp
    have hb5 : Below w.heap.size w ((w4.setCell ⟨w.heap.size, 0, none⟩ (.int .i64 0)).setCell ⟨w.heap.size, 1, none⟩ (.int .i64 0)) := ((hB.trans (b4.mono hB.size)).setCell (p := ⟨w.heap.size, 0, none⟩) (Nat.le_refl _) _).setCell (p := ⟨w.heap.size, 1, none⟩) (Nat.le_refl _) _
    refine ⟨v4, rfl, ?_, hb5.trans hp.1⟩
    rw [← HTS.out]
    exact (((ht4.other _ _ _ (by omega)).other _ _ _ (by omega)).past hp).mono (by omega)
  case stop =>
    rintro D c ys W _ _ h _
    exact h.elim

theorem Tokens_ok (s : ByteArray) (ts : List Tok) (h : toksL s.data.toList = .ok ts) (w : World) (hw0 : 0 < w.heap.size) : Calls Tryz.prog 58 #[.string s] w (ToksPost ts w) :=
  (callsIn_wide (n := 5)).1 (Tokens_in s ts h w hw0)

end Go.Proofs.YtpedljmpobhimaaGreatDoor
