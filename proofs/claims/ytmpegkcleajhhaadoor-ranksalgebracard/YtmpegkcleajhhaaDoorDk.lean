/-
  Walks: two sets merged.
-/
import Derived.Test.YtmpegkcleajhhaaDoorDj
namespace Go.Proofs.YtmpegkcleajhhaaDoor
open Go.RowKit Go.Shelf
set_option linter.unusedVariables false

attribute [local go_sem] Oper.semAt_some

/-- Behind an append onto a row of the call's own. -/
theorem app_blocks {W w1 : World} {B0 : Nat} {v : Value} {k : Nat} {xs : List Value} {tmp : Obj} (hr : W.ownsRow B0 45 2 v k xs) (hS : B0 ≤ W.heap.size) (hg : (W.alloc tmp).grownBy w1 v.ownBlock) : (∀ k, k < B0 → w1.heap[k]? = W.heap[k]?) ∧ KeepsOthers W w1 := by
  refine ⟨fun k hk => (hg.block k (by simp; omega) (fun e => ?_)).trans (Below.heap_alloc _ _ _ (by omega)), (KeepsOthers.alloc W tmp).trans (KeepsOthers.of_grownBy hg fun j o ej hj => ?_)⟩
  · rcases hr.2 with ⟨h1, _⟩ | ⟨g, cap', cur, h1, hg, _⟩
    · rw [h1] at e; cases e
    · rw [h1] at e
      simp only [Value.ownBlock, Option.some.injEq] at e
      omega
  · rcases (hr.alloc tmp).2 with ⟨h1, _⟩ | ⟨g, cap', cur, h1, _, hgb, _⟩
    · rw [h1] at ej; cases ej
    · rw [h1] at ej
      simp only [Value.ownBlock, Option.some.injEq] at ej
      subst ej
      rw [hgb] at hj; cases hj; rfl
/-- What stands behind the edges so far. -/
structure MJ (w w1 : World) (KF : Value) (s : List Sp × Bool) (W : World) : Prop where
  row : ∃ v, Boxed W (w.heap.size + 1) 22 v ∧ W.ownsRow w1.heap.size 45 2 v s.1.length (flatS s.1) ∧ True
  kf : At W w.heap.size (.cells #[KF] 49 (0, 0))
  ins : At W (w.heap.size + 1 + 1) (.cells #[.bool s.2] 4 (0, 0))
  bel : Below w.heap.size w W
  sz : w1.heap.size ≤ W.heap.size
theorem fin43 {R : Ending → World → Prop} (tmps : Array Value) (Ds : List Nat) (W : World) (n₀ : Nat) (v : Value) (h1 : tmps.getD 6 undef = v)
    (hnd : Ds.Nodup) (hD : ∀ D ∈ Ds, n₀ ≤ D ∧ W.heap[D]? = some (.deferred (some []))) (hR : ∀ W', Past n₀ W W' → R (.returned v) W') :
    bodyPostM Fence.wide 5 Tryd.prog Tryd.f43 R .ret { tmps := tmps, defers := marks Ds } W := by
  show LeavesInM _ _ _ _ _ _ _ _ _
  refine leaves_marks n₀ Ds W hnd hD ?_
  intro W' hW'
  rw [Array.getD_eq_getD_getElem?] at h1
  refine ⟨_, ?_, hR W' hW'⟩
  simp [results, Tryd.results43, go_sem, h1]
  try rfl

set_option maxRecDepth 100000 in
set_option maxHeartbeats 4000000 in
theorem merged_in (F : Nat) (hF : ∀ args w, (callFunc F args).run Tryd.prog w = .ok (.enter F args) w) (aa ab : Option Addr) (ca cb : Nat) (a b : List Sp) (w : World) (hA : Spans w (.slice aa a.length ca) a) (hB : Spans w (.slice ab b.length cb) b)
    (ha : ∀ x ∈ flatE a, x < 9223372036854775807) (hb : ∀ x ∈ flatE b, x < 9223372036854775807) (hla : a.length ≤ 65536) (hlb : b.length ≤ 65536) (X Y : Nat) (keep : Int → Bool)
    (HC : ∀ r W, Low w W → Calls Tryd.prog F #[.int .i64 r, .pointer (some ⟨X, 0, none⟩), .pointer (some ⟨Y, 0, none⟩)] W fun e w' => e = .returned (.bool (keep r)) ∧ Below W.heap.size W w') :
    CallsIn Fence.wide 5 Tryd.prog 43 #[.slice aa a.length ca, .slice ab b.length cb, .func (.func F) #[] #[.pointer (some ⟨X, 0, none⟩), .pointer (some ⟨Y, 0, none⟩)]] w (SetPost (mgL keep (edgesL a b) none) w) := by
  have HK := hide HC
  clear HC
  have hel : (edgesL a b).length ≤ 300000 := by
    have h := edL_len (flatE a) (flatE b)
    rw [flat_len, flat_len] at h
    unfold edgesL
    omega
  obtain ⟨i0, hi, hz0, hz1, hz2⟩ := info_parts Tryd.info45
  refine callsIn_of_wp_marks Tryd.func43 rfl trivial (wpIn_wide.2 ?_) rfl
  simp only [Tryd.ntmps43, List.size_toArray, List.length_cons, List.length_nil, Nat.reduceAdd, Nat.reduceSub, Array.replicate_succ, Array.replicate_zero, List.push_toArray, List.append_toArray, List.nil_append, List.cons_append]
  go_wp2_with fail
  refine (edges_any _ _ _ _ _ _ _).mono ?_
  rintro e w1 ⟨rfl, hw1⟩
  have B3 : Below w.heap.size w w1 := by rw [hw1]; exact (((((Below.refl _ w).alloc (Nat.le_refl _) _).alloc (by simp) _).alloc (by simp; omega) _).alloc (by simp; omega) _).alloc (by simp; omega) _
  have hz : w1.heap.size = w.heap.size + 1 + 1 + 1 + 1 + 1 := by rw [hw1]; simp
  have gk : At w1 w.heap.size (.cells #[.func (.func F) #[] #[.pointer (some ⟨X, 0, none⟩), .pointer (some ⟨Y, 0, none⟩)]] 49 (0, 0)) := by
    show w1.heap[w.heap.size]? = _
    rw [hw1]
    exact (Below.heap_alloc _ _ _ (by simp; omega)).trans ((Below.heap_alloc _ _ _ (by simp; omega)).trans ((Below.heap_alloc _ _ _ (by simp; omega)).trans ((Below.heap_alloc _ _ _ (by simp)).trans (World.alloc_heap_new w _))))
  have g0 : Boxed w1 (w.heap.size + 1) 22 (.slice none 0 0) := by
    show w1.heap[w.heap.size + 1]? = _
    rw [hw1]
    have k := World.alloc_heap_new (w.alloc (.cells #[.func (.func F) #[] #[.pointer (some ⟨X, 0, none⟩), .pointer (some ⟨Y, 0, none⟩)]] 49)) (.cells #[.slice none 0 0] 22)
    rw [World.size_alloc] at k
    exact (Below.heap_alloc _ _ _ (by simp <;> omega)).trans ((Below.heap_alloc _ _ _ (by simp <;> omega)).trans ((Below.heap_alloc _ _ _ (by simp)).trans k))
  have g1 : At w1 (w.heap.size + 1 + 1) (.cells #[.bool false] 4 (0, 0)) := by
    show w1.heap[w.heap.size + 1 + 1]? = _
    rw [hw1]
    have k := World.alloc_heap_new ((w.alloc (.cells #[.func (.func F) #[] #[.pointer (some ⟨X, 0, none⟩), .pointer (some ⟨Y, 0, none⟩)]] 49)).alloc (.cells #[.slice none 0 0] 22)) (.cells #[.bool false] 4)
    rw [World.size_alloc, World.size_alloc] at k
    exact (Below.heap_alloc _ _ _ (by simp <;> omega)).trans ((Below.heap_alloc _ _ _ (by simp)).trans k)
  have gA : Boxed w1 (w.heap.size + 1 + 1 + 1) 22 (.slice aa a.length ca) := by
    show w1.heap[w.heap.size + 1 + 1 + 1]? = _
    rw [hw1]
    have k := World.alloc_heap_new (((w.alloc (.cells #[.func (.func F) #[] #[.pointer (some ⟨X, 0, none⟩), .pointer (some ⟨Y, 0, none⟩)]] 49)).alloc (.cells #[.slice none 0 0] 22)).alloc (.cells #[.bool false] 4)) (.cells #[.slice aa a.length ca] 22)
    rw [World.size_alloc, World.size_alloc, World.size_alloc] at k
    exact (Below.heap_alloc _ _ _ (by simp)).trans k
  have gB : Boxed w1 (w.heap.size + 1 + 1 + 1 + 1) 22 (.slice ab b.length cb) := by
    show w1.heap[w.heap.size + 1 + 1 + 1 + 1]? = _
    rw [hw1]
    have k := World.alloc_heap_new ((((w.alloc (.cells #[.func (.func F) #[] #[.pointer (some ⟨X, 0, none⟩), .pointer (some ⟨Y, 0, none⟩)]] 49)).alloc (.cells #[.slice none 0 0] 22)).alloc (.cells #[.bool false] 4)).alloc (.cells #[.slice aa a.length ca] 22)) (.cells #[.slice ab b.length cb] 22)
    rw [World.size_alloc, World.size_alloc, World.size_alloc, World.size_alloc] at k
    exact k
  have EST := edges_stops 4 (by omega) (w.heap.size + 1 + 1 + 1) (w.heap.size + 1 + 1 + 1 + 1) aa ab ca cb a b w w1 hA hB ha hb (by omega) (by omega) (Low.ofBelow B3) (by omega) gA gB
  clear hw1 hA hB ha hb
  simp only [World.size_alloc]
  go_wp2_with fail
  refine (wpIn_wide (n := 5)).1 ?_
  obtain ⟨ACT, hACT⟩ : ∃ ACT : Int → Act, ACT = fun x => { tmps := #[.slice aa a.length ca, .slice ab b.length cb, .func (.func F) #[] #[.pointer (some ⟨X, 0, none⟩), .pointer (some ⟨Y, 0, none⟩)], undef, undef, .pointer (some ⟨w.heap.size, 0, none⟩), .slice none 0 0, .pointer (some ⟨w.heap.size + 1, 0, none⟩), .pointer (some ⟨w.heap.size + 1 + 1, 0, none⟩), .int .i64 x, .slice aa a.length ca, .slice ab b.length cb, .func (.func 60) #[] #[.pointer (some ⟨w.heap.size + 1 + 1 + 1, 0, none⟩), .pointer (some ⟨w.heap.size + 1 + 1 + 1 + 1, 0, none⟩)], .int .i64 x, undef, undef, undef, undef, undef, undef, undef, undef, undef, undef, undef, undef, undef, undef, undef, undef, undef, undef, undef, undef, undef], defers := [] } := ⟨_, rfl⟩
  refine wpIn_rangeFunc_ownH rfl (by omega) (gf := 60) (lb := #[.pointer (some ⟨w.heap.size + 1 + 1 + 1, 0, none⟩), .pointer (some ⟨w.heap.size + 1 + 1 + 1 + 1, 0, none⟩)]) rfl trivial (enters_of Tryd.func60 (by kernel_rfl) rfl)
    EST Kq.trans (kq_b (by omega) (by omega) (by omega)) (Below.refl _ _) (fun _ => rfl)
    (fun pre W => MJ w w1 (.func (.func F) #[] #[.pointer (some ⟨X, 0, none⟩), .pointer (some ⟨Y, 0, none⟩)]) (foldM keep pre) W)
    (fun _ _ _ => False)
    (fun pre X Y row h hg hr => ⟨(Own.from (holdsRow_own w1.heap.size (w.heap.size + 1) 22 45 2 (fun pre => (foldM keep pre).1.length) (fun pre => flatS (foldM keep pre).1) (fun _ _ => True)) w1.heap.size) pre X Y row h.row hg hr, at_own (β := Unit) w1.heap.size _ _ (by omega) () X Y row h.kf hg hr, at_own (β := Unit) w1.heap.size _ _ (by omega) () X Y row h.ins hg hr, (ownFrom_below (β := Unit) (Nat.le_refl _) (by omega)) () X Y row h.bel hg hr, Nat.le_trans h.sz hg.size⟩)
    (fun _ _ _ _ _ h _ _ => h)
    ⟨⟨_, g0, World.ownsRow_nil _ _ _ _, trivial⟩, gk, g1, B3, Nat.le_refl _⟩
    (fun x a' W => a' = ACT x)
    (fun x a' u X Y row h hg hr => h) ?assign ?body ?done ?stop
  case assign =>
    rintro l pre x W K ⟨⟨v, hv, hr, _⟩, hA, hI, hB, hS⟩ hK
    gi_wp2
    refine hK _ _ ((KeepsOthers.refl _).from _) ⟨fun _ _ => rfl, rfl, rfl⟩ ⟨⟨v, hv, hr, trivial⟩, hA, hI, hB, hS⟩ ?_
    rw [hACT]
  case body =>
    rintro lx pre x a' Wi _ _ ⟨⟨v, hv, hr, _⟩, hA, hI, hB, hS⟩ rfl hlen
    rw [hACT]
    clear hACT g0 g1 gk gA gB EST
    dsimp only
    obtain ⟨hFL, hFT⟩ := foldM_inv keep _ pre rfl
    have HS1 := hide (foldM_snoc keep pre x)
    generalize foldM keep pre = s at *
    obtain ⟨S, ins⟩ := s
    dsimp only at hv hr hI hFL hFT HS1
    have hLow : Low w Wi := Low.ofBelow hB
    have CK := hide (fun W (h : Below Wi.heap.size Wi W) => HK.out x W (hLow.below h))
    have hIl : w.heap.size + 1 + 1 < Wi.heap.size := by omega
    have hB0 : Below Wi.heap.size Wi Wi.drew := below_drewN _ Wi 1
    have cA := cell_at 0 ((hB0.block _ (by omega)).trans hA) rfl
    have cI := cell_at 0 ((hB0.block _ hIl).trans hI) rfl
    have hpl : pre.length ≤ 300000 := by omega
    generalize hkx : keep x = kx at *
    gi_wp2
    refine wpIn_mono (Q := fun e a' W => e = .normal ∧ a' = { tmps := #[.slice aa a.length ca, .slice ab b.length cb, .func (.func F) #[] #[.pointer (some ⟨X, 0, none⟩), .pointer (some ⟨Y, 0, none⟩)], undef, undef, .pointer (some ⟨w.heap.size, 0, none⟩), .slice none 0 0, .pointer (some ⟨w.heap.size + 1, 0, none⟩), .pointer (some ⟨w.heap.size + 1 + 1, 0, none⟩), .int .i64 x, .slice aa a.length ca, .slice ab b.length cb, .func (.func 60) #[] #[.pointer (some ⟨w.heap.size + 1 + 1 + 1, 0, none⟩), .pointer (some ⟨w.heap.size + 1 + 1 + 1 + 1, 0, none⟩)], .int .i64 x, .func (.func F) #[] #[.pointer (some ⟨X, 0, none⟩), .pointer (some ⟨Y, 0, none⟩)], .int .i64 x, .bool kx, .bool ins, .bool (kx == ins), undef, undef, undef, undef, undef, undef, undef, undef, undef, undef, undef, undef, undef, undef, undef, undef], defers := [] } ∧ Below Wi.heap.size Wi W) ?reg ?cont
    case reg =>
      refine wpIn_region_any (by kernel_rfl) ?_
      refine wpAnyIn_round (F := Fence.wide) rfl (noDefer_of (by kernel_rfl)) _ _ _ _ ?_
      change wpAnyIn _ _ _ _ _ _ _ _ _ (World.drew _)
      refine wpAnyIn_ready (rs := [0, 1, 3]) (by kernel_rfl) (by simp) ?_
      refine AllReadyIn.cons rfl (fun K hK => ?_) ?_
      · go_simp
        refine hK _ _ ?_
        clear hK K
        refine wpAnyIn_ready (rs := [1, 3]) (by kernel_rfl) (by simp) ?_
        refine AllReadyIn.cons rfl (fun K hK => ?_) ?_
        · go_simp
          refine hK _ _ ?_
          clear hK K
          refine wpAnyIn_ready (rs := [2, 3]) (by kernel_rfl) (by simp) ?_
          refine AllReadyIn.cons rfl (fun K hK => ?_) ?_
          · go_simp
            refine ⟨trivial, (callsIn_wide.2 (CK.out _ hB0)).mono ?_⟩
            rintro e w2 ⟨rfl, b2⟩
            have hB2 : Below Wi.heap.size Wi w2 := hB0.trans (b2.mono hB0.size)
            have cI2 := cell_at 0 ((hB2.block _ hIl).trans hI) rfl
            refine hK _ _ ?_
            clear hK K
            refine wpAnyIn_ready (rs := [3]) (by kernel_rfl) (by simp) ?_
            refine AllReadyIn.cons rfl (fun K hK => ?_) ?_
            · go_simp
              refine hK _ _ ?_
              clear hK K
              refine wpAnyIn_ready (rs := [4]) (by kernel_rfl) (by simp) ?_
              refine AllReadyIn.cons rfl (fun K hK => ?_) ?_
              · go_simp
                refine hK _ _ ?_
                clear hK K
                refine wpAnyIn_done (by kernel_rfl) ?_ _
                exact ⟨rfl, rfl, hB2⟩
              exact AllReadyIn.nil
            exact AllReadyIn.nil
          refine AllReadyIn.cons rfl (fun K hK => ?_) ?_
          · go_simp
            refine hK _ _ ?_
            clear hK K
            refine wpAnyIn_ready (rs := [2]) (by kernel_rfl) (by simp) ?_
            refine AllReadyIn.cons rfl (fun K hK => ?_) ?_
            · go_simp
              refine ⟨trivial, (callsIn_wide.2 (CK.out _ hB0)).mono ?_⟩
              rintro e w2 ⟨rfl, b2⟩
              have hB2 : Below Wi.heap.size Wi w2 := hB0.trans (b2.mono hB0.size)
              have cI2 := cell_at 0 ((hB2.block _ hIl).trans hI) rfl
              refine hK _ _ ?_
              clear hK K
              refine wpAnyIn_ready (rs := [4]) (by kernel_rfl) (by simp) ?_
              refine AllReadyIn.cons rfl (fun K hK => ?_) ?_
              · go_simp
                refine hK _ _ ?_
                clear hK K
                refine wpAnyIn_done (by kernel_rfl) ?_ _
                exact ⟨rfl, rfl, hB2⟩
              exact AllReadyIn.nil
            exact AllReadyIn.nil
          exact AllReadyIn.nil
        refine AllReadyIn.cons rfl (fun K hK => ?_) ?_
        · go_simp
          refine hK _ _ ?_
          clear hK K
          refine wpAnyIn_ready (rs := [1]) (by kernel_rfl) (by simp) ?_
          refine AllReadyIn.cons rfl (fun K hK => ?_) ?_
          · go_simp
            refine hK _ _ ?_
            clear hK K
            refine wpAnyIn_ready (rs := [2]) (by kernel_rfl) (by simp) ?_
            refine AllReadyIn.cons rfl (fun K hK => ?_) ?_
            · go_simp
              refine ⟨trivial, (callsIn_wide.2 (CK.out _ hB0)).mono ?_⟩
              rintro e w2 ⟨rfl, b2⟩
              have hB2 : Below Wi.heap.size Wi w2 := hB0.trans (b2.mono hB0.size)
              have cI2 := cell_at 0 ((hB2.block _ hIl).trans hI) rfl
              refine hK _ _ ?_
              clear hK K
              refine wpAnyIn_ready (rs := [4]) (by kernel_rfl) (by simp) ?_
              refine AllReadyIn.cons rfl (fun K hK => ?_) ?_
              · go_simp
                refine hK _ _ ?_
                clear hK K
                refine wpAnyIn_done (by kernel_rfl) ?_ _
                exact ⟨rfl, rfl, hB2⟩
              exact AllReadyIn.nil
            exact AllReadyIn.nil
          exact AllReadyIn.nil
        exact AllReadyIn.nil
      refine AllReadyIn.cons rfl (fun K hK => ?_) ?_
      · go_simp
        refine hK _ _ ?_
        clear hK K
        refine wpAnyIn_ready (rs := [0, 3]) (by kernel_rfl) (by simp) ?_
        refine AllReadyIn.cons rfl (fun K hK => ?_) ?_
        · go_simp
          refine hK _ _ ?_
          clear hK K
          refine wpAnyIn_ready (rs := [2, 3]) (by kernel_rfl) (by simp) ?_
          refine AllReadyIn.cons rfl (fun K hK => ?_) ?_
          · go_simp
            refine ⟨trivial, (callsIn_wide.2 (CK.out _ hB0)).mono ?_⟩
            rintro e w2 ⟨rfl, b2⟩
            have hB2 : Below Wi.heap.size Wi w2 := hB0.trans (b2.mono hB0.size)
            have cI2 := cell_at 0 ((hB2.block _ hIl).trans hI) rfl
            refine hK _ _ ?_
            clear hK K
            refine wpAnyIn_ready (rs := [3]) (by kernel_rfl) (by simp) ?_
            refine AllReadyIn.cons rfl (fun K hK => ?_) ?_
            · go_simp
              refine hK _ _ ?_
              clear hK K
              refine wpAnyIn_ready (rs := [4]) (by kernel_rfl) (by simp) ?_
              refine AllReadyIn.cons rfl (fun K hK => ?_) ?_
              · go_simp
                refine hK _ _ ?_
                clear hK K
                refine wpAnyIn_done (by kernel_rfl) ?_ _
                exact ⟨rfl, rfl, hB2⟩
              exact AllReadyIn.nil
            exact AllReadyIn.nil
          refine AllReadyIn.cons rfl (fun K hK => ?_) ?_
          · go_simp
            refine hK _ _ ?_
            clear hK K
            refine wpAnyIn_ready (rs := [2]) (by kernel_rfl) (by simp) ?_
            refine AllReadyIn.cons rfl (fun K hK => ?_) ?_
            · go_simp
              refine ⟨trivial, (callsIn_wide.2 (CK.out _ hB0)).mono ?_⟩
              rintro e w2 ⟨rfl, b2⟩
              have hB2 : Below Wi.heap.size Wi w2 := hB0.trans (b2.mono hB0.size)
              have cI2 := cell_at 0 ((hB2.block _ hIl).trans hI) rfl
              refine hK _ _ ?_
              clear hK K
              refine wpAnyIn_ready (rs := [4]) (by kernel_rfl) (by simp) ?_
              refine AllReadyIn.cons rfl (fun K hK => ?_) ?_
              · go_simp
                refine hK _ _ ?_
                clear hK K
                refine wpAnyIn_done (by kernel_rfl) ?_ _
                exact ⟨rfl, rfl, hB2⟩
              exact AllReadyIn.nil
            exact AllReadyIn.nil
          exact AllReadyIn.nil
        refine AllReadyIn.cons rfl (fun K hK => ?_) ?_
        · go_simp
          refine hK _ _ ?_
          clear hK K
          refine wpAnyIn_ready (rs := [0]) (by kernel_rfl) (by simp) ?_
          refine AllReadyIn.cons rfl (fun K hK => ?_) ?_
          · go_simp
            refine hK _ _ ?_
            clear hK K
            refine wpAnyIn_ready (rs := [2]) (by kernel_rfl) (by simp) ?_
            refine AllReadyIn.cons rfl (fun K hK => ?_) ?_
            · go_simp
              refine ⟨trivial, (callsIn_wide.2 (CK.out _ hB0)).mono ?_⟩
              rintro e w2 ⟨rfl, b2⟩
              have hB2 : Below Wi.heap.size Wi w2 := hB0.trans (b2.mono hB0.size)
              have cI2 := cell_at 0 ((hB2.block _ hIl).trans hI) rfl
              refine hK _ _ ?_
              clear hK K
              refine wpAnyIn_ready (rs := [4]) (by kernel_rfl) (by simp) ?_
              refine AllReadyIn.cons rfl (fun K hK => ?_) ?_
              · go_simp
                refine hK _ _ ?_
                clear hK K
                refine wpAnyIn_done (by kernel_rfl) ?_ _
                exact ⟨rfl, rfl, hB2⟩
              exact AllReadyIn.nil
            exact AllReadyIn.nil
          exact AllReadyIn.nil
        exact AllReadyIn.nil
      refine AllReadyIn.cons rfl (fun K hK => ?_) ?_
      · go_simp
        refine hK _ _ ?_
        clear hK K
        refine wpAnyIn_ready (rs := [0, 1]) (by kernel_rfl) (by simp) ?_
        refine AllReadyIn.cons rfl (fun K hK => ?_) ?_
        · go_simp
          refine hK _ _ ?_
          clear hK K
          refine wpAnyIn_ready (rs := [1]) (by kernel_rfl) (by simp) ?_
          refine AllReadyIn.cons rfl (fun K hK => ?_) ?_
          · go_simp
            refine hK _ _ ?_
            clear hK K
            refine wpAnyIn_ready (rs := [2]) (by kernel_rfl) (by simp) ?_
            refine AllReadyIn.cons rfl (fun K hK => ?_) ?_
            · go_simp
              refine ⟨trivial, (callsIn_wide.2 (CK.out _ hB0)).mono ?_⟩
              rintro e w2 ⟨rfl, b2⟩
              have hB2 : Below Wi.heap.size Wi w2 := hB0.trans (b2.mono hB0.size)
              have cI2 := cell_at 0 ((hB2.block _ hIl).trans hI) rfl
              refine hK _ _ ?_
              clear hK K
              refine wpAnyIn_ready (rs := [4]) (by kernel_rfl) (by simp) ?_
              refine AllReadyIn.cons rfl (fun K hK => ?_) ?_
              · go_simp
                refine hK _ _ ?_
                clear hK K
                refine wpAnyIn_done (by kernel_rfl) ?_ _
                exact ⟨rfl, rfl, hB2⟩
              exact AllReadyIn.nil
            exact AllReadyIn.nil
          exact AllReadyIn.nil
        refine AllReadyIn.cons rfl (fun K hK => ?_) ?_
        · go_simp
          refine hK _ _ ?_
          clear hK K
          refine wpAnyIn_ready (rs := [0]) (by kernel_rfl) (by simp) ?_
          refine AllReadyIn.cons rfl (fun K hK => ?_) ?_
          · go_simp
            refine hK _ _ ?_
            clear hK K
            refine wpAnyIn_ready (rs := [2]) (by kernel_rfl) (by simp) ?_
            refine AllReadyIn.cons rfl (fun K hK => ?_) ?_
            · go_simp
              refine ⟨trivial, (callsIn_wide.2 (CK.out _ hB0)).mono ?_⟩
              rintro e w2 ⟨rfl, b2⟩
              have hB2 : Below Wi.heap.size Wi w2 := hB0.trans (b2.mono hB0.size)
              have cI2 := cell_at 0 ((hB2.block _ hIl).trans hI) rfl
              refine hK _ _ ?_
              clear hK K
              refine wpAnyIn_ready (rs := [4]) (by kernel_rfl) (by simp) ?_
              refine AllReadyIn.cons rfl (fun K hK => ?_) ?_
              · go_simp
                refine hK _ _ ?_
                clear hK K
                refine wpAnyIn_done (by kernel_rfl) ?_ _
                exact ⟨rfl, rfl, hB2⟩
              exact AllReadyIn.nil
            exact AllReadyIn.nil
          exact AllReadyIn.nil
        exact AllReadyIn.nil
      exact AllReadyIn.nil
    case cont =>
      rintro e a' W2 ⟨rfl, rfl, hb2⟩
      have hv2 : Boxed W2 (w.heap.size + 1) 22 v := (hb2.block _ (by omega)).trans hv
      have hr2 := own_below hr hb2
      have hA2 := (hb2.block _ (by omega)).trans hA
      have hI2 : W2.heap[w.heap.size + 1 + 1]? = some (.cells #[.bool ins] 4 (0, 0)) := (hb2.block _ hIl).trans hI
      have hB2 : Below w.heap.size w W2 := hB.trans (hb2.mono hB.size)
      have hS2 : w1.heap.size ≤ W2.heap.size := Nat.le_trans hS hb2.size
      have hko : KeepsOthers Wi W2 := KeepsOthers.of_grownBy (below_grown hb2) (fun j o ej hj => by cases ej)
      have HKQ : Hid (Kq w (w.heap.size + 1 + 1 + 1) (w.heap.size + 1 + 1 + 1 + 1) Wi W2) := ⟨fun k hk => hb2.block k (by omega), hb2.block _ (by omega), hb2.block _ (by omega)⟩
      have cI2 := cell_at 0 hI2 rfl
      clear hv hr hA hI hB hS cA cI hB0 CK hLow hb2
      dsimp only
      have hz1' : w.heap.size + 1 + 1 < w1.heap.size := by omega
      have hz2' : w.heap.size + 1 + 1 + 1 + 1 < w1.heap.size := by omega
      clear hz
      cases ins
      · cases kx
        · have HX : Hid (foldM keep (pre ++ [x]) = (S, false)) := by show _ = _; rw [HS1.out, step_stay (by exact hkx)]
          gi_wp2
          refine ⟨hko.from _, HKQ.out, ⟨⟨v, hv2, ?_, trivial⟩, hA2, ?_, hB2, hS2⟩⟩
          · rw [HX.out]; exact hr2
          · rw [HX.out]; exact hI2
        · have HX : Hid (foldM keep (pre ++ [x]) = (S ++ [(x, 0)], true)) := by show _ = _; rw [HS1.out, step_open hkx]
          have cV := hv2.cell
          gi_wp2_with (gi_at_builtin; refine wpListIn_append_own _ rfl _ _ 22 rfl w1.heap.size 45 i0 (.agg #[.int .i64 0, .int .i64 0]) 2 16 Tryd.underlying22 hi hz0 hz1 hz2 rfl (by decide) _ _ _ rfl (hr2.alloc _) ⟨W2.heap.size, 0, none⟩ 1 1 (rowS (x, 0)) rfl rfl (cell_two_new _ _ _ _) (rowS_one _) (by unfold maxLen; omega) (by omega) (by simp; omega) ?_; intro v' w3 hown' hgrow _; obtain ⟨g', cap', rfl⟩ := ownsRow_succ hown'; obtain ⟨hk, hbx⟩ := app_blocks hr2 hS2 hgrow; have hv3 : Boxed w3 (w.heap.size + 1) 22 v := (hk _ (by omega)).trans hv2; have hc1 := hv3.cell; have hf1 := hv3.frozen; have hI3 : w3.heap[w.heap.size + 1 + 1]? = some (.cells #[.bool false] 4 (0, 0)) := (hk _ (by omega)).trans hI2; have hI4 : (w3.setCell ⟨w.heap.size + 1, 0, none⟩ (.slice (some ⟨g', 0, none⟩) (S.length + 1) cap')).heap[w.heap.size + 1 + 1]? = some (.cells #[.bool false] 4 (0, 0)) := (Below.heap_setCell _ _ _ _ (by simp only; omega)).trans hI3; have cI4 := cell_at 0 hI4 rfl; have fI4 := one_free 0 hI4)
          have b3 : Below w1.heap.size W2 w3 := ((Below.refl _ W2).alloc hS2 _).trans (below_own (hr2.alloc _) (by simp; omega) hgrow)
          have hZ : ∀ k, k < w1.heap.size → k ≠ w.heap.size + 1 → k ≠ w.heap.size + 1 + 1 → ((w3.setCell ⟨w.heap.size + 1, 0, none⟩ (.slice (some ⟨g', 0, none⟩) (S.length + 1) cap')).setCell ⟨w.heap.size + 1 + 1, 0, none⟩ (.bool true)).heap[k]? = W2.heap[k]? := fun k h1 h2 h3 => (Below.heap_setCell _ _ _ _ h3).trans ((Below.heap_setCell _ _ _ _ h2).trans (hk k h1))
          refine ⟨(((hko.trans hbx).trans (KeepsOthers.setCell _ _ _)).trans (KeepsOthers.setCell _ _ _)).from _, HKQ.out.trans ⟨fun k h => hZ k (by omega) (by omega) (by omega), hZ _ (by omega) (by omega) (by omega), hZ _ (by omega) (by omega) (by omega)⟩, ⟨⟨_, (Below.heap_setCell _ _ _ _ (by simp only; omega)).trans (set_lies 0 _ hv3), ?_, trivial⟩, (hZ _ (by omega) (by omega) (by omega)).trans hA2, ?_, ?_, ?_⟩⟩
          · rw [HX.out, List.length_append, flatS_snoc]
            exact ownsRow_setCell_below (ownsRow_setCell_below hown' (a := ⟨w.heap.size + 1, 0, none⟩) (by simp only; omega) _) (a := ⟨w.heap.size + 1 + 1, 0, none⟩) (by simp only; omega) _
          · rw [HX.out]; exact set_lies 0 _ hI4
          · exact ((hB2.trans (b3.mono (by omega))).setCell (p := ⟨w.heap.size + 1, 0, none⟩) (by simp only; omega) _).setCell (p := ⟨w.heap.size + 1 + 1, 0, none⟩) (by simp only; omega) _
          · have h1 := b3.size
            have z := (KeepsOthers.setCell w3 ⟨w.heap.size + 1, 0, none⟩ (.slice (some ⟨g', 0, none⟩) (S.length + 1) cap')).size
            have z2 := (KeepsOthers.setCell (w3.setCell ⟨w.heap.size + 1, 0, none⟩ (.slice (some ⟨g', 0, none⟩) (S.length + 1) cap')) ⟨w.heap.size + 1 + 1, 0, none⟩ (.bool true)).size
            omega
      · obtain ⟨T, lo, rfl⟩ := hFT rfl
        cases kx
        · have HX : Hid (foldM keep (pre ++ [x]) = (T ++ [(lo, x)], false)) := by show _ = _; rw [HS1.out, step_shut hkx]
          obtain ⟨rfl, h0⟩ | ⟨g, cap, hv', hg, hgl⟩ := own_block hr2
          · simp at h0
          · subst hv'
            obtain ⟨_, hcc⟩ := flatS_at (T ++ [(lo, 0)]) T.length (lo, 0) (by simp)
            obtain ⟨c1, f1⟩ := own_cell hr2 hcc
            have HO := hide hr2
            clear hr2 hcc
            have cV := hv2.cell
            rw [List.length_append, List.length_singleton] at cV
            have hTl : T.length ≤ 300000 := by rw [List.length_append] at hFL; simp at hFL; omega
            have hlt0 : (T.length : Int) < ((T.length + 1 : Nat) : Int) := by omega
            have hwr : wrap64 (T.length : Int) = (T.length : Int) := wrap_id _ ⟨by omega, by omega⟩
            have hI3 : (W2.setCell ⟨g, T.length * 2 + 1, none⟩ (.int .i64 x)).heap[w.heap.size + 1 + 1]? = some (.cells #[.bool true] 4 (0, 0)) := (Below.heap_setCell _ _ _ _ (by simp only; omega)).trans hI2
            have cI3 := cell_at 0 hI3 rfl
            have fI3 := one_free 0 hI3
            gi_wp2
            have hZ : ∀ k, k < w1.heap.size → k ≠ w.heap.size + 1 + 1 → ((W2.setCell ⟨g, T.length * 2 + 1, none⟩ (.int .i64 x)).setCell ⟨w.heap.size + 1 + 1, 0, none⟩ (.bool false)).heap[k]? = W2.heap[k]? := fun k h1 h3 => (Below.heap_setCell _ _ _ _ h3).trans (Below.heap_setCell _ _ _ _ (by simp only; omega))
            refine ⟨((hko.trans (KeepsOthers.setCell _ _ _)).trans (KeepsOthers.setCell _ _ _)).from _, HKQ.out.trans ⟨fun k h => hZ k (by omega) (by omega), hZ _ (by omega) (by omega), hZ _ (by omega) (by omega)⟩, ⟨⟨_, (hZ _ (by omega) (by omega)).trans hv2, ?_, trivial⟩, (hZ _ (by omega) (by omega)).trans hA2, ?_, ?_, ?_⟩⟩
            · rw [HX.out]
              have z := own_put HO.out (j := T.length * 2 + 1) (by simp; omega) (.int .i64 x)
              have e := flatS_set2 T (lo, 0) x []
              simp only [List.append_nil] at e
              rw [e] at z
              have z2 := ownsRow_setCell_below z (a := ⟨w.heap.size + 1 + 1, 0, none⟩) (by simp only; omega) (.bool false)
              simpa using z2
            · rw [HX.out]; exact set_lies 0 _ hI3
            · exact ((hB2).setCell (p := ⟨g, T.length * 2 + 1, none⟩) (by simp only; omega) _).setCell (p := ⟨w.heap.size + 1 + 1, 0, none⟩) (by simp only; omega) _
            · have z := (KeepsOthers.setCell W2 ⟨g, T.length * 2 + 1, none⟩ (.int .i64 x)).size
              have z2 := (KeepsOthers.setCell (W2.setCell ⟨g, T.length * 2 + 1, none⟩ (.int .i64 x)) ⟨w.heap.size + 1 + 1, 0, none⟩ (.bool false)).size
              omega
        · have HX : Hid (foldM keep (pre ++ [x]) = (T ++ [(lo, 0)], true)) := by show _ = _; rw [HS1.out, step_stay (by exact hkx)]
          gi_wp2
          refine ⟨hko.from _, HKQ.out, ⟨⟨v, hv2, ?_, trivial⟩, hA2, ?_, hB2, hS2⟩⟩
          · rw [HX.out]; exact hr2
          · rw [HX.out]; exact hI2
  case done =>
    rintro D ys W hD rfl ⟨⟨v, hv, hr, _⟩, hA, hI, hB, hS⟩ hK
    have cV := hv.cell
    clear hACT g0 g1 gk gA gB EST
    gi_wp2
    go_wp2_with fail
    have hlD : D < W.heap.size := (Array.getElem?_eq_some_iff.1 hK).1
    refine fin43 _ [D] _ w.heap.size v rfl (by simp) (by
      intro E hE
      rw [List.mem_singleton.1 hE]
      exact ⟨by omega, hK⟩) ?_
    intro W' hp
    refine ⟨v, rfl, ?_, hB.trans hp.1⟩
    rw [← foldM_mg]
    exact own_spans (hp.own hr)
  case stop =>
    rintro D c ys W _ _ h _
    exact h.elim

end Go.Proofs.YtmpegkcleajhhaaDoor
