/-
  Walks: tokens trimmed.
-/
import Derived.Test.YtpedljmpobhimaaGreatDoorDh
namespace Go.Proofs.YtpedljmpobhimaaGreatDoor
open Go.RowKit Go.Shelf
set_option linter.unusedVariables false

attribute [local go_sem] Oper.semAt_some

/-- A slice of tokens in a block of its own. -/
def ToksN (n : Nat) (W : World) (v : Value) (ts : List Tok) : Prop := ∃ b cap sp, v = .slice (some ⟨b, 0, none⟩) ts.length cap ∧ n ≤ b ∧ W.heap[b]? = some (.cells (flatT ts ++ sp).toArray 91 (0, 0))
theorem ToksN.toks {n : Nat} {W : World} {v : Value} {ts : List Tok} (h : ToksN n W v ts) : Toks W v ts := by
  obtain ⟨b, cap, sp, hv, _, hh⟩ := h
  exact ⟨_, cap, hv, .inr ⟨b, 0, rfl, (Array.getElem?_eq_some_iff.1 hh).1, KW.row (⟨Turn.refl _ _, hh⟩ : KW W b sp ts W)⟩⟩
theorem ToksN.past {n n₀ : Nat} {W W' : World} {v : Value} {ts : List Tok} (h : ToksN n W v ts) (hp : Past n₀ W W') : ToksN n W' v ts := by
  obtain ⟨b, cap, sp, hv, hn, hh⟩ := h
  exact ⟨b, cap, sp, hv, hn, hp.2 _ _ hh rfl⟩
theorem ToksN.mono {n m : Nat} {W : World} {v : Value} {ts : List Tok} (h : ToksN n W v ts) (hm : m ≤ n) : ToksN m W v ts := by
  obtain ⟨b, cap, sp, hv, hn, hh⟩ := h
  exact ⟨b, cap, sp, hv, Nat.le_trans hm hn, hh⟩
theorem ToksN.other {n : Nat} {W : World} {v : Value} {ts : List Tok} (h : ToksN n W v ts) (B o : Nat) (u : Value) (hB : B < n) : ToksN n (W.setCell ⟨B, o, none⟩ u) v ts := by
  obtain ⟨b, cap, sp, hv, hn, hh⟩ := h
  exact ⟨b, cap, sp, hv, hn, (Below.heap_setCell _ _ _ _ (by simp only; omega)).trans hh⟩
theorem KW.undash {w0 : World} {B : Nat} {sp : List Value} {t : Tok} {r : List Tok} {W : World} (h : KW w0 B sp (t :: r) W) : KW w0 B sp (headL (t :: r)) (W.setCell ⟨B, 0, none⟩ (.bool false)) := by
  refine ⟨h.turn.trans (Turn.set B _ _ _), ?_⟩
  exact set_list 0 _ h.cells
theorem fin29 {R : Ending → World → Prop} (tmps : Array Value) (Ds : List Nat) (W : World) (n₀ : Nat) (v : Value) (h1 : tmps.getD 2 undef = v)
    (hnd : Ds.Nodup) (hD : ∀ D ∈ Ds, n₀ ≤ D ∧ W.heap[D]? = some (.deferred (some []))) (hR : ∀ W', Past n₀ W W' → R (.returned v) W') :
    bodyPostM Fence.wide 5 Tryz.prog Tryz.f80 R .ret { tmps := tmps, defers := marks Ds } W := by
  show LeavesInM _ _ _ _ _ _ _ _ _
  refine leaves_marks n₀ Ds W hnd hD ?_
  intro W' hW'
  rw [Array.getD_eq_getD_getElem?] at h1
  refine ⟨_, ?_, hR W' hW'⟩
  simp [results, Tryz.results80, go_sem, h1]
theorem own_below {W W' : World} {base : Nat} {e : TypeId} {size : Nat} {v : Value} {n : Nat} {xs : List Value} (h : W.ownsRow base e size v n xs) (hb : Below W.heap.size W W') : W'.ownsRow base e size v n xs := by
  refine ⟨h.1, ?_⟩
  rcases h.2 with h2 | ⟨g, cap, cur, hv, hg, hh, r⟩
  · exact .inl h2
  · exact .inr ⟨g, cap, cur, hv, hg, (hb.block g (Array.getElem?_eq_some_iff.1 hh).1).trans hh, r⟩

/-- A token's cells. -/
def tokO (t : Tok) : Obj := .cells #[.bool t.dash, .bool t.num, .string (ofL t.text)] 91 (0, 0)

/-- What a round finds: the row so far, the token behind, the token itself. -/
structure TB (N B0 b X : Nat) (w Wi W : World) (v : Value) (kp : List Tok) (t q : Tok) : Prop where
  hv : Boxed W N 60 v
  hr : W.ownsRow B0 91 3 v kp.length (flatT kp)
  ha : W.heap[N + 1]? = some (tokO q)
  ex : W.heap[X]? = some (tokO t)
  be : Below N w W
  sz : B0 ≤ W.heap.size
  ks : KeepsOthers Wi W
  tw : Two (N + 1 + 1) b Wi W
theorem TB.next {N B0 b X : Nat} {w Wi W W' : World} {v : Value} {kp : List Tok} {t q : Tok} (h : TB N B0 b X w Wi W v kp t q) (hN : N ≤ W.heap.size) (h2 : N + 1 + 1 < W.heap.size) (hbb : b < W.heap.size) (hb : Below W.heap.size W W') : TB N B0 b X w Wi W' v kp t q :=
  ⟨(hb.block N h.hv.lt).trans h.hv, own_below h.hr hb, (hb.block _ (Array.getElem?_eq_some_iff.1 h.ha).1).trans h.ha, (hb.block _ (Array.getElem?_eq_some_iff.1 h.ex).1).trans h.ex, h.be.trans (hb.mono hN), Nat.le_trans h.sz hb.size,
    h.ks.trans (KeepsOthers.of_grownBy (below_grown hb) (fun j o e => by cases e)), h.tw.trans ⟨hb.block _ h2, hb.block _ hbb⟩⟩
theorem TB.drew {N B0 b X : Nat} {w Wi W : World} {v : Value} {kp : List Tok} {t q : Tok} (h : TB N B0 b X w Wi W v kp t q) : TB N B0 b X w Wi W.drew v kp t q :=
  ⟨h.hv, h.hr.drew, h.ha, h.ex, h.be.drew, h.sz, h.ks.trans (KeepsOthers.drew W), h.tw⟩
theorem TB.xs {N B0 b X : Nat} {w Wi W : World} {v : Value} {kp : List Tok} {t q : Tok} (h : TB N B0 b X w Wi W v kp t q) : W.cell? ⟨X, 0, none⟩ = some (.bool t.dash) ∧ W.cell? ⟨X, 1, none⟩ = some (.bool t.num) ∧ W.cell? ⟨X, 2, none⟩ = some (.string (ofL t.text)) :=
  ⟨cell_at 0 h.ex rfl, cell_at 1 h.ex rfl, cell_at 2 h.ex rfl⟩
theorem TB.qs {N B0 b X : Nat} {w Wi W : World} {v : Value} {kp : List Tok} {t q : Tok} (h : TB N B0 b X w Wi W v kp t q) : W.cell? ⟨N + 1, 0, none⟩ = some (.bool q.dash) ∧ W.cell? ⟨N + 1, 1, none⟩ = some (.bool q.num) :=
  ⟨cell_at 0 h.ha rfl, cell_at 1 h.ha rfl⟩
theorem TB.xa {N B0 b X : Nat} {w Wi W : World} {v : Value} {kp : List Tok} {t q : Tok} (h : TB N B0 b X w Wi W v kp t q) : ∀ o : Obj, (W.alloc o).cell? ⟨X, 0, none⟩ = some (.bool t.dash) ∧ (W.alloc o).cell? ⟨X, 1, none⟩ = some (.bool t.num) ∧ (W.alloc o).cell? ⟨X, 2, none⟩ = some (.string (ofL t.text)) := fun o => by
  have e := (Below.heap_alloc W o X (Array.getElem?_eq_some_iff.1 h.ex).1).trans h.ex
  exact ⟨cell_at 0 e rfl, cell_at 1 e rfl, cell_at 2 e rfl⟩
/-- What stands behind the append. -/
theorem TB.app {N B0 b X : Nat} {w Wi W : World} {v : Value} {kp : List Tok} {t q : Tok} (h : TB N B0 b X w Wi W v kp t q) (hB : N + 1 + 1 < B0) (hX : B0 ≤ X) (hne : v.ownBlock ≠ some X) (tmp : Obj) (w1 : World) (hg : (W.alloc tmp).grownBy w1 v.ownBlock) :
    (∀ k, k < B0 → w1.heap[k]? = W.heap[k]?) ∧ w1.heap[X]? = some (tokO t) := by
  have hnr : ∀ k : Nat, k < B0 → v.ownBlock ≠ some k := by
    intro k hk e
    rcases h.hr.2 with ⟨h1, _⟩ | ⟨g, cap', cur, h1, hg, _⟩
    · rw [h1] at e; cases e
    · rw [h1] at e
      simp only [Value.ownBlock, Option.some.injEq] at e
      subst e
      omega
  have hs := h.sz
  have hlX := (Array.getElem?_eq_some_iff.1 h.ex).1
  refine ⟨fun k hk => (hg.block k (by simp; omega) (fun e => hnr k hk e.symm)).trans (Below.heap_alloc _ _ _ (by omega)), ?_⟩
  exact (hg.block X (by simp; omega) (fun e => hne e.symm)).trans ((Below.heap_alloc _ _ _ hlX).trans h.ex)
theorem TB.cells {N B0 b X : Nat} {w Wi W : World} {v : Value} {kp : List Tok} {t q : Tok} (h : TB N B0 b X w Wi W v kp t q) (hB : N + 1 + 1 < B0) (hX : B0 ≤ X) (hne : v.ownBlock ≠ some X) (tmp : Obj) (w1 : World) (hg : (W.alloc tmp).grownBy w1 v.ownBlock) :
    w1.cell? ⟨N, 0, none⟩ = some v ∧ w1.frozen? ⟨N, 0, none⟩ = false ∧ w1.cell? ⟨X, 0, none⟩ = some (.bool t.dash) ∧ w1.cell? ⟨X, 1, none⟩ = some (.bool t.num) ∧ w1.cell? ⟨X, 2, none⟩ = some (.string (ofL t.text)) ∧
      (∀ u, (w1.setCell ⟨N, 0, none⟩ u).cell? ⟨X, 0, none⟩ = some (.bool t.dash)) ∧ (∀ u, (w1.setCell ⟨N, 0, none⟩ u).cell? ⟨X, 1, none⟩ = some (.bool t.num)) ∧ (∀ u, (w1.setCell ⟨N, 0, none⟩ u).cell? ⟨X, 2, none⟩ = some (.string (ofL t.text))) ∧
      (∀ u, (w1.setCell ⟨N, 0, none⟩ u).cell? ⟨N + 1, 0, none⟩ = some (.bool q.dash)) ∧ (∀ u, (w1.setCell ⟨N, 0, none⟩ u).cell? ⟨N + 1, 1, none⟩ = some (.bool q.num)) ∧ (∀ u, (w1.setCell ⟨N, 0, none⟩ u).cell? ⟨N + 1, 2, none⟩ = some (.string (ofL q.text))) ∧
      (∀ u, (w1.setCell ⟨N, 0, none⟩ u).frozen? ⟨N + 1, 0, none⟩ = false) ∧ (∀ u, (w1.setCell ⟨N, 0, none⟩ u).frozen? ⟨N + 1, 1, none⟩ = false) ∧ (∀ u, (w1.setCell ⟨N, 0, none⟩ u).frozen? ⟨N + 1, 2, none⟩ = false) := by
  obtain ⟨hk, ex⟩ := h.app hB hX hne tmp w1 hg
  have k1 : Boxed w1 N 60 v := (hk N (by omega)).trans h.hv
  have k2 := (hk (N + 1) (by omega)).trans h.ha
  have e2 : ∀ u, (w1.setCell ⟨N, 0, none⟩ u).heap[X]? = some (tokO t) := fun u => (Below.heap_setCell _ _ _ _ (by simp only; omega)).trans ex
  have e3 : ∀ u, (w1.setCell ⟨N, 0, none⟩ u).heap[N + 1]? = some (tokO q) := fun u => (Below.heap_setCell _ _ _ _ (by simp only; omega)).trans k2
  exact ⟨k1.cell, k1.frozen, cell_at 0 ex rfl, cell_at 1 ex rfl, cell_at 2 ex rfl, fun u => cell_at 0 (e2 u) rfl, fun u => cell_at 1 (e2 u) rfl, fun u => cell_at 2 (e2 u) rfl, fun u => cell_at 0 (e3 u) rfl, fun u => cell_at 1 (e3 u) rfl, fun u => cell_at 2 (e3 u) rfl, fun u => one_free 0 (e3 u), fun u => one_free 1 (e3 u), fun u => one_free 2 (e3 u)⟩
theorem TB.fin {N B0 b X : Nat} {w Wi W : World} {v : Value} {kp : List Tok} {t q : Tok} (h : TB N B0 b X w Wi W v kp t q) (hB : N + 1 + 1 < B0) (hX : B0 ≤ X) (hbN : b < N) (hne : v.ownBlock ≠ some X) (hw : w.heap.size = N) (tmp : Obj) (w1 : World) (hg : (W.alloc tmp).grownBy w1 v.ownBlock) (u : Value)
    (hown : w1.ownsRow B0 91 3 u (kp.length + 1) (flatT kp ++ rowT t)) (W9 : World) (hW9 : W9 = (((w1.setCell ⟨N, 0, none⟩ u).setCell ⟨N + 1, 0, none⟩ (.bool t.dash)).setCell ⟨N + 1, 1, none⟩ (.bool t.num)).setCell ⟨N + 1, 2, none⟩ (.string (ofL t.text))) :
    KeepsOthers Wi W9 ∧ Two (N + 1 + 1) b Wi W9 ∧ Boxed W9 N 60 u ∧ W9.ownsRow B0 91 3 u (kp ++ [t]).length (flatT (kp ++ [t])) ∧ W9.heap[N + 1]? = some (tokO t) ∧ Below N w W9 ∧ B0 ≤ W9.heap.size := by
  obtain ⟨hk, ex⟩ := h.app hB hX hne tmp w1 hg
  have hs := h.sz
  have k2 : w1.heap[N + 1]? = some (.cells #[.bool q.dash, .bool q.num, .string (ofL q.text)] 91 (0, 0)) := (hk (N + 1) (by omega)).trans h.ha
  have e3 : (w1.setCell ⟨N, 0, none⟩ u).heap[N + 1]? = some (.cells #[.bool q.dash, .bool q.num, .string (ofL q.text)] 91 (0, 0)) := (Below.heap_setCell _ _ _ _ (by simp only; omega)).trans k2
  have kk : ∀ k, k < B0 → k ≠ N → k ≠ N + 1 → W9.heap[k]? = W.heap[k]? := fun k h1 h2 h3 => by
    rw [hW9]
    exact (Below.heap_setCell _ _ _ k h3).trans ((Below.heap_setCell _ _ _ k h3).trans ((Below.heap_setCell _ _ _ k h3).trans ((Below.heap_setCell _ _ _ k h2).trans (hk k h1))))
  have a1 : KeepsOthers W w1 := (KeepsOthers.alloc W tmp).trans (KeepsOthers.of_grownBy hg fun j o ej hj => by
    rcases (h.hr.alloc tmp).2 with ⟨h1, _⟩ | ⟨g, cap', cur, h1, _, hgb, _⟩
    · rw [h1] at ej; cases ej
    · rw [h1] at ej
      simp only [Value.ownBlock, Option.some.injEq] at ej
      subst ej
      rw [hgb] at hj; cases hj; rfl)
  have z1 : w1.heap.size ≤ W9.heap.size := by rw [hW9]; exact ((((KeepsOthers.setCell _ _ _).trans (KeepsOthers.setCell _ _ _)).trans (KeepsOthers.setCell _ _ _)).trans (KeepsOthers.setCell _ _ _)).size
  have z2 : B0 ≤ W9.heap.size := by have := hg.size; simp only [World.size_alloc] at this; omega
  refine ⟨h.ks.trans (a1.trans ?_), h.tw.trans ⟨kk _ (by omega) (by omega) (by omega), kk _ (by omega) (by omega) (by omega)⟩, ?_, ?_, ?_, ?_, z2⟩
  · rw [hW9]
    exact (((KeepsOthers.setCell _ _ _).trans (KeepsOthers.setCell _ _ _)).trans (KeepsOthers.setCell _ _ _)).trans (KeepsOthers.setCell _ _ _)
  · have k1 : Boxed w1 N 60 v := (hk N (by omega)).trans h.hv
    show W9.heap[N]? = _
    rw [hW9, Below.heap_setCell _ _ _ _ (by simp only; omega), Below.heap_setCell _ _ _ _ (by simp only; omega), Below.heap_setCell _ _ _ _ (by simp only; omega)]
    exact set_lies 0 u k1
  · rw [hW9, List.length_append, flatT_snoc]
    exact ownsRow_setCell_below (ownsRow_setCell_below (ownsRow_setCell_below (ownsRow_setCell_below hown (a := ⟨N, 0, none⟩) (by simp only; omega) _) (a := ⟨N + 1, 0, none⟩) (by simp only; omega) _) (a := ⟨N + 1, 1, none⟩) (by simp only; omega) _) (a := ⟨N + 1, 2, none⟩) (by simp only; omega) _
  · rw [hW9]
    exact three_lies _ _ _ e3
  · refine ⟨?_, ?_, ?_, ?_, ?_⟩
    · rw [hW9]; exact hg.os.trans h.be.os
    · rw [hW9]; exact hg.tape.trans h.be.tape
    · rw [hW9]; exact hg.output.trans h.be.output
    · omega
    · intro k hk'
      exact (kk k (by omega) (by omega) (by omega)).trans (h.be.block k hk')

/-- What trimming leaves. -/
def TrimPost (ts : List Tok) (w : World) (r : Ending) (w' : World) : Prop := ∃ v, r = .returned v ∧ ToksN w.heap.size w' v (trimT ts) ∧ Below w.heap.size w w'

set_option maxRecDepth 100000 in
set_option maxHeartbeats 4000000 in
theorem trimmed_in (a : Option Addr) (cap b off : Nat) (ts : List Tok) (w : World) (hl : ts.length ≤ 1000000000000) (hb : b < w.heap.size) (hrow : ts = [] ∨ (a = some ⟨b, off, none⟩ ∧ b < w.heap.size ∧ TRow w b off ts)) :
    CallsIn Fence.wide 5 Tryz.prog 80 #[.slice a ts.length cap] w (TrimPost ts w) := by
  obtain ⟨i0, hi, hz0, hz1, hz2⟩ := info_parts Tryz.info91
  refine callsIn_of_wp_marks Tryz.func80 rfl trivial (wpIn_wide.2 ?_) rfl
  simp only [Tryz.ntmps80, List.size_toArray, List.length_cons, List.length_nil, Nat.reduceAdd, Nat.reduceSub, Array.replicate_succ, Array.replicate_zero, List.push_toArray, List.append_toArray, List.nil_append, List.cons_append]
  go_wp2_with fail
  go_step3
  go_wp2_with fail
  go_step3
  go_wp2_with fail
  refine (back_any a ts.length cap _).mono ?_
  rintro e w1 ⟨rfl, hw1⟩
  have B3 : Below w.heap.size w w1 := by rw [hw1]; exact (((Below.refl _ w).alloc (Nat.le_refl _) _).alloc (by simp) _).alloc (by simp; omega) _
  have hz : w1.heap.size = w.heap.size + 1 + 1 + 1 := by rw [hw1]; simp
  have g0 : Boxed w1 w.heap.size 60 (.slice none 0 0) := by
    rw [hw1]
    exact (Below.heap_alloc _ _ _ (by simp; omega)).trans ((Below.heap_alloc _ _ _ (by simp)).trans (World.alloc_heap_new w _))
  have g1 : At w1 (w.heap.size + 1) (.cells #[.bool false, .bool false, .string (ofL [])] 91 (0, 0)) := by
    show w1.heap[w.heap.size + 1]? = _
    rw [hw1]
    have k := World.alloc_heap_new (w.alloc (.cells #[.slice none 0 0] 60)) (.cells #[.bool false, .bool false, .string ⟨#[]⟩] 91)
    rw [World.size_alloc] at k
    exact (Below.heap_alloc _ _ _ (by simp)).trans k
  have g2 : Boxed w1 (w.heap.size + 1 + 1) 60 (.slice a ts.length cap) := by
    rw [hw1]
    have k := World.alloc_heap_new ((w.alloc (.cells #[.slice none 0 0] 60)).alloc (.cells #[.bool false, .bool false, .string ⟨#[]⟩] 91)) (.cells #[.slice a ts.length cap] 60)
    rw [World.size_alloc, World.size_alloc] at k
    exact k
  clear hw1
  have hrow1 : ts = [] ∨ (a = some ⟨b, off, none⟩ ∧ b < w1.heap.size ∧ TRow w1 b off ts) := hrow.imp id (fun h => ⟨h.1, by omega, h.2.2.of_block (B3.block b hb)⟩)
  simp only [World.size_alloc]
  go_wp2_with fail
  refine (wpIn_wide (n := 5)).1 ?_
  obtain ⟨ACT, hACT⟩ : ∃ ACT : Nat × Tok → Nat → Act, ACT = fun x X => { tmps := #[.slice a ts.length cap, undef, .slice none 0 0, .pointer (some ⟨w.heap.size, 0, none⟩), .pointer (some ⟨w.heap.size + 1, 0, none⟩), undef, .pointer (some ⟨X, 0, none⟩), .slice a ts.length cap, .func (.func 113) #[] #[.pointer (some ⟨w.heap.size + 1 + 1, 0, none⟩)], .int .i64 (x.1 : Int), .agg #[.bool x.2.dash, .bool x.2.num, .string (ofL x.2.text)], undef, undef, undef, undef, undef, undef, undef, undef, undef, undef, undef, undef, undef, undef, undef, undef, undef, undef, undef, undef, undef, undef, undef, undef, undef, undef], defers := [] } := ⟨_, rfl⟩
  refine wpIn_rangeFunc_ownH rfl (by omega) (gf := 113) (lb := #[.pointer (some ⟨w.heap.size + 1 + 1, 0, none⟩)]) rfl trivial (enters_of Tryz.func113 (by kernel_rfl) rfl)
    (back_stops 4 (by omega) (w.heap.size + 1 + 1) b off cap ts hl w1 a g2 hrow1) Two.trans (two_b (by omega) (by omega)) (Below.refl _ _) (fun _ => rfl)
    (fun pre W => (∃ v, Boxed W w.heap.size 60 v ∧ W.ownsRow w1.heap.size 91 3 v (keepL pre).length (flatT (keepL pre)) ∧ True) ∧ At W (w.heap.size + 1) (.cells #[.bool ((keepL pre).getLastD nilT).dash, .bool ((keepL pre).getLastD nilT).num, .string (ofL ((keepL pre).getLastD nilT).text)] 91 (0, 0)) ∧ Below w.heap.size w W ∧ w1.heap.size ≤ W.heap.size)
    (fun _ _ _ => False)
    (fun pre X Y row h hg hr => ⟨(Own.from (holdsRow_own w1.heap.size w.heap.size 60 91 3 (fun pre => (keepL pre).length) (fun pre => flatT (keepL pre)) (fun _ _ => True)) w1.heap.size) pre X Y row h.1 hg hr, at_own (β := Unit) w1.heap.size _ _ (by omega) () X Y row h.2.1 hg hr, (ownFrom_below (β := Unit) (Nat.le_refl _) (by omega)) () X Y row h.2.2.1 hg hr, Nat.le_trans h.2.2.2 hg.size⟩)
    (fun _ _ _ _ _ h _ _ => h)
    ⟨⟨_, g0, World.ownsRow_nil _ _ _ _, trivial⟩, g1, B3, Nat.le_refl _⟩
    (fun x a' W => ∃ X v, w1.heap.size ≤ X ∧ a' = ACT x X ∧ At W X (.cells #[.bool x.2.dash, .bool x.2.num, .string (ofL x.2.text)] 91 (0, 0)) ∧ At W w.heap.size (.cells #[v] 60 (0, 0)) ∧ v.ownBlock ≠ some X)
    (fun x a' u X Y row h hg hr => by
      obtain ⟨B, v, h1, h2, h3, h4, h5⟩ := h
      exact ⟨B, v, h1, h2, atc_own (β := Unit) w1.heap.size _ _ _ _ () X Y row h3 hg hr, atc_own (β := Unit) w1.heap.size _ _ _ _ () X Y row h4 hg hr, h5⟩) ?assign ?body ?done ?stop
  case assign =>
    rintro l pre x W K ⟨⟨v, hv, hr, _⟩, hA, hB, hS⟩ hK
    unfold tokV
    gi_wp2
    have hv1 : Boxed (W.alloc (.cells #[.bool x.2.dash, .bool x.2.num, .string (ofL x.2.text)] 91)) w.heap.size 60 v := hv.alloc _
    refine hK _ _ ((KeepsOthers.alloc _ _).from _) ⟨Below.heap_alloc _ _ _ (by omega), Below.heap_alloc _ _ _ (by omega)⟩ ⟨⟨v, hv1, hr.alloc _, trivial⟩, ?_, hB.alloc hB.size _, by rw [World.size_alloc]; omega⟩ ⟨W.heap.size, v, hS, ?_, World.alloc_heap_new W _, hv1, ?_⟩
    · exact (Below.heap_alloc _ _ _ (by omega)).trans hA
    · rw [hACT]
    · intro e
      rcases hr.2 with ⟨h1, _⟩ | ⟨g, cap', cur, h1, _, hg, _⟩
      · rw [h1] at e; cases e
      · rw [h1] at e
        simp only [Value.ownBlock, Option.some.injEq] at e
        have := (Array.getElem?_eq_some_iff.1 hg).1
        omega
  case body =>
    rintro lx pre x a' Wi _ _ ⟨⟨v, hv, hr, _⟩, hA, hB, hS⟩ ⟨X, v', hX, rfl, eX, eV, hne⟩ hlen
    obtain rfl : v' = v := by
      have := (show Wi.heap[w.heap.size]? = _ from eV).symm.trans (show Wi.heap[w.heap.size]? = _ from hv)
      simpa using this
    rw [hACT]
    clear hACT eV g0 g1 g2 hrow1 hrow
    dsimp only
    have hlen2 : (keepL pre).length + 1 ≤ 1000000000000 := by
      have h1 := keepL_len pre
      have h2 : (bwL ts).length = ts.length := bwN_len ts _
      omega
    obtain ⟨xi, t⟩ := x
    dsimp only at *
    have HK : Hid (keepL (pre ++ [(xi, t)]) = stepK (keepL pre) t) := keepL_snoc _ _
    have HSK : Hid (stepK (keepL pre) t = if nullB t && looseB ((keepL pre).getLastD nilT) then keepL pre else keepL pre ++ [t]) := rfl
    have T0 : TB w.heap.size w1.heap.size b X w Wi Wi v' (keepL pre) t ((keepL pre).getLastD nilT) := ⟨hv, hr, hA, eX, hB, hS, KeepsOthers.refl _, Two.refl _ _ _⟩
    have HLQ : Hid (∀ k, k = keepL pre → (k ++ [t]).getLastD nilT = t) := by intro k _; simp
    have HFIN0 : Hid (∀ q, TB w.heap.size w1.heap.size b X w Wi q v' (keepL pre) t ((keepL pre).getLastD nilT) → keepL (pre ++ [(xi, t)]) = keepL pre → ∀ ac, ownPostG w1.heap.size (Two (w.heap.size + 1 + 1) b) (fun pre W => (∃ v, Boxed W w.heap.size 60 v ∧ W.ownsRow w1.heap.size 91 3 v (keepL pre).length (flatT (keepL pre)) ∧ True) ∧ At W (w.heap.size + 1) (.cells #[.bool ((keepL pre).getLastD nilT).dash, .bool ((keepL pre).getLastD nilT).num, .string (ofL ((keepL pre).getLastD nilT).text)] 91 (0, 0)) ∧ Below w.heap.size w W ∧ w1.heap.size ≤ W.heap.size) (fun _ _ _ => False) (pre ++ [(xi, t)]) Wi .normal ac q) := by
      intro q hq he ac
      refine ⟨hq.ks.from _, hq.tw, ?_⟩
      dsimp only
      rw [he]
      exact ⟨⟨_, hq.hv, hq.hr, trivial⟩, hq.ha, hq.be, hq.sz⟩
    have HFIN1 : Hid (∀ (W4 : World) (tmp : Obj) (w2 : World) (u : Value), TB w.heap.size w1.heap.size b X w Wi W4 v' (keepL pre) t ((keepL pre).getLastD nilT) → keepL (pre ++ [(xi, t)]) = keepL pre ++ [t] → (W4.alloc tmp).grownBy w2 v'.ownBlock → w2.ownsRow w1.heap.size 91 3 u ((keepL pre).length + 1) (flatT (keepL pre) ++ rowT t) → ∀ ac, ownPostG w1.heap.size (Two (w.heap.size + 1 + 1) b) (fun pre W => (∃ v, Boxed W w.heap.size 60 v ∧ W.ownsRow w1.heap.size 91 3 v (keepL pre).length (flatT (keepL pre)) ∧ True) ∧ At W (w.heap.size + 1) (.cells #[.bool ((keepL pre).getLastD nilT).dash, .bool ((keepL pre).getLastD nilT).num, .string (ofL ((keepL pre).getLastD nilT).text)] 91 (0, 0)) ∧ Below w.heap.size w W ∧ w1.heap.size ≤ W.heap.size) (fun _ _ _ => False) (pre ++ [(xi, t)]) Wi .normal ac ((((w2.setCell ⟨w.heap.size, 0, none⟩ u).setCell ⟨w.heap.size + 1, 0, none⟩ (.bool t.dash)).setCell ⟨w.heap.size + 1, 1, none⟩ (.bool t.num)).setCell ⟨w.heap.size + 1, 2, none⟩ (.string (ofL t.text)))) := by
      intro W4 tmp w2 u h4 he hg hown ac
      obtain ⟨r1, r2, r3, r4, r5, r6, r7⟩ := h4.fin (by omega) hX hb hne rfl tmp w2 hg u hown _ rfl
      refine ⟨r1.from _, r2, ?_⟩
      dsimp only
      rw [he, HLQ.out _ rfl]
      exact ⟨⟨_, r3, r4, trivial⟩, r5, r6, r7⟩
    have NU := fun w => isNull_any t w
    unfold tokV at NU
    have hX0 : w.heap.size + 1 + 1 < Wi.heap.size := by omega
    have hbW : b < Wi.heap.size := by omega
    have hNW : w.heap.size ≤ Wi.heap.size := by omega
    clear hv hr hA eX hB HLQ
    generalize (keepL pre).getLastD nilT = q at *
    generalize keepL pre = kp at *
    obtain ⟨cX0, cX1, cX2⟩ := T0.xs
    obtain ⟨ao, cv, rfl⟩ : ∃ ao cv, v' = .slice ao kp.length cv := by
      rcases T0.hr.2 with ⟨rfl, h0⟩ | ⟨g, cap, _, rfl, _⟩
      · exact ⟨none, 0, by rw [h0]⟩
      · exact ⟨_, cap, rfl⟩
    cases hnu : nullB t
    · rw [hnu] at NU
      have NU := hide NU
      have HKP : Hid (keepL (pre ++ [(xi, t)]) = kp ++ [t]) := by show _ = _; rw [HK.out, HSK.out, hnu]; rfl
      clear hnu
      gi_wp2
      refine ⟨trivial, (CallsIn.inRound lx (callsIn_wide.2 (NU.out _))).mono ?_⟩
      rintro e w2 ⟨rfl, b2⟩
      have T2 := T0.next hNW hX0 hbW b2
      clear cX0 cX1 cX2
      gi_wp2
      refine wpIn_region_any (by kernel_rfl) ?_
      refine wpAnyIn_round (F := Fence.wide) rfl (noDefer_of (by kernel_rfl)) _ _ _ _ ?_
      change wpAnyIn _ _ _ _ _ _ _ _ _ (World.drew _)
      have T4 := T2.drew
      have hsz4 : w1.heap.size ≤ w2.drew.heap.size := T4.sz
      have hB3 : w.heap.size + 1 + 1 < w1.heap.size := by omega
      clear T0 T2 b2
      generalize w2.drew = W4 at *
      obtain ⟨cX0, cX1, cX2⟩ := T4.xs
      have cV := T4.hv.cell
      have cVa : ∀ o : Obj, (W4.alloc o).cell? ⟨w.heap.size, 0, none⟩ = some (.slice ao kp.length cv) := fun o => (T4.hv.alloc o).cell
      have cXa0 := fun o => (T4.xa o).1
      have cXa1 := fun o => (T4.xa o).2.1
      have cXa2 := fun o => (T4.xa o).2.2
      refine wpAnyIn_ready (rs := [0, 1, 4]) (by kernel_rfl) (by simp) ?_
      refine AllReadyIn.cons rfl (fun K hK => ?_) ?_
      · go_simp
        refine hK _ _ ?_
        clear hK K
        refine wpAnyIn_ready (rs := [1, 4]) (by kernel_rfl) (by simp) ?_
        refine AllReadyIn.cons rfl (fun K hK => ?_) ?_
        · go_simp
          refine hK _ _ ?_
          clear hK K
          refine wpAnyIn_ready (rs := [2, 4]) (by kernel_rfl) (by simp) ?_
          refine AllReadyIn.cons rfl (fun K hK => ?_) ?_
          · go_simp
            refine hK _ _ ?_
            clear hK K
            refine wpAnyIn_ready (rs := [3, 4]) (by kernel_rfl) (by simp) ?_
            refine AllReadyIn.cons rfl (fun K hK => ?_) ?_
            · refine stepIn_append_own rfl _ _ 60 rfl w1.heap.size 91 i0 (.agg #[.bool false, .bool false, .string .empty]) 3 24 Tryz.underlying60 hi hz0 hz1 hz2 rfl (by decide) _ _ _ rfl (T4.hr.alloc _) ⟨W4.heap.size, 0, none⟩ 1 1 (rowT t) rfl rfl (cell_three_new _ _ _ _ _) (rowT_one _) (by unfold maxLen; omega) (by omega) (by simp; omega) ?_
              intro v' w3 hown' hgrow _
              obtain ⟨g', cap', rfl⟩ := ownsRow_succ hown'
              obtain ⟨h1, h2, h3, h4, h5, h6, h7, h8, h9, h10, h11, h12, h13, h14⟩ := T4.cells hB3 hX hne _ _ hgrow
              refine hK _ _ ?_
              clear hK K
              refine wpAnyIn_ready (rs := [4, 5]) (by kernel_rfl) (by simp) ?_
              refine AllReadyIn.cons rfl (fun K hK => ?_) ?_
              · go_simp
                refine hK _ _ ?_
                clear hK K
                refine wpAnyIn_ready (rs := [5]) (by kernel_rfl) (by simp) ?_
                refine AllReadyIn.cons rfl (fun K hK => ?_) ?_
                · go_simp
                  refine hK _ _ ?_
                  clear hK K
                  refine wpAnyIn_ready (rs := [6]) (by kernel_rfl) (by simp) ?_
                  refine AllReadyIn.cons rfl (fun K hK => ?_) ?_
                  · go_simp
                    refine hK _ _ ?_
                    clear hK K
                    refine wpAnyIn_done (by kernel_rfl) ?_ _
                    exact HFIN1.out _ _ _ _ T4 HKP.out hgrow hown' { tmps := #[], defers := [] }
                  exact AllReadyIn.nil
                exact AllReadyIn.nil
              refine AllReadyIn.cons rfl (fun K hK => ?_) ?_
              · go_simp
                refine hK _ _ ?_
                clear hK K
                refine wpAnyIn_ready (rs := [4]) (by kernel_rfl) (by simp) ?_
                refine AllReadyIn.cons rfl (fun K hK => ?_) ?_
                · go_simp
                  refine hK _ _ ?_
                  clear hK K
                  refine wpAnyIn_ready (rs := [6]) (by kernel_rfl) (by simp) ?_
                  refine AllReadyIn.cons rfl (fun K hK => ?_) ?_
                  · go_simp
                    refine hK _ _ ?_
                    clear hK K
                    refine wpAnyIn_done (by kernel_rfl) ?_ _
                    exact HFIN1.out _ _ _ _ T4 HKP.out hgrow hown' { tmps := #[], defers := [] }
                  exact AllReadyIn.nil
                exact AllReadyIn.nil
              exact AllReadyIn.nil
            refine AllReadyIn.cons rfl (fun K hK => ?_) ?_
            · go_simp
              refine hK _ _ ?_
              clear hK K
              refine wpAnyIn_ready (rs := [3]) (by kernel_rfl) (by simp) ?_
              refine AllReadyIn.cons rfl (fun K hK => ?_) ?_
              · refine stepIn_append_own rfl _ _ 60 rfl w1.heap.size 91 i0 (.agg #[.bool false, .bool false, .string .empty]) 3 24 Tryz.underlying60 hi hz0 hz1 hz2 rfl (by decide) _ _ _ rfl (T4.hr.alloc _) ⟨W4.heap.size, 0, none⟩ 1 1 (rowT t) rfl rfl (cell_three_new _ _ _ _ _) (rowT_one _) (by unfold maxLen; omega) (by omega) (by simp; omega) ?_
                intro v' w3 hown' hgrow _
                obtain ⟨g', cap', rfl⟩ := ownsRow_succ hown'
                obtain ⟨h1, h2, h3, h4, h5, h6, h7, h8, h9, h10, h11, h12, h13, h14⟩ := T4.cells hB3 hX hne _ _ hgrow
                refine hK _ _ ?_
                clear hK K
                refine wpAnyIn_ready (rs := [5]) (by kernel_rfl) (by simp) ?_
                refine AllReadyIn.cons rfl (fun K hK => ?_) ?_
                · go_simp
                  refine hK _ _ ?_
                  clear hK K
                  refine wpAnyIn_ready (rs := [6]) (by kernel_rfl) (by simp) ?_
                  refine AllReadyIn.cons rfl (fun K hK => ?_) ?_
                  · go_simp
                    refine hK _ _ ?_
                    clear hK K
                    refine wpAnyIn_done (by kernel_rfl) ?_ _
                    exact HFIN1.out _ _ _ _ T4 HKP.out hgrow hown' { tmps := #[], defers := [] }
                  exact AllReadyIn.nil
                exact AllReadyIn.nil
              exact AllReadyIn.nil
            exact AllReadyIn.nil
          refine AllReadyIn.cons rfl (fun K hK => ?_) ?_
          · go_simp
            refine hK _ _ ?_
            clear hK K
            refine wpAnyIn_ready (rs := [2]) (by kernel_rfl) (by simp) ?_
            refine AllReadyIn.cons rfl (fun K hK => ?_) ?_
            · go_simp
              refine hK _ _ ?_
              clear hK K
              refine wpAnyIn_ready (rs := [3]) (by kernel_rfl) (by simp) ?_
              refine AllReadyIn.cons rfl (fun K hK => ?_) ?_
              · refine stepIn_append_own rfl _ _ 60 rfl w1.heap.size 91 i0 (.agg #[.bool false, .bool false, .string .empty]) 3 24 Tryz.underlying60 hi hz0 hz1 hz2 rfl (by decide) _ _ _ rfl (T4.hr.alloc _) ⟨W4.heap.size, 0, none⟩ 1 1 (rowT t) rfl rfl (cell_three_new _ _ _ _ _) (rowT_one _) (by unfold maxLen; omega) (by omega) (by simp; omega) ?_
                intro v' w3 hown' hgrow _
                obtain ⟨g', cap', rfl⟩ := ownsRow_succ hown'
                obtain ⟨h1, h2, h3, h4, h5, h6, h7, h8, h9, h10, h11, h12, h13, h14⟩ := T4.cells hB3 hX hne _ _ hgrow
                refine hK _ _ ?_
                clear hK K
                refine wpAnyIn_ready (rs := [5]) (by kernel_rfl) (by simp) ?_
                refine AllReadyIn.cons rfl (fun K hK => ?_) ?_
                · go_simp
                  refine hK _ _ ?_
                  clear hK K
                  refine wpAnyIn_ready (rs := [6]) (by kernel_rfl) (by simp) ?_
                  refine AllReadyIn.cons rfl (fun K hK => ?_) ?_
                  · go_simp
                    refine hK _ _ ?_
                    clear hK K
                    refine wpAnyIn_done (by kernel_rfl) ?_ _
                    exact HFIN1.out _ _ _ _ T4 HKP.out hgrow hown' { tmps := #[], defers := [] }
                  exact AllReadyIn.nil
                exact AllReadyIn.nil
              exact AllReadyIn.nil
            exact AllReadyIn.nil
          exact AllReadyIn.nil
        refine AllReadyIn.cons rfl (fun K hK => ?_) ?_
        · go_simp
          refine hK _ _ ?_
          clear hK K
          refine wpAnyIn_ready (rs := [1]) (by kernel_rfl) (by simp) ?_
          refine AllReadyIn.cons rfl (fun K hK => ?_) ?_
          · go_simp
            refine hK _ _ ?_
            clear hK K
            refine wpAnyIn_ready (rs := [2]) (by kernel_rfl) (by simp) ?_
            refine AllReadyIn.cons rfl (fun K hK => ?_) ?_
            · go_simp
              refine hK _ _ ?_
              clear hK K
              refine wpAnyIn_ready (rs := [3]) (by kernel_rfl) (by simp) ?_
              refine AllReadyIn.cons rfl (fun K hK => ?_) ?_
              · refine stepIn_append_own rfl _ _ 60 rfl w1.heap.size 91 i0 (.agg #[.bool false, .bool false, .string .empty]) 3 24 Tryz.underlying60 hi hz0 hz1 hz2 rfl (by decide) _ _ _ rfl (T4.hr.alloc _) ⟨W4.heap.size, 0, none⟩ 1 1 (rowT t) rfl rfl (cell_three_new _ _ _ _ _) (rowT_one _) (by unfold maxLen; omega) (by omega) (by simp; omega) ?_
                intro v' w3 hown' hgrow _
                obtain ⟨g', cap', rfl⟩ := ownsRow_succ hown'
                obtain ⟨h1, h2, h3, h4, h5, h6, h7, h8, h9, h10, h11, h12, h13, h14⟩ := T4.cells hB3 hX hne _ _ hgrow
                refine hK _ _ ?_
                clear hK K
                refine wpAnyIn_ready (rs := [5]) (by kernel_rfl) (by simp) ?_
                refine AllReadyIn.cons rfl (fun K hK => ?_) ?_
                · go_simp
                  refine hK _ _ ?_
                  clear hK K
                  refine wpAnyIn_ready (rs := [6]) (by kernel_rfl) (by simp) ?_
                  refine AllReadyIn.cons rfl (fun K hK => ?_) ?_
                  · go_simp
                    refine hK _ _ ?_
                    clear hK K
                    refine wpAnyIn_done (by kernel_rfl) ?_ _
                    exact HFIN1.out _ _ _ _ T4 HKP.out hgrow hown' { tmps := #[], defers := [] }
                  exact AllReadyIn.nil
                exact AllReadyIn.nil
              exact AllReadyIn.nil
            exact AllReadyIn.nil
          exact AllReadyIn.nil
        exact AllReadyIn.nil
      refine AllReadyIn.cons rfl (fun K hK => ?_) ?_
      · go_simp
        refine hK _ _ ?_
        clear hK K
        refine wpAnyIn_ready (rs := [0, 2, 4]) (by kernel_rfl) (by simp) ?_
        refine AllReadyIn.cons rfl (fun K hK => ?_) ?_
        · go_simp
          refine hK _ _ ?_
          clear hK K
          refine wpAnyIn_ready (rs := [2, 4]) (by kernel_rfl) (by simp) ?_
          refine AllReadyIn.cons rfl (fun K hK => ?_) ?_
          · go_simp
            refine hK _ _ ?_
            clear hK K
            refine wpAnyIn_ready (rs := [3, 4]) (by kernel_rfl) (by simp) ?_
            refine AllReadyIn.cons rfl (fun K hK => ?_) ?_
            · refine stepIn_append_own rfl _ _ 60 rfl w1.heap.size 91 i0 (.agg #[.bool false, .bool false, .string .empty]) 3 24 Tryz.underlying60 hi hz0 hz1 hz2 rfl (by decide) _ _ _ rfl (T4.hr.alloc _) ⟨W4.heap.size, 0, none⟩ 1 1 (rowT t) rfl rfl (cell_three_new _ _ _ _ _) (rowT_one _) (by unfold maxLen; omega) (by omega) (by simp; omega) ?_
              intro v' w3 hown' hgrow _
              obtain ⟨g', cap', rfl⟩ := ownsRow_succ hown'
              obtain ⟨h1, h2, h3, h4, h5, h6, h7, h8, h9, h10, h11, h12, h13, h14⟩ := T4.cells hB3 hX hne _ _ hgrow
              refine hK _ _ ?_
              clear hK K
              refine wpAnyIn_ready (rs := [4, 5]) (by kernel_rfl) (by simp) ?_
              refine AllReadyIn.cons rfl (fun K hK => ?_) ?_
              · go_simp
                refine hK _ _ ?_
                clear hK K
                refine wpAnyIn_ready (rs := [5]) (by kernel_rfl) (by simp) ?_
                refine AllReadyIn.cons rfl (fun K hK => ?_) ?_
                · go_simp
                  refine hK _ _ ?_
                  clear hK K
                  refine wpAnyIn_ready (rs := [6]) (by kernel_rfl) (by simp) ?_
                  refine AllReadyIn.cons rfl (fun K hK => ?_) ?_
                  · go_simp
                    refine hK _ _ ?_
                    clear hK K
                    refine wpAnyIn_done (by kernel_rfl) ?_ _
                    exact HFIN1.out _ _ _ _ T4 HKP.out hgrow hown' { tmps := #[], defers := [] }
                  exact AllReadyIn.nil
                exact AllReadyIn.nil
              refine AllReadyIn.cons rfl (fun K hK => ?_) ?_
              · go_simp
                refine hK _ _ ?_
                clear hK K
                refine wpAnyIn_ready (rs := [4]) (by kernel_rfl) (by simp) ?_
                refine AllReadyIn.cons rfl (fun K hK => ?_) ?_
                · go_simp
                  refine hK _ _ ?_
                  clear hK K
                  refine wpAnyIn_ready (rs := [6]) (by kernel_rfl) (by simp) ?_
                  refine AllReadyIn.cons rfl (fun K hK => ?_) ?_
                  · go_simp
                    refine hK _ _ ?_
                    clear hK K
                    refine wpAnyIn_done (by kernel_rfl) ?_ _
                    exact HFIN1.out _ _ _ _ T4 HKP.out hgrow hown' { tmps := #[], defers := [] }
                  exact AllReadyIn.nil
                exact AllReadyIn.nil
              exact AllReadyIn.nil
            refine AllReadyIn.cons rfl (fun K hK => ?_) ?_
            · go_simp
              refine hK _ _ ?_
              clear hK K
              refine wpAnyIn_ready (rs := [3]) (by kernel_rfl) (by simp) ?_
              refine AllReadyIn.cons rfl (fun K hK => ?_) ?_
              · refine stepIn_append_own rfl _ _ 60 rfl w1.heap.size 91 i0 (.agg #[.bool false, .bool false, .string .empty]) 3 24 Tryz.underlying60 hi hz0 hz1 hz2 rfl (by decide) _ _ _ rfl (T4.hr.alloc _) ⟨W4.heap.size, 0, none⟩ 1 1 (rowT t) rfl rfl (cell_three_new _ _ _ _ _) (rowT_one _) (by unfold maxLen; omega) (by omega) (by simp; omega) ?_
                intro v' w3 hown' hgrow _
                obtain ⟨g', cap', rfl⟩ := ownsRow_succ hown'
                obtain ⟨h1, h2, h3, h4, h5, h6, h7, h8, h9, h10, h11, h12, h13, h14⟩ := T4.cells hB3 hX hne _ _ hgrow
                refine hK _ _ ?_
                clear hK K
                refine wpAnyIn_ready (rs := [5]) (by kernel_rfl) (by simp) ?_
                refine AllReadyIn.cons rfl (fun K hK => ?_) ?_
                · go_simp
                  refine hK _ _ ?_
                  clear hK K
                  refine wpAnyIn_ready (rs := [6]) (by kernel_rfl) (by simp) ?_
                  refine AllReadyIn.cons rfl (fun K hK => ?_) ?_
                  · go_simp
                    refine hK _ _ ?_
                    clear hK K
                    refine wpAnyIn_done (by kernel_rfl) ?_ _
                    exact HFIN1.out _ _ _ _ T4 HKP.out hgrow hown' { tmps := #[], defers := [] }
                  exact AllReadyIn.nil
                exact AllReadyIn.nil
              exact AllReadyIn.nil
            exact AllReadyIn.nil
          refine AllReadyIn.cons rfl (fun K hK => ?_) ?_
          · go_simp
            refine hK _ _ ?_
            clear hK K
            refine wpAnyIn_ready (rs := [2]) (by kernel_rfl) (by simp) ?_
            refine AllReadyIn.cons rfl (fun K hK => ?_) ?_
            · go_simp
              refine hK _ _ ?_
              clear hK K
              refine wpAnyIn_ready (rs := [3]) (by kernel_rfl) (by simp) ?_
              refine AllReadyIn.cons rfl (fun K hK => ?_) ?_
              · refine stepIn_append_own rfl _ _ 60 rfl w1.heap.size 91 i0 (.agg #[.bool false, .bool false, .string .empty]) 3 24 Tryz.underlying60 hi hz0 hz1 hz2 rfl (by decide) _ _ _ rfl (T4.hr.alloc _) ⟨W4.heap.size, 0, none⟩ 1 1 (rowT t) rfl rfl (cell_three_new _ _ _ _ _) (rowT_one _) (by unfold maxLen; omega) (by omega) (by simp; omega) ?_
                intro v' w3 hown' hgrow _
                obtain ⟨g', cap', rfl⟩ := ownsRow_succ hown'
                obtain ⟨h1, h2, h3, h4, h5, h6, h7, h8, h9, h10, h11, h12, h13, h14⟩ := T4.cells hB3 hX hne _ _ hgrow
                refine hK _ _ ?_
                clear hK K
                refine wpAnyIn_ready (rs := [5]) (by kernel_rfl) (by simp) ?_
                refine AllReadyIn.cons rfl (fun K hK => ?_) ?_
                · go_simp
                  refine hK _ _ ?_
                  clear hK K
                  refine wpAnyIn_ready (rs := [6]) (by kernel_rfl) (by simp) ?_
                  refine AllReadyIn.cons rfl (fun K hK => ?_) ?_
                  · go_simp
                    refine hK _ _ ?_
                    clear hK K
                    refine wpAnyIn_done (by kernel_rfl) ?_ _
                    exact HFIN1.out _ _ _ _ T4 HKP.out hgrow hown' { tmps := #[], defers := [] }
                  exact AllReadyIn.nil
                exact AllReadyIn.nil
              exact AllReadyIn.nil
            exact AllReadyIn.nil
          exact AllReadyIn.nil
        refine AllReadyIn.cons rfl (fun K hK => ?_) ?_
        · go_simp
          refine hK _ _ ?_
          clear hK K
          refine wpAnyIn_ready (rs := [0, 4]) (by kernel_rfl) (by simp) ?_
          refine AllReadyIn.cons rfl (fun K hK => ?_) ?_
          · go_simp
            refine hK _ _ ?_
            clear hK K
            refine wpAnyIn_ready (rs := [3, 4]) (by kernel_rfl) (by simp) ?_
            refine AllReadyIn.cons rfl (fun K hK => ?_) ?_
            · refine stepIn_append_own rfl _ _ 60 rfl w1.heap.size 91 i0 (.agg #[.bool false, .bool false, .string .empty]) 3 24 Tryz.underlying60 hi hz0 hz1 hz2 rfl (by decide) _ _ _ rfl (T4.hr.alloc _) ⟨W4.heap.size, 0, none⟩ 1 1 (rowT t) rfl rfl (cell_three_new _ _ _ _ _) (rowT_one _) (by unfold maxLen; omega) (by omega) (by simp; omega) ?_
              intro v' w3 hown' hgrow _
              obtain ⟨g', cap', rfl⟩ := ownsRow_succ hown'
              obtain ⟨h1, h2, h3, h4, h5, h6, h7, h8, h9, h10, h11, h12, h13, h14⟩ := T4.cells hB3 hX hne _ _ hgrow
              refine hK _ _ ?_
              clear hK K
              refine wpAnyIn_ready (rs := [4, 5]) (by kernel_rfl) (by simp) ?_
              refine AllReadyIn.cons rfl (fun K hK => ?_) ?_
              · go_simp
                refine hK _ _ ?_
                clear hK K
                refine wpAnyIn_ready (rs := [5]) (by kernel_rfl) (by simp) ?_
                refine AllReadyIn.cons rfl (fun K hK => ?_) ?_
                · go_simp
                  refine hK _ _ ?_
                  clear hK K
                  refine wpAnyIn_ready (rs := [6]) (by kernel_rfl) (by simp) ?_
                  refine AllReadyIn.cons rfl (fun K hK => ?_) ?_
                  · go_simp
                    refine hK _ _ ?_
                    clear hK K
                    refine wpAnyIn_done (by kernel_rfl) ?_ _
                    exact HFIN1.out _ _ _ _ T4 HKP.out hgrow hown' { tmps := #[], defers := [] }
                  exact AllReadyIn.nil
                exact AllReadyIn.nil
              refine AllReadyIn.cons rfl (fun K hK => ?_) ?_
              · go_simp
                refine hK _ _ ?_
                clear hK K
                refine wpAnyIn_ready (rs := [4]) (by kernel_rfl) (by simp) ?_
                refine AllReadyIn.cons rfl (fun K hK => ?_) ?_
                · go_simp
                  refine hK _ _ ?_
                  clear hK K
                  refine wpAnyIn_ready (rs := [6]) (by kernel_rfl) (by simp) ?_
                  refine AllReadyIn.cons rfl (fun K hK => ?_) ?_
                  · go_simp
                    refine hK _ _ ?_
                    clear hK K
                    refine wpAnyIn_done (by kernel_rfl) ?_ _
                    exact HFIN1.out _ _ _ _ T4 HKP.out hgrow hown' { tmps := #[], defers := [] }
                  exact AllReadyIn.nil
                exact AllReadyIn.nil
              exact AllReadyIn.nil
            refine AllReadyIn.cons rfl (fun K hK => ?_) ?_
            · go_simp
              refine hK _ _ ?_
              clear hK K
              refine wpAnyIn_ready (rs := [3]) (by kernel_rfl) (by simp) ?_
              refine AllReadyIn.cons rfl (fun K hK => ?_) ?_
              · refine stepIn_append_own rfl _ _ 60 rfl w1.heap.size 91 i0 (.agg #[.bool false, .bool false, .string .empty]) 3 24 Tryz.underlying60 hi hz0 hz1 hz2 rfl (by decide) _ _ _ rfl (T4.hr.alloc _) ⟨W4.heap.size, 0, none⟩ 1 1 (rowT t) rfl rfl (cell_three_new _ _ _ _ _) (rowT_one _) (by unfold maxLen; omega) (by omega) (by simp; omega) ?_
                intro v' w3 hown' hgrow _
                obtain ⟨g', cap', rfl⟩ := ownsRow_succ hown'
                obtain ⟨h1, h2, h3, h4, h5, h6, h7, h8, h9, h10, h11, h12, h13, h14⟩ := T4.cells hB3 hX hne _ _ hgrow
                refine hK _ _ ?_
                clear hK K
                refine wpAnyIn_ready (rs := [5]) (by kernel_rfl) (by simp) ?_
                refine AllReadyIn.cons rfl (fun K hK => ?_) ?_
                · go_simp
                  refine hK _ _ ?_
                  clear hK K
                  refine wpAnyIn_ready (rs := [6]) (by kernel_rfl) (by simp) ?_
                  refine AllReadyIn.cons rfl (fun K hK => ?_) ?_
                  · go_simp
                    refine hK _ _ ?_
                    clear hK K
                    refine wpAnyIn_done (by kernel_rfl) ?_ _
                    exact HFIN1.out _ _ _ _ T4 HKP.out hgrow hown' { tmps := #[], defers := [] }
                  exact AllReadyIn.nil
                exact AllReadyIn.nil
              exact AllReadyIn.nil
            exact AllReadyIn.nil
          refine AllReadyIn.cons rfl (fun K hK => ?_) ?_
          · go_simp
            refine hK _ _ ?_
            clear hK K
            refine wpAnyIn_ready (rs := [0]) (by kernel_rfl) (by simp) ?_
            refine AllReadyIn.cons rfl (fun K hK => ?_) ?_
            · go_simp
              refine hK _ _ ?_
              clear hK K
              refine wpAnyIn_ready (rs := [3]) (by kernel_rfl) (by simp) ?_
              refine AllReadyIn.cons rfl (fun K hK => ?_) ?_
              · refine stepIn_append_own rfl _ _ 60 rfl w1.heap.size 91 i0 (.agg #[.bool false, .bool false, .string .empty]) 3 24 Tryz.underlying60 hi hz0 hz1 hz2 rfl (by decide) _ _ _ rfl (T4.hr.alloc _) ⟨W4.heap.size, 0, none⟩ 1 1 (rowT t) rfl rfl (cell_three_new _ _ _ _ _) (rowT_one _) (by unfold maxLen; omega) (by omega) (by simp; omega) ?_
                intro v' w3 hown' hgrow _
                obtain ⟨g', cap', rfl⟩ := ownsRow_succ hown'
                obtain ⟨h1, h2, h3, h4, h5, h6, h7, h8, h9, h10, h11, h12, h13, h14⟩ := T4.cells hB3 hX hne _ _ hgrow
                refine hK _ _ ?_
                clear hK K
                refine wpAnyIn_ready (rs := [5]) (by kernel_rfl) (by simp) ?_
                refine AllReadyIn.cons rfl (fun K hK => ?_) ?_
                · go_simp
                  refine hK _ _ ?_
                  clear hK K
                  refine wpAnyIn_ready (rs := [6]) (by kernel_rfl) (by simp) ?_
                  refine AllReadyIn.cons rfl (fun K hK => ?_) ?_
                  · go_simp
                    refine hK _ _ ?_
                    clear hK K
                    refine wpAnyIn_done (by kernel_rfl) ?_ _
                    exact HFIN1.out _ _ _ _ T4 HKP.out hgrow hown' { tmps := #[], defers := [] }
                  exact AllReadyIn.nil
                exact AllReadyIn.nil
              exact AllReadyIn.nil
            exact AllReadyIn.nil
          exact AllReadyIn.nil
        refine AllReadyIn.cons rfl (fun K hK => ?_) ?_
        · go_simp
          refine hK _ _ ?_
          clear hK K
          refine wpAnyIn_ready (rs := [0, 2]) (by kernel_rfl) (by simp) ?_
          refine AllReadyIn.cons rfl (fun K hK => ?_) ?_
          · go_simp
            refine hK _ _ ?_
            clear hK K
            refine wpAnyIn_ready (rs := [2]) (by kernel_rfl) (by simp) ?_
            refine AllReadyIn.cons rfl (fun K hK => ?_) ?_
            · go_simp
              refine hK _ _ ?_
              clear hK K
              refine wpAnyIn_ready (rs := [3]) (by kernel_rfl) (by simp) ?_
              refine AllReadyIn.cons rfl (fun K hK => ?_) ?_
              · refine stepIn_append_own rfl _ _ 60 rfl w1.heap.size 91 i0 (.agg #[.bool false, .bool false, .string .empty]) 3 24 Tryz.underlying60 hi hz0 hz1 hz2 rfl (by decide) _ _ _ rfl (T4.hr.alloc _) ⟨W4.heap.size, 0, none⟩ 1 1 (rowT t) rfl rfl (cell_three_new _ _ _ _ _) (rowT_one _) (by unfold maxLen; omega) (by omega) (by simp; omega) ?_
                intro v' w3 hown' hgrow _
                obtain ⟨g', cap', rfl⟩ := ownsRow_succ hown'
                obtain ⟨h1, h2, h3, h4, h5, h6, h7, h8, h9, h10, h11, h12, h13, h14⟩ := T4.cells hB3 hX hne _ _ hgrow
                refine hK _ _ ?_
                clear hK K
                refine wpAnyIn_ready (rs := [5]) (by kernel_rfl) (by simp) ?_
                refine AllReadyIn.cons rfl (fun K hK => ?_) ?_
                · go_simp
                  refine hK _ _ ?_
                  clear hK K
                  refine wpAnyIn_ready (rs := [6]) (by kernel_rfl) (by simp) ?_
                  refine AllReadyIn.cons rfl (fun K hK => ?_) ?_
                  · go_simp
                    refine hK _ _ ?_
                    clear hK K
                    refine wpAnyIn_done (by kernel_rfl) ?_ _
                    exact HFIN1.out _ _ _ _ T4 HKP.out hgrow hown' { tmps := #[], defers := [] }
                  exact AllReadyIn.nil
                exact AllReadyIn.nil
              exact AllReadyIn.nil
            exact AllReadyIn.nil
          refine AllReadyIn.cons rfl (fun K hK => ?_) ?_
          · go_simp
            refine hK _ _ ?_
            clear hK K
            refine wpAnyIn_ready (rs := [0]) (by kernel_rfl) (by simp) ?_
            refine AllReadyIn.cons rfl (fun K hK => ?_) ?_
            · go_simp
              refine hK _ _ ?_
              clear hK K
              refine wpAnyIn_ready (rs := [3]) (by kernel_rfl) (by simp) ?_
              refine AllReadyIn.cons rfl (fun K hK => ?_) ?_
              · refine stepIn_append_own rfl _ _ 60 rfl w1.heap.size 91 i0 (.agg #[.bool false, .bool false, .string .empty]) 3 24 Tryz.underlying60 hi hz0 hz1 hz2 rfl (by decide) _ _ _ rfl (T4.hr.alloc _) ⟨W4.heap.size, 0, none⟩ 1 1 (rowT t) rfl rfl (cell_three_new _ _ _ _ _) (rowT_one _) (by unfold maxLen; omega) (by omega) (by simp; omega) ?_
                intro v' w3 hown' hgrow _
                obtain ⟨g', cap', rfl⟩ := ownsRow_succ hown'
                obtain ⟨h1, h2, h3, h4, h5, h6, h7, h8, h9, h10, h11, h12, h13, h14⟩ := T4.cells hB3 hX hne _ _ hgrow
                refine hK _ _ ?_
                clear hK K
                refine wpAnyIn_ready (rs := [5]) (by kernel_rfl) (by simp) ?_
                refine AllReadyIn.cons rfl (fun K hK => ?_) ?_
                · go_simp
                  refine hK _ _ ?_
                  clear hK K
                  refine wpAnyIn_ready (rs := [6]) (by kernel_rfl) (by simp) ?_
                  refine AllReadyIn.cons rfl (fun K hK => ?_) ?_
                  · go_simp
                    refine hK _ _ ?_
                    clear hK K
                    refine wpAnyIn_done (by kernel_rfl) ?_ _
                    exact HFIN1.out _ _ _ _ T4 HKP.out hgrow hown' { tmps := #[], defers := [] }
                  exact AllReadyIn.nil
                exact AllReadyIn.nil
              exact AllReadyIn.nil
            exact AllReadyIn.nil
          exact AllReadyIn.nil
        exact AllReadyIn.nil
      refine AllReadyIn.cons rfl (fun K hK => ?_) ?_
      · go_simp
        refine hK _ _ ?_
        clear hK K
        refine wpAnyIn_ready (rs := [0, 1]) (by kernel_rfl) (by simp) ?_
        refine AllReadyIn.cons rfl (fun K hK => ?_) ?_
        · go_simp
          refine hK _ _ ?_
          clear hK K
          refine wpAnyIn_ready (rs := [1]) (by kernel_rfl) (by simp) ?_
          refine AllReadyIn.cons rfl (fun K hK => ?_) ?_
          · go_simp
            refine hK _ _ ?_
            clear hK K
            refine wpAnyIn_ready (rs := [2]) (by kernel_rfl) (by simp) ?_
            refine AllReadyIn.cons rfl (fun K hK => ?_) ?_
            · go_simp
              refine hK _ _ ?_
              clear hK K
              refine wpAnyIn_ready (rs := [3]) (by kernel_rfl) (by simp) ?_
              refine AllReadyIn.cons rfl (fun K hK => ?_) ?_
              · refine stepIn_append_own rfl _ _ 60 rfl w1.heap.size 91 i0 (.agg #[.bool false, .bool false, .string .empty]) 3 24 Tryz.underlying60 hi hz0 hz1 hz2 rfl (by decide) _ _ _ rfl (T4.hr.alloc _) ⟨W4.heap.size, 0, none⟩ 1 1 (rowT t) rfl rfl (cell_three_new _ _ _ _ _) (rowT_one _) (by unfold maxLen; omega) (by omega) (by simp; omega) ?_
                intro v' w3 hown' hgrow _
                obtain ⟨g', cap', rfl⟩ := ownsRow_succ hown'
                obtain ⟨h1, h2, h3, h4, h5, h6, h7, h8, h9, h10, h11, h12, h13, h14⟩ := T4.cells hB3 hX hne _ _ hgrow
                refine hK _ _ ?_
                clear hK K
                refine wpAnyIn_ready (rs := [5]) (by kernel_rfl) (by simp) ?_
                refine AllReadyIn.cons rfl (fun K hK => ?_) ?_
                · go_simp
                  refine hK _ _ ?_
                  clear hK K
                  refine wpAnyIn_ready (rs := [6]) (by kernel_rfl) (by simp) ?_
                  refine AllReadyIn.cons rfl (fun K hK => ?_) ?_
                  · go_simp
                    refine hK _ _ ?_
                    clear hK K
                    refine wpAnyIn_done (by kernel_rfl) ?_ _
                    exact HFIN1.out _ _ _ _ T4 HKP.out hgrow hown' { tmps := #[], defers := [] }
                  exact AllReadyIn.nil
                exact AllReadyIn.nil
              exact AllReadyIn.nil
            exact AllReadyIn.nil
          exact AllReadyIn.nil
        refine AllReadyIn.cons rfl (fun K hK => ?_) ?_
        · go_simp
          refine hK _ _ ?_
          clear hK K
          refine wpAnyIn_ready (rs := [0, 2]) (by kernel_rfl) (by simp) ?_
          refine AllReadyIn.cons rfl (fun K hK => ?_) ?_
          · go_simp
            refine hK _ _ ?_
            clear hK K
            refine wpAnyIn_ready (rs := [2]) (by kernel_rfl) (by simp) ?_
            refine AllReadyIn.cons rfl (fun K hK => ?_) ?_
            · go_simp
              refine hK _ _ ?_
              clear hK K
              refine wpAnyIn_ready (rs := [3]) (by kernel_rfl) (by simp) ?_
              refine AllReadyIn.cons rfl (fun K hK => ?_) ?_
              · refine stepIn_append_own rfl _ _ 60 rfl w1.heap.size 91 i0 (.agg #[.bool false, .bool false, .string .empty]) 3 24 Tryz.underlying60 hi hz0 hz1 hz2 rfl (by decide) _ _ _ rfl (T4.hr.alloc _) ⟨W4.heap.size, 0, none⟩ 1 1 (rowT t) rfl rfl (cell_three_new _ _ _ _ _) (rowT_one _) (by unfold maxLen; omega) (by omega) (by simp; omega) ?_
                intro v' w3 hown' hgrow _
                obtain ⟨g', cap', rfl⟩ := ownsRow_succ hown'
                obtain ⟨h1, h2, h3, h4, h5, h6, h7, h8, h9, h10, h11, h12, h13, h14⟩ := T4.cells hB3 hX hne _ _ hgrow
                refine hK _ _ ?_
                clear hK K
                refine wpAnyIn_ready (rs := [5]) (by kernel_rfl) (by simp) ?_
                refine AllReadyIn.cons rfl (fun K hK => ?_) ?_
                · go_simp
                  refine hK _ _ ?_
                  clear hK K
                  refine wpAnyIn_ready (rs := [6]) (by kernel_rfl) (by simp) ?_
                  refine AllReadyIn.cons rfl (fun K hK => ?_) ?_
                  · go_simp
                    refine hK _ _ ?_
                    clear hK K
                    refine wpAnyIn_done (by kernel_rfl) ?_ _
                    exact HFIN1.out _ _ _ _ T4 HKP.out hgrow hown' { tmps := #[], defers := [] }
                  exact AllReadyIn.nil
                exact AllReadyIn.nil
              exact AllReadyIn.nil
            exact AllReadyIn.nil
          refine AllReadyIn.cons rfl (fun K hK => ?_) ?_
          · go_simp
            refine hK _ _ ?_
            clear hK K
            refine wpAnyIn_ready (rs := [0]) (by kernel_rfl) (by simp) ?_
            refine AllReadyIn.cons rfl (fun K hK => ?_) ?_
            · go_simp
              refine hK _ _ ?_
              clear hK K
              refine wpAnyIn_ready (rs := [3]) (by kernel_rfl) (by simp) ?_
              refine AllReadyIn.cons rfl (fun K hK => ?_) ?_
              · refine stepIn_append_own rfl _ _ 60 rfl w1.heap.size 91 i0 (.agg #[.bool false, .bool false, .string .empty]) 3 24 Tryz.underlying60 hi hz0 hz1 hz2 rfl (by decide) _ _ _ rfl (T4.hr.alloc _) ⟨W4.heap.size, 0, none⟩ 1 1 (rowT t) rfl rfl (cell_three_new _ _ _ _ _) (rowT_one _) (by unfold maxLen; omega) (by omega) (by simp; omega) ?_
                intro v' w3 hown' hgrow _
                obtain ⟨g', cap', rfl⟩ := ownsRow_succ hown'
                obtain ⟨h1, h2, h3, h4, h5, h6, h7, h8, h9, h10, h11, h12, h13, h14⟩ := T4.cells hB3 hX hne _ _ hgrow
                refine hK _ _ ?_
                clear hK K
                refine wpAnyIn_ready (rs := [5]) (by kernel_rfl) (by simp) ?_
                refine AllReadyIn.cons rfl (fun K hK => ?_) ?_
                · go_simp
                  refine hK _ _ ?_
                  clear hK K
                  refine wpAnyIn_ready (rs := [6]) (by kernel_rfl) (by simp) ?_
                  refine AllReadyIn.cons rfl (fun K hK => ?_) ?_
                  · go_simp
                    refine hK _ _ ?_
                    clear hK K
                    refine wpAnyIn_done (by kernel_rfl) ?_ _
                    exact HFIN1.out _ _ _ _ T4 HKP.out hgrow hown' { tmps := #[], defers := [] }
                  exact AllReadyIn.nil
                exact AllReadyIn.nil
              exact AllReadyIn.nil
            exact AllReadyIn.nil
          exact AllReadyIn.nil
        exact AllReadyIn.nil
      exact AllReadyIn.nil
    · rw [hnu] at NU
      have NU := hide NU
      cases hqd : q.dash
      · cases hqn : q.num
        · have HKP : Hid (keepL (pre ++ [(xi, t)]) = kp) := by show _ = _; rw [HK.out, HSK.out, hnu]; unfold looseB; rw [hqd, hqn]; rfl
          clear hnu
          gi_wp2
          refine ⟨trivial, (CallsIn.inRound lx (callsIn_wide.2 (NU.out _))).mono ?_⟩
          rintro e w2 ⟨rfl, b2⟩
          have T2 := T0.next hNW hX0 hbW b2
          obtain ⟨q0, q1⟩ := T2.qs
          rw [hqd] at q0
          rw [hqn] at q1
          gi_wp2
          exact HFIN0.out _ T2 HKP.out _
        · have HKP : Hid (keepL (pre ++ [(xi, t)]) = kp ++ [t]) := by show _ = _; rw [HK.out, HSK.out, hnu]; unfold looseB; rw [hqd, hqn]; rfl
          clear hnu
          gi_wp2
          refine ⟨trivial, (CallsIn.inRound lx (callsIn_wide.2 (NU.out _))).mono ?_⟩
          rintro e w2 ⟨rfl, b2⟩
          have T2 := T0.next hNW hX0 hbW b2
          clear cX0 cX1 cX2
          obtain ⟨q0, q1⟩ := T2.qs
          rw [hqd] at q0
          rw [hqn] at q1
          gi_wp2
          clear q0 q1
          refine wpIn_region_any (by kernel_rfl) ?_
          refine wpAnyIn_round (F := Fence.wide) rfl (noDefer_of (by kernel_rfl)) _ _ _ _ ?_
          change wpAnyIn _ _ _ _ _ _ _ _ _ (World.drew _)
          have T4 := T2.drew
          have hsz4 : w1.heap.size ≤ w2.drew.heap.size := T4.sz
          have hB3 : w.heap.size + 1 + 1 < w1.heap.size := by omega
          clear T0 T2 b2
          generalize w2.drew = W4 at *
          obtain ⟨cX0, cX1, cX2⟩ := T4.xs
          have cV := T4.hv.cell
          have cVa : ∀ o : Obj, (W4.alloc o).cell? ⟨w.heap.size, 0, none⟩ = some (.slice ao kp.length cv) := fun o => (T4.hv.alloc o).cell
          have cXa0 := fun o => (T4.xa o).1
          have cXa1 := fun o => (T4.xa o).2.1
          have cXa2 := fun o => (T4.xa o).2.2
          refine wpAnyIn_ready (rs := [0, 1, 4]) (by kernel_rfl) (by simp) ?_
          refine AllReadyIn.cons rfl (fun K hK => ?_) ?_
          · go_simp
            refine hK _ _ ?_
            clear hK K
            refine wpAnyIn_ready (rs := [1, 4]) (by kernel_rfl) (by simp) ?_
            refine AllReadyIn.cons rfl (fun K hK => ?_) ?_
            · go_simp
              refine hK _ _ ?_
              clear hK K
              refine wpAnyIn_ready (rs := [2, 4]) (by kernel_rfl) (by simp) ?_
              refine AllReadyIn.cons rfl (fun K hK => ?_) ?_
              · go_simp
                refine hK _ _ ?_
                clear hK K
                refine wpAnyIn_ready (rs := [3, 4]) (by kernel_rfl) (by simp) ?_
                refine AllReadyIn.cons rfl (fun K hK => ?_) ?_
                · refine stepIn_append_own rfl _ _ 60 rfl w1.heap.size 91 i0 (.agg #[.bool false, .bool false, .string .empty]) 3 24 Tryz.underlying60 hi hz0 hz1 hz2 rfl (by decide) _ _ _ rfl (T4.hr.alloc _) ⟨W4.heap.size, 0, none⟩ 1 1 (rowT t) rfl rfl (cell_three_new _ _ _ _ _) (rowT_one _) (by unfold maxLen; omega) (by omega) (by simp; omega) ?_
                  intro v' w3 hown' hgrow _
                  obtain ⟨g', cap', rfl⟩ := ownsRow_succ hown'
                  obtain ⟨h1, h2, h3, h4, h5, h6, h7, h8, h9, h10, h11, h12, h13, h14⟩ := T4.cells hB3 hX hne _ _ hgrow
                  refine hK _ _ ?_
                  clear hK K
                  refine wpAnyIn_ready (rs := [4, 5]) (by kernel_rfl) (by simp) ?_
                  refine AllReadyIn.cons rfl (fun K hK => ?_) ?_
                  · go_simp
                    refine hK _ _ ?_
                    clear hK K
                    refine wpAnyIn_ready (rs := [5]) (by kernel_rfl) (by simp) ?_
                    refine AllReadyIn.cons rfl (fun K hK => ?_) ?_
                    · go_simp
                      refine hK _ _ ?_
                      clear hK K
                      refine wpAnyIn_ready (rs := [6]) (by kernel_rfl) (by simp) ?_
                      refine AllReadyIn.cons rfl (fun K hK => ?_) ?_
                      · go_simp
                        refine hK _ _ ?_
                        clear hK K
                        refine wpAnyIn_done (by kernel_rfl) ?_ _
                        exact HFIN1.out _ _ _ _ T4 HKP.out hgrow hown' { tmps := #[], defers := [] }
                      exact AllReadyIn.nil
                    exact AllReadyIn.nil
                  refine AllReadyIn.cons rfl (fun K hK => ?_) ?_
                  · go_simp
                    refine hK _ _ ?_
                    clear hK K
                    refine wpAnyIn_ready (rs := [4]) (by kernel_rfl) (by simp) ?_
                    refine AllReadyIn.cons rfl (fun K hK => ?_) ?_
                    · go_simp
                      refine hK _ _ ?_
                      clear hK K
                      refine wpAnyIn_ready (rs := [6]) (by kernel_rfl) (by simp) ?_
                      refine AllReadyIn.cons rfl (fun K hK => ?_) ?_
                      · go_simp
                        refine hK _ _ ?_
                        clear hK K
                        refine wpAnyIn_done (by kernel_rfl) ?_ _
                        exact HFIN1.out _ _ _ _ T4 HKP.out hgrow hown' { tmps := #[], defers := [] }
                      exact AllReadyIn.nil
                    exact AllReadyIn.nil
                  exact AllReadyIn.nil
                refine AllReadyIn.cons rfl (fun K hK => ?_) ?_
                · go_simp
                  refine hK _ _ ?_
                  clear hK K
                  refine wpAnyIn_ready (rs := [3]) (by kernel_rfl) (by simp) ?_
                  refine AllReadyIn.cons rfl (fun K hK => ?_) ?_
                  · refine stepIn_append_own rfl _ _ 60 rfl w1.heap.size 91 i0 (.agg #[.bool false, .bool false, .string .empty]) 3 24 Tryz.underlying60 hi hz0 hz1 hz2 rfl (by decide) _ _ _ rfl (T4.hr.alloc _) ⟨W4.heap.size, 0, none⟩ 1 1 (rowT t) rfl rfl (cell_three_new _ _ _ _ _) (rowT_one _) (by unfold maxLen; omega) (by omega) (by simp; omega) ?_
                    intro v' w3 hown' hgrow _
                    obtain ⟨g', cap', rfl⟩ := ownsRow_succ hown'
                    obtain ⟨h1, h2, h3, h4, h5, h6, h7, h8, h9, h10, h11, h12, h13, h14⟩ := T4.cells hB3 hX hne _ _ hgrow
                    refine hK _ _ ?_
                    clear hK K
                    refine wpAnyIn_ready (rs := [5]) (by kernel_rfl) (by simp) ?_
                    refine AllReadyIn.cons rfl (fun K hK => ?_) ?_
                    · go_simp
                      refine hK _ _ ?_
                      clear hK K
                      refine wpAnyIn_ready (rs := [6]) (by kernel_rfl) (by simp) ?_
                      refine AllReadyIn.cons rfl (fun K hK => ?_) ?_
                      · go_simp
                        refine hK _ _ ?_
                        clear hK K
                        refine wpAnyIn_done (by kernel_rfl) ?_ _
                        exact HFIN1.out _ _ _ _ T4 HKP.out hgrow hown' { tmps := #[], defers := [] }
                      exact AllReadyIn.nil
                    exact AllReadyIn.nil
                  exact AllReadyIn.nil
                exact AllReadyIn.nil
              refine AllReadyIn.cons rfl (fun K hK => ?_) ?_
              · go_simp
                refine hK _ _ ?_
                clear hK K
                refine wpAnyIn_ready (rs := [2]) (by kernel_rfl) (by simp) ?_
                refine AllReadyIn.cons rfl (fun K hK => ?_) ?_
                · go_simp
                  refine hK _ _ ?_
                  clear hK K
                  refine wpAnyIn_ready (rs := [3]) (by kernel_rfl) (by simp) ?_
                  refine AllReadyIn.cons rfl (fun K hK => ?_) ?_
                  · refine stepIn_append_own rfl _ _ 60 rfl w1.heap.size 91 i0 (.agg #[.bool false, .bool false, .string .empty]) 3 24 Tryz.underlying60 hi hz0 hz1 hz2 rfl (by decide) _ _ _ rfl (T4.hr.alloc _) ⟨W4.heap.size, 0, none⟩ 1 1 (rowT t) rfl rfl (cell_three_new _ _ _ _ _) (rowT_one _) (by unfold maxLen; omega) (by omega) (by simp; omega) ?_
                    intro v' w3 hown' hgrow _
                    obtain ⟨g', cap', rfl⟩ := ownsRow_succ hown'
                    obtain ⟨h1, h2, h3, h4, h5, h6, h7, h8, h9, h10, h11, h12, h13, h14⟩ := T4.cells hB3 hX hne _ _ hgrow
                    refine hK _ _ ?_
                    clear hK K
                    refine wpAnyIn_ready (rs := [5]) (by kernel_rfl) (by simp) ?_
                    refine AllReadyIn.cons rfl (fun K hK => ?_) ?_
                    · go_simp
                      refine hK _ _ ?_
                      clear hK K
                      refine wpAnyIn_ready (rs := [6]) (by kernel_rfl) (by simp) ?_
                      refine AllReadyIn.cons rfl (fun K hK => ?_) ?_
                      · go_simp
                        refine hK _ _ ?_
                        clear hK K
                        refine wpAnyIn_done (by kernel_rfl) ?_ _
                        exact HFIN1.out _ _ _ _ T4 HKP.out hgrow hown' { tmps := #[], defers := [] }
                      exact AllReadyIn.nil
                    exact AllReadyIn.nil
                  exact AllReadyIn.nil
                exact AllReadyIn.nil
              exact AllReadyIn.nil
            refine AllReadyIn.cons rfl (fun K hK => ?_) ?_
            · go_simp
              refine hK _ _ ?_
              clear hK K
              refine wpAnyIn_ready (rs := [1]) (by kernel_rfl) (by simp) ?_
              refine AllReadyIn.cons rfl (fun K hK => ?_) ?_
              · go_simp
                refine hK _ _ ?_
                clear hK K
                refine wpAnyIn_ready (rs := [2]) (by kernel_rfl) (by simp) ?_
                refine AllReadyIn.cons rfl (fun K hK => ?_) ?_
                · go_simp
                  refine hK _ _ ?_
                  clear hK K
                  refine wpAnyIn_ready (rs := [3]) (by kernel_rfl) (by simp) ?_
                  refine AllReadyIn.cons rfl (fun K hK => ?_) ?_
                  · refine stepIn_append_own rfl _ _ 60 rfl w1.heap.size 91 i0 (.agg #[.bool false, .bool false, .string .empty]) 3 24 Tryz.underlying60 hi hz0 hz1 hz2 rfl (by decide) _ _ _ rfl (T4.hr.alloc _) ⟨W4.heap.size, 0, none⟩ 1 1 (rowT t) rfl rfl (cell_three_new _ _ _ _ _) (rowT_one _) (by unfold maxLen; omega) (by omega) (by simp; omega) ?_
                    intro v' w3 hown' hgrow _
                    obtain ⟨g', cap', rfl⟩ := ownsRow_succ hown'
                    obtain ⟨h1, h2, h3, h4, h5, h6, h7, h8, h9, h10, h11, h12, h13, h14⟩ := T4.cells hB3 hX hne _ _ hgrow
                    refine hK _ _ ?_
                    clear hK K
                    refine wpAnyIn_ready (rs := [5]) (by kernel_rfl) (by simp) ?_
                    refine AllReadyIn.cons rfl (fun K hK => ?_) ?_
                    · go_simp
                      refine hK _ _ ?_
                      clear hK K
                      refine wpAnyIn_ready (rs := [6]) (by kernel_rfl) (by simp) ?_
                      refine AllReadyIn.cons rfl (fun K hK => ?_) ?_
                      · go_simp
                        refine hK _ _ ?_
                        clear hK K
                        refine wpAnyIn_done (by kernel_rfl) ?_ _
                        exact HFIN1.out _ _ _ _ T4 HKP.out hgrow hown' { tmps := #[], defers := [] }
                      exact AllReadyIn.nil
                    exact AllReadyIn.nil
                  exact AllReadyIn.nil
                exact AllReadyIn.nil
              exact AllReadyIn.nil
            exact AllReadyIn.nil
          refine AllReadyIn.cons rfl (fun K hK => ?_) ?_
          · go_simp
            refine hK _ _ ?_
            clear hK K
            refine wpAnyIn_ready (rs := [0, 2, 4]) (by kernel_rfl) (by simp) ?_
            refine AllReadyIn.cons rfl (fun K hK => ?_) ?_
            · go_simp
              refine hK _ _ ?_
              clear hK K
              refine wpAnyIn_ready (rs := [2, 4]) (by kernel_rfl) (by simp) ?_
              refine AllReadyIn.cons rfl (fun K hK => ?_) ?_
              · go_simp
                refine hK _ _ ?_
                clear hK K
                refine wpAnyIn_ready (rs := [3, 4]) (by kernel_rfl) (by simp) ?_
                refine AllReadyIn.cons rfl (fun K hK => ?_) ?_
                · refine stepIn_append_own rfl _ _ 60 rfl w1.heap.size 91 i0 (.agg #[.bool false, .bool false, .string .empty]) 3 24 Tryz.underlying60 hi hz0 hz1 hz2 rfl (by decide) _ _ _ rfl (T4.hr.alloc _) ⟨W4.heap.size, 0, none⟩ 1 1 (rowT t) rfl rfl (cell_three_new _ _ _ _ _) (rowT_one _) (by unfold maxLen; omega) (by omega) (by simp; omega) ?_
                  intro v' w3 hown' hgrow _
                  obtain ⟨g', cap', rfl⟩ := ownsRow_succ hown'
                  obtain ⟨h1, h2, h3, h4, h5, h6, h7, h8, h9, h10, h11, h12, h13, h14⟩ := T4.cells hB3 hX hne _ _ hgrow
                  refine hK _ _ ?_
                  clear hK K
                  refine wpAnyIn_ready (rs := [4, 5]) (by kernel_rfl) (by simp) ?_
                  refine AllReadyIn.cons rfl (fun K hK => ?_) ?_
                  · go_simp
                    refine hK _ _ ?_
                    clear hK K
                    refine wpAnyIn_ready (rs := [5]) (by kernel_rfl) (by simp) ?_
                    refine AllReadyIn.cons rfl (fun K hK => ?_) ?_
                    · go_simp
                      refine hK _ _ ?_
                      clear hK K
                      refine wpAnyIn_ready (rs := [6]) (by kernel_rfl) (by simp) ?_
                      refine AllReadyIn.cons rfl (fun K hK => ?_) ?_
                      · go_simp
                        refine hK _ _ ?_
                        clear hK K
                        refine wpAnyIn_done (by kernel_rfl) ?_ _
                        exact HFIN1.out _ _ _ _ T4 HKP.out hgrow hown' { tmps := #[], defers := [] }
                      exact AllReadyIn.nil
                    exact AllReadyIn.nil
                  refine AllReadyIn.cons rfl (fun K hK => ?_) ?_
                  · go_simp
                    refine hK _ _ ?_
                    clear hK K
                    refine wpAnyIn_ready (rs := [4]) (by kernel_rfl) (by simp) ?_
                    refine AllReadyIn.cons rfl (fun K hK => ?_) ?_
                    · go_simp
                      refine hK _ _ ?_
                      clear hK K
                      refine wpAnyIn_ready (rs := [6]) (by kernel_rfl) (by simp) ?_
                      refine AllReadyIn.cons rfl (fun K hK => ?_) ?_
                      · go_simp
                        refine hK _ _ ?_
                        clear hK K
                        refine wpAnyIn_done (by kernel_rfl) ?_ _
                        exact HFIN1.out _ _ _ _ T4 HKP.out hgrow hown' { tmps := #[], defers := [] }
                      exact AllReadyIn.nil
                    exact AllReadyIn.nil
                  exact AllReadyIn.nil
                refine AllReadyIn.cons rfl (fun K hK => ?_) ?_
                · go_simp
                  refine hK _ _ ?_
                  clear hK K
                  refine wpAnyIn_ready (rs := [3]) (by kernel_rfl) (by simp) ?_
                  refine AllReadyIn.cons rfl (fun K hK => ?_) ?_
                  · refine stepIn_append_own rfl _ _ 60 rfl w1.heap.size 91 i0 (.agg #[.bool false, .bool false, .string .empty]) 3 24 Tryz.underlying60 hi hz0 hz1 hz2 rfl (by decide) _ _ _ rfl (T4.hr.alloc _) ⟨W4.heap.size, 0, none⟩ 1 1 (rowT t) rfl rfl (cell_three_new _ _ _ _ _) (rowT_one _) (by unfold maxLen; omega) (by omega) (by simp; omega) ?_
                    intro v' w3 hown' hgrow _
                    obtain ⟨g', cap', rfl⟩ := ownsRow_succ hown'
                    obtain ⟨h1, h2, h3, h4, h5, h6, h7, h8, h9, h10, h11, h12, h13, h14⟩ := T4.cells hB3 hX hne _ _ hgrow
                    refine hK _ _ ?_
                    clear hK K
                    refine wpAnyIn_ready (rs := [5]) (by kernel_rfl) (by simp) ?_
                    refine AllReadyIn.cons rfl (fun K hK => ?_) ?_
                    · go_simp
                      refine hK _ _ ?_
                      clear hK K
                      refine wpAnyIn_ready (rs := [6]) (by kernel_rfl) (by simp) ?_
                      refine AllReadyIn.cons rfl (fun K hK => ?_) ?_
                      · go_simp
                        refine hK _ _ ?_
                        clear hK K
                        refine wpAnyIn_done (by kernel_rfl) ?_ _
                        exact HFIN1.out _ _ _ _ T4 HKP.out hgrow hown' { tmps := #[], defers := [] }
                      exact AllReadyIn.nil
                    exact AllReadyIn.nil
                  exact AllReadyIn.nil
                exact AllReadyIn.nil
              refine AllReadyIn.cons rfl (fun K hK => ?_) ?_
              · go_simp
                refine hK _ _ ?_
                clear hK K
                refine wpAnyIn_ready (rs := [2]) (by kernel_rfl) (by simp) ?_
                refine AllReadyIn.cons rfl (fun K hK => ?_) ?_
                · go_simp
                  refine hK _ _ ?_
                  clear hK K
                  refine wpAnyIn_ready (rs := [3]) (by kernel_rfl) (by simp) ?_
                  refine AllReadyIn.cons rfl (fun K hK => ?_) ?_
                  · refine stepIn_append_own rfl _ _ 60 rfl w1.heap.size 91 i0 (.agg #[.bool false, .bool false, .string .empty]) 3 24 Tryz.underlying60 hi hz0 hz1 hz2 rfl (by decide) _ _ _ rfl (T4.hr.alloc _) ⟨W4.heap.size, 0, none⟩ 1 1 (rowT t) rfl rfl (cell_three_new _ _ _ _ _) (rowT_one _) (by unfold maxLen; omega) (by omega) (by simp; omega) ?_
                    intro v' w3 hown' hgrow _
                    obtain ⟨g', cap', rfl⟩ := ownsRow_succ hown'
                    obtain ⟨h1, h2, h3, h4, h5, h6, h7, h8, h9, h10, h11, h12, h13, h14⟩ := T4.cells hB3 hX hne _ _ hgrow
                    refine hK _ _ ?_
                    clear hK K
                    refine wpAnyIn_ready (rs := [5]) (by kernel_rfl) (by simp) ?_
                    refine AllReadyIn.cons rfl (fun K hK => ?_) ?_
                    · go_simp
                      refine hK _ _ ?_
                      clear hK K
                      refine wpAnyIn_ready (rs := [6]) (by kernel_rfl) (by simp) ?_
                      refine AllReadyIn.cons rfl (fun K hK => ?_) ?_
                      · go_simp
                        refine hK _ _ ?_
                        clear hK K
                        refine wpAnyIn_done (by kernel_rfl) ?_ _
                        exact HFIN1.out _ _ _ _ T4 HKP.out hgrow hown' { tmps := #[], defers := [] }
                      exact AllReadyIn.nil
                    exact AllReadyIn.nil
                  exact AllReadyIn.nil
                exact AllReadyIn.nil
              exact AllReadyIn.nil
            refine AllReadyIn.cons rfl (fun K hK => ?_) ?_
            · go_simp
              refine hK _ _ ?_
              clear hK K
              refine wpAnyIn_ready (rs := [0, 4]) (by kernel_rfl) (by simp) ?_
              refine AllReadyIn.cons rfl (fun K hK => ?_) ?_
              · go_simp
                refine hK _ _ ?_
                clear hK K
                refine wpAnyIn_ready (rs := [3, 4]) (by kernel_rfl) (by simp) ?_
                refine AllReadyIn.cons rfl (fun K hK => ?_) ?_
                · refine stepIn_append_own rfl _ _ 60 rfl w1.heap.size 91 i0 (.agg #[.bool false, .bool false, .string .empty]) 3 24 Tryz.underlying60 hi hz0 hz1 hz2 rfl (by decide) _ _ _ rfl (T4.hr.alloc _) ⟨W4.heap.size, 0, none⟩ 1 1 (rowT t) rfl rfl (cell_three_new _ _ _ _ _) (rowT_one _) (by unfold maxLen; omega) (by omega) (by simp; omega) ?_
                  intro v' w3 hown' hgrow _
                  obtain ⟨g', cap', rfl⟩ := ownsRow_succ hown'
                  obtain ⟨h1, h2, h3, h4, h5, h6, h7, h8, h9, h10, h11, h12, h13, h14⟩ := T4.cells hB3 hX hne _ _ hgrow
                  refine hK _ _ ?_
                  clear hK K
                  refine wpAnyIn_ready (rs := [4, 5]) (by kernel_rfl) (by simp) ?_
                  refine AllReadyIn.cons rfl (fun K hK => ?_) ?_
                  · go_simp
                    refine hK _ _ ?_
                    clear hK K
                    refine wpAnyIn_ready (rs := [5]) (by kernel_rfl) (by simp) ?_
                    refine AllReadyIn.cons rfl (fun K hK => ?_) ?_
                    · go_simp
                      refine hK _ _ ?_
                      clear hK K
                      refine wpAnyIn_ready (rs := [6]) (by kernel_rfl) (by simp) ?_
                      refine AllReadyIn.cons rfl (fun K hK => ?_) ?_
                      · go_simp
                        refine hK _ _ ?_
                        clear hK K
                        refine wpAnyIn_done (by kernel_rfl) ?_ _
                        exact HFIN1.out _ _ _ _ T4 HKP.out hgrow hown' { tmps := #[], defers := [] }
                      exact AllReadyIn.nil
                    exact AllReadyIn.nil
                  refine AllReadyIn.cons rfl (fun K hK => ?_) ?_
                  · go_simp
                    refine hK _ _ ?_
                    clear hK K
                    refine wpAnyIn_ready (rs := [4]) (by kernel_rfl) (by simp) ?_
                    refine AllReadyIn.cons rfl (fun K hK => ?_) ?_
                    · go_simp
                      refine hK _ _ ?_
                      clear hK K
                      refine wpAnyIn_ready (rs := [6]) (by kernel_rfl) (by simp) ?_
                      refine AllReadyIn.cons rfl (fun K hK => ?_) ?_
                      · go_simp
                        refine hK _ _ ?_
                        clear hK K
                        refine wpAnyIn_done (by kernel_rfl) ?_ _
                        exact HFIN1.out _ _ _ _ T4 HKP.out hgrow hown' { tmps := #[], defers := [] }
                      exact AllReadyIn.nil
                    exact AllReadyIn.nil
                  exact AllReadyIn.nil
                refine AllReadyIn.cons rfl (fun K hK => ?_) ?_
                · go_simp
                  refine hK _ _ ?_
                  clear hK K
                  refine wpAnyIn_ready (rs := [3]) (by kernel_rfl) (by simp) ?_
                  refine AllReadyIn.cons rfl (fun K hK => ?_) ?_
                  · refine stepIn_append_own rfl _ _ 60 rfl w1.heap.size 91 i0 (.agg #[.bool false, .bool false, .string .empty]) 3 24 Tryz.underlying60 hi hz0 hz1 hz2 rfl (by decide) _ _ _ rfl (T4.hr.alloc _) ⟨W4.heap.size, 0, none⟩ 1 1 (rowT t) rfl rfl (cell_three_new _ _ _ _ _) (rowT_one _) (by unfold maxLen; omega) (by omega) (by simp; omega) ?_
                    intro v' w3 hown' hgrow _
                    obtain ⟨g', cap', rfl⟩ := ownsRow_succ hown'
                    obtain ⟨h1, h2, h3, h4, h5, h6, h7, h8, h9, h10, h11, h12, h13, h14⟩ := T4.cells hB3 hX hne _ _ hgrow
                    refine hK _ _ ?_
                    clear hK K
                    refine wpAnyIn_ready (rs := [5]) (by kernel_rfl) (by simp) ?_
                    refine AllReadyIn.cons rfl (fun K hK => ?_) ?_
                    · go_simp
                      refine hK _ _ ?_
                      clear hK K
                      refine wpAnyIn_ready (rs := [6]) (by kernel_rfl) (by simp) ?_
                      refine AllReadyIn.cons rfl (fun K hK => ?_) ?_
                      · go_simp
                        refine hK _ _ ?_
                        clear hK K
                        refine wpAnyIn_done (by kernel_rfl) ?_ _
                        exact HFIN1.out _ _ _ _ T4 HKP.out hgrow hown' { tmps := #[], defers := [] }
                      exact AllReadyIn.nil
                    exact AllReadyIn.nil
                  exact AllReadyIn.nil
                exact AllReadyIn.nil
              refine AllReadyIn.cons rfl (fun K hK => ?_) ?_
              · go_simp
                refine hK _ _ ?_
                clear hK K
                refine wpAnyIn_ready (rs := [0]) (by kernel_rfl) (by simp) ?_
                refine AllReadyIn.cons rfl (fun K hK => ?_) ?_
                · go_simp
                  refine hK _ _ ?_
                  clear hK K
                  refine wpAnyIn_ready (rs := [3]) (by kernel_rfl) (by simp) ?_
                  refine AllReadyIn.cons rfl (fun K hK => ?_) ?_
                  · refine stepIn_append_own rfl _ _ 60 rfl w1.heap.size 91 i0 (.agg #[.bool false, .bool false, .string .empty]) 3 24 Tryz.underlying60 hi hz0 hz1 hz2 rfl (by decide) _ _ _ rfl (T4.hr.alloc _) ⟨W4.heap.size, 0, none⟩ 1 1 (rowT t) rfl rfl (cell_three_new _ _ _ _ _) (rowT_one _) (by unfold maxLen; omega) (by omega) (by simp; omega) ?_
                    intro v' w3 hown' hgrow _
                    obtain ⟨g', cap', rfl⟩ := ownsRow_succ hown'
                    obtain ⟨h1, h2, h3, h4, h5, h6, h7, h8, h9, h10, h11, h12, h13, h14⟩ := T4.cells hB3 hX hne _ _ hgrow
                    refine hK _ _ ?_
                    clear hK K
                    refine wpAnyIn_ready (rs := [5]) (by kernel_rfl) (by simp) ?_
                    refine AllReadyIn.cons rfl (fun K hK => ?_) ?_
                    · go_simp
                      refine hK _ _ ?_
                      clear hK K
                      refine wpAnyIn_ready (rs := [6]) (by kernel_rfl) (by simp) ?_
                      refine AllReadyIn.cons rfl (fun K hK => ?_) ?_
                      · go_simp
                        refine hK _ _ ?_
                        clear hK K
                        refine wpAnyIn_done (by kernel_rfl) ?_ _
                        exact HFIN1.out _ _ _ _ T4 HKP.out hgrow hown' { tmps := #[], defers := [] }
                      exact AllReadyIn.nil
                    exact AllReadyIn.nil
                  exact AllReadyIn.nil
                exact AllReadyIn.nil
              exact AllReadyIn.nil
            refine AllReadyIn.cons rfl (fun K hK => ?_) ?_
            · go_simp
              refine hK _ _ ?_
              clear hK K
              refine wpAnyIn_ready (rs := [0, 2]) (by kernel_rfl) (by simp) ?_
              refine AllReadyIn.cons rfl (fun K hK => ?_) ?_
              · go_simp
                refine hK _ _ ?_
                clear hK K
                refine wpAnyIn_ready (rs := [2]) (by kernel_rfl) (by simp) ?_
                refine AllReadyIn.cons rfl (fun K hK => ?_) ?_
                · go_simp
                  refine hK _ _ ?_
                  clear hK K
                  refine wpAnyIn_ready (rs := [3]) (by kernel_rfl) (by simp) ?_
                  refine AllReadyIn.cons rfl (fun K hK => ?_) ?_
                  · refine stepIn_append_own rfl _ _ 60 rfl w1.heap.size 91 i0 (.agg #[.bool false, .bool false, .string .empty]) 3 24 Tryz.underlying60 hi hz0 hz1 hz2 rfl (by decide) _ _ _ rfl (T4.hr.alloc _) ⟨W4.heap.size, 0, none⟩ 1 1 (rowT t) rfl rfl (cell_three_new _ _ _ _ _) (rowT_one _) (by unfold maxLen; omega) (by omega) (by simp; omega) ?_
                    intro v' w3 hown' hgrow _
                    obtain ⟨g', cap', rfl⟩ := ownsRow_succ hown'
                    obtain ⟨h1, h2, h3, h4, h5, h6, h7, h8, h9, h10, h11, h12, h13, h14⟩ := T4.cells hB3 hX hne _ _ hgrow
                    refine hK _ _ ?_
                    clear hK K
                    refine wpAnyIn_ready (rs := [5]) (by kernel_rfl) (by simp) ?_
                    refine AllReadyIn.cons rfl (fun K hK => ?_) ?_
                    · go_simp
                      refine hK _ _ ?_
                      clear hK K
                      refine wpAnyIn_ready (rs := [6]) (by kernel_rfl) (by simp) ?_
                      refine AllReadyIn.cons rfl (fun K hK => ?_) ?_
                      · go_simp
                        refine hK _ _ ?_
                        clear hK K
                        refine wpAnyIn_done (by kernel_rfl) ?_ _
                        exact HFIN1.out _ _ _ _ T4 HKP.out hgrow hown' { tmps := #[], defers := [] }
                      exact AllReadyIn.nil
                    exact AllReadyIn.nil
                  exact AllReadyIn.nil
                exact AllReadyIn.nil
              refine AllReadyIn.cons rfl (fun K hK => ?_) ?_
              · go_simp
                refine hK _ _ ?_
                clear hK K
                refine wpAnyIn_ready (rs := [0]) (by kernel_rfl) (by simp) ?_
                refine AllReadyIn.cons rfl (fun K hK => ?_) ?_
                · go_simp
                  refine hK _ _ ?_
                  clear hK K
                  refine wpAnyIn_ready (rs := [3]) (by kernel_rfl) (by simp) ?_
                  refine AllReadyIn.cons rfl (fun K hK => ?_) ?_
                  · refine stepIn_append_own rfl _ _ 60 rfl w1.heap.size 91 i0 (.agg #[.bool false, .bool false, .string .empty]) 3 24 Tryz.underlying60 hi hz0 hz1 hz2 rfl (by decide) _ _ _ rfl (T4.hr.alloc _) ⟨W4.heap.size, 0, none⟩ 1 1 (rowT t) rfl rfl (cell_three_new _ _ _ _ _) (rowT_one _) (by unfold maxLen; omega) (by omega) (by simp; omega) ?_
                    intro v' w3 hown' hgrow _
                    obtain ⟨g', cap', rfl⟩ := ownsRow_succ hown'
                    obtain ⟨h1, h2, h3, h4, h5, h6, h7, h8, h9, h10, h11, h12, h13, h14⟩ := T4.cells hB3 hX hne _ _ hgrow
                    refine hK _ _ ?_
                    clear hK K
                    refine wpAnyIn_ready (rs := [5]) (by kernel_rfl) (by simp) ?_
                    refine AllReadyIn.cons rfl (fun K hK => ?_) ?_
                    · go_simp
                      refine hK _ _ ?_
                      clear hK K
                      refine wpAnyIn_ready (rs := [6]) (by kernel_rfl) (by simp) ?_
                      refine AllReadyIn.cons rfl (fun K hK => ?_) ?_
                      · go_simp
                        refine hK _ _ ?_
                        clear hK K
                        refine wpAnyIn_done (by kernel_rfl) ?_ _
                        exact HFIN1.out _ _ _ _ T4 HKP.out hgrow hown' { tmps := #[], defers := [] }
                      exact AllReadyIn.nil
                    exact AllReadyIn.nil
                  exact AllReadyIn.nil
                exact AllReadyIn.nil
              exact AllReadyIn.nil
            exact AllReadyIn.nil
          refine AllReadyIn.cons rfl (fun K hK => ?_) ?_
          · go_simp
            refine hK _ _ ?_
            clear hK K
            refine wpAnyIn_ready (rs := [0, 1]) (by kernel_rfl) (by simp) ?_
            refine AllReadyIn.cons rfl (fun K hK => ?_) ?_
            · go_simp
              refine hK _ _ ?_
              clear hK K
              refine wpAnyIn_ready (rs := [1]) (by kernel_rfl) (by simp) ?_
              refine AllReadyIn.cons rfl (fun K hK => ?_) ?_
              · go_simp
                refine hK _ _ ?_
                clear hK K
                refine wpAnyIn_ready (rs := [2]) (by kernel_rfl) (by simp) ?_
                refine AllReadyIn.cons rfl (fun K hK => ?_) ?_
                · go_simp
                  refine hK _ _ ?_
                  clear hK K
                  refine wpAnyIn_ready (rs := [3]) (by kernel_rfl) (by simp) ?_
                  refine AllReadyIn.cons rfl (fun K hK => ?_) ?_
                  · refine stepIn_append_own rfl _ _ 60 rfl w1.heap.size 91 i0 (.agg #[.bool false, .bool false, .string .empty]) 3 24 Tryz.underlying60 hi hz0 hz1 hz2 rfl (by decide) _ _ _ rfl (T4.hr.alloc _) ⟨W4.heap.size, 0, none⟩ 1 1 (rowT t) rfl rfl (cell_three_new _ _ _ _ _) (rowT_one _) (by unfold maxLen; omega) (by omega) (by simp; omega) ?_
                    intro v' w3 hown' hgrow _
                    obtain ⟨g', cap', rfl⟩ := ownsRow_succ hown'
                    obtain ⟨h1, h2, h3, h4, h5, h6, h7, h8, h9, h10, h11, h12, h13, h14⟩ := T4.cells hB3 hX hne _ _ hgrow
                    refine hK _ _ ?_
                    clear hK K
                    refine wpAnyIn_ready (rs := [5]) (by kernel_rfl) (by simp) ?_
                    refine AllReadyIn.cons rfl (fun K hK => ?_) ?_
                    · go_simp
                      refine hK _ _ ?_
                      clear hK K
                      refine wpAnyIn_ready (rs := [6]) (by kernel_rfl) (by simp) ?_
                      refine AllReadyIn.cons rfl (fun K hK => ?_) ?_
                      · go_simp
                        refine hK _ _ ?_
                        clear hK K
                        refine wpAnyIn_done (by kernel_rfl) ?_ _
                        exact HFIN1.out _ _ _ _ T4 HKP.out hgrow hown' { tmps := #[], defers := [] }
                      exact AllReadyIn.nil
                    exact AllReadyIn.nil
                  exact AllReadyIn.nil
                exact AllReadyIn.nil
              exact AllReadyIn.nil
            refine AllReadyIn.cons rfl (fun K hK => ?_) ?_
            · go_simp
              refine hK _ _ ?_
              clear hK K
              refine wpAnyIn_ready (rs := [0, 2]) (by kernel_rfl) (by simp) ?_
              refine AllReadyIn.cons rfl (fun K hK => ?_) ?_
              · go_simp
                refine hK _ _ ?_
                clear hK K
                refine wpAnyIn_ready (rs := [2]) (by kernel_rfl) (by simp) ?_
                refine AllReadyIn.cons rfl (fun K hK => ?_) ?_
                · go_simp
                  refine hK _ _ ?_
                  clear hK K
                  refine wpAnyIn_ready (rs := [3]) (by kernel_rfl) (by simp) ?_
                  refine AllReadyIn.cons rfl (fun K hK => ?_) ?_
                  · refine stepIn_append_own rfl _ _ 60 rfl w1.heap.size 91 i0 (.agg #[.bool false, .bool false, .string .empty]) 3 24 Tryz.underlying60 hi hz0 hz1 hz2 rfl (by decide) _ _ _ rfl (T4.hr.alloc _) ⟨W4.heap.size, 0, none⟩ 1 1 (rowT t) rfl rfl (cell_three_new _ _ _ _ _) (rowT_one _) (by unfold maxLen; omega) (by omega) (by simp; omega) ?_
                    intro v' w3 hown' hgrow _
                    obtain ⟨g', cap', rfl⟩ := ownsRow_succ hown'
                    obtain ⟨h1, h2, h3, h4, h5, h6, h7, h8, h9, h10, h11, h12, h13, h14⟩ := T4.cells hB3 hX hne _ _ hgrow
                    refine hK _ _ ?_
                    clear hK K
                    refine wpAnyIn_ready (rs := [5]) (by kernel_rfl) (by simp) ?_
                    refine AllReadyIn.cons rfl (fun K hK => ?_) ?_
                    · go_simp
                      refine hK _ _ ?_
                      clear hK K
                      refine wpAnyIn_ready (rs := [6]) (by kernel_rfl) (by simp) ?_
                      refine AllReadyIn.cons rfl (fun K hK => ?_) ?_
                      · go_simp
                        refine hK _ _ ?_
                        clear hK K
                        refine wpAnyIn_done (by kernel_rfl) ?_ _
                        exact HFIN1.out _ _ _ _ T4 HKP.out hgrow hown' { tmps := #[], defers := [] }
                      exact AllReadyIn.nil
                    exact AllReadyIn.nil
                  exact AllReadyIn.nil
                exact AllReadyIn.nil
              refine AllReadyIn.cons rfl (fun K hK => ?_) ?_
              · go_simp
                refine hK _ _ ?_
                clear hK K
                refine wpAnyIn_ready (rs := [0]) (by kernel_rfl) (by simp) ?_
                refine AllReadyIn.cons rfl (fun K hK => ?_) ?_
                · go_simp
                  refine hK _ _ ?_
                  clear hK K
                  refine wpAnyIn_ready (rs := [3]) (by kernel_rfl) (by simp) ?_
                  refine AllReadyIn.cons rfl (fun K hK => ?_) ?_
                  · refine stepIn_append_own rfl _ _ 60 rfl w1.heap.size 91 i0 (.agg #[.bool false, .bool false, .string .empty]) 3 24 Tryz.underlying60 hi hz0 hz1 hz2 rfl (by decide) _ _ _ rfl (T4.hr.alloc _) ⟨W4.heap.size, 0, none⟩ 1 1 (rowT t) rfl rfl (cell_three_new _ _ _ _ _) (rowT_one _) (by unfold maxLen; omega) (by omega) (by simp; omega) ?_
                    intro v' w3 hown' hgrow _
                    obtain ⟨g', cap', rfl⟩ := ownsRow_succ hown'
                    obtain ⟨h1, h2, h3, h4, h5, h6, h7, h8, h9, h10, h11, h12, h13, h14⟩ := T4.cells hB3 hX hne _ _ hgrow
                    refine hK _ _ ?_
                    clear hK K
                    refine wpAnyIn_ready (rs := [5]) (by kernel_rfl) (by simp) ?_
                    refine AllReadyIn.cons rfl (fun K hK => ?_) ?_
                    · go_simp
                      refine hK _ _ ?_
                      clear hK K
                      refine wpAnyIn_ready (rs := [6]) (by kernel_rfl) (by simp) ?_
                      refine AllReadyIn.cons rfl (fun K hK => ?_) ?_
                      · go_simp
                        refine hK _ _ ?_
                        clear hK K
                        refine wpAnyIn_done (by kernel_rfl) ?_ _
                        exact HFIN1.out _ _ _ _ T4 HKP.out hgrow hown' { tmps := #[], defers := [] }
                      exact AllReadyIn.nil
                    exact AllReadyIn.nil
                  exact AllReadyIn.nil
                exact AllReadyIn.nil
              exact AllReadyIn.nil
            exact AllReadyIn.nil
          exact AllReadyIn.nil
      · have HKP : Hid (keepL (pre ++ [(xi, t)]) = kp) := by show _ = _; rw [HK.out, HSK.out, hnu]; unfold looseB; rw [hqd]; rfl
        clear hnu
        gi_wp2
        refine ⟨trivial, (CallsIn.inRound lx (callsIn_wide.2 (NU.out _))).mono ?_⟩
        rintro e w2 ⟨rfl, b2⟩
        have T2 := T0.next hNW hX0 hbW b2
        obtain ⟨q0, q1⟩ := T2.qs
        rw [hqd] at q0
        gi_wp2
        exact HFIN0.out _ T2 HKP.out _
  case done =>
    rintro D ys W hD rfl ⟨⟨v, hv, hr, _⟩, hA, hB, hS⟩ hK
    have cV := hv.cell
    clear hACT g0 g1 g2 hrow1 hrow
    have hKA := keepL_all ts
    have hkl : (keepL (bwL ts)).length ≤ 1000000000000 := by
      have h1 := keepL_len (bwL ts)
      have h2 : (bwL ts).length = ts.length := bwN_len ts _
      omega
    have HTT : Hid (trimT ts = headL (keepL (bwL ts)).reverse) := by show _ = _; rw [hKA, List.reverse_reverse]; rfl
    clear hKA
    generalize keepL (bwL ts) = kp at *
    by_cases h0 : 0 < kp.length
    · obtain ⟨g, cap', sp, rfl, hg, hW⟩ := own_kw hr h0
      have hne : ((kp.length : Int) == 0) = false := by rw [beq_eq_false_iff_ne]; omega
      have RV := hide (fun w hd => Reverse_any W g cap' sp kp w hd h0 hkl)
      have hgN : g ≠ w.heap.size := by omega
      gi_wp2
      go_wp2_with fail
      refine (RV.out _ hW).mono ?_
      rintro e w4 ⟨rfl, h4⟩
      have cV4 : w4.cell? ⟨w.heap.size, 0, none⟩ = some (.slice (some ⟨g, 0, none⟩) kp.length cap') := (show Boxed w4 w.heap.size 60 (.slice (some ⟨g, 0, none⟩) kp.length cap') from (h4.turn.block _ hv.lt (Ne.symm hgN)).trans hv).cell
      obtain ⟨t, r, hrt⟩ : ∃ t r, kp.reverse = t :: r := by
        cases hk : kp.reverse with
        | nil => have := congrArg List.length hk; simp at this; rw [this] at h0; simp at h0
        | cons t r => exact ⟨t, r, rfl⟩
      rw [hrt] at h4
      have HRT := hide hrt
      clear hrt
      have hnl : (0 : Int) < (kp.length : Int) := by omega
      obtain ⟨p0, p1, p2⟩ := h4.seen 0 t rfl
      have z0 := h4.free 0
      simp only [Nat.zero_mul, Nat.zero_add] at p0 p1 p2
      have h5 := h4.undash
      have cV5 : (w4.setCell ⟨g, 0, none⟩ (.bool false)).cell? ⟨w.heap.size, 0, none⟩ = some (.slice (some ⟨g, 0, none⟩) kp.length cap') := (show Boxed (w4.setCell ⟨g, 0, none⟩ (.bool false)) w.heap.size 60 (.slice (some ⟨g, 0, none⟩) kp.length cap') from (Below.heap_setCell _ _ _ _ (Ne.symm hgN)).trans ((h4.turn.block _ hv.lt (Ne.symm hgN)).trans hv)).cell
      go_wp2_with fail
      clear cV5 cV4 p0 p1 p2 z0
      generalize w4.setCell ⟨g, 0, none⟩ (.bool false) = w5 at *
      have hlD : D < W.heap.size := (Array.getElem?_eq_some_iff.1 hK).1
      have hDg : D ≠ g := fun e => by subst e; rw [hW.cells] at hK; cases hK
      refine fin29 _ [D] w5 w.heap.size _ rfl (by simp) (by intro E hE; rw [List.mem_singleton.1 hE]; exact ⟨by omega, (h5.turn.block D hlD hDg).trans hK⟩) ?_
      intro W' hp
      refine ⟨_, rfl, ?_, (hB.trans (h5.turn.below (by omega) hB.size)).trans hp.1⟩
      rw [HTT.out, HRT.out]
      have hlen : kp.length = (headL (t :: r)).length := by rw [← List.length_reverse, HRT.out]; rfl
      rw [hlen]
      exact ⟨g, cap', sp, rfl, by omega, hp.2 _ _ h5.cells rfl⟩
    · obtain rfl : kp = [] := List.length_eq_zero_iff.1 (by omega)
      obtain ⟨ao, cv, rfl⟩ : ∃ ao cv, v = .slice ao 0 cv := by
        rcases hr.2 with ⟨rfl, h0⟩ | ⟨g, cap, _, rfl, _⟩
        · exact ⟨none, 0, rfl⟩
        · exact ⟨_, cap, rfl⟩
      gi_wp2
      go_wp2_with fail
      have e9 := World.alloc_heap_new W (.cells #[.bool false, .bool true, .string ⟨#[48]⟩] 91)
      have hlD : D < W.heap.size := (Array.getElem?_eq_some_iff.1 hK).1
      refine fin29 _ [D] (W.alloc (.cells #[.bool false, .bool true, .string ⟨#[48]⟩] 91)) w.heap.size _ rfl (by simp) (by intro E hE; rw [List.mem_singleton.1 hE]; exact ⟨by omega, (Below.heap_alloc _ _ _ hlD).trans hK⟩) ?_
      intro W' hp
      refine ⟨_, rfl, ?_, (hB.alloc hB.size _).trans hp.1⟩
      rw [HTT.out]
      have k := hp.2 _ _ e9 rfl
      exact ⟨W.heap.size, 1, [], rfl, hB.size, k⟩
  case stop =>
    rintro D c ys W _ _ h _
    exact h.elim

end Go.Proofs.YtpedljmpobhimaaGreatDoor
