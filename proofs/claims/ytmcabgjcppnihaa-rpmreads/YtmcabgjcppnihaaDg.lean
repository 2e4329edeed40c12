/-
  Walks: the order of segments.
-/
import Derived.Test.YtmcabgjcppnihaaDf
namespace Go.Proofs.Ytmcabgjcppnihaa
open Go.RowKit Go.Shelf
set_option linter.unusedVariables false

attribute [local go_sem] Oper.semAt_some

set_option maxHeartbeats 400000 in
/-- The library's order of kinds. -/
theorem CompareK_any (x y : Int) (w : World) :
    Calls Try.prog 29 #[.int .i64 x, .int .i64 y] w fun e w' => e = .returned (.int .i64 (cmpI x y)) ∧ w' = w := by
  unfold cmpI
  by_cases h1 : x < y
  · go_enter Try.func29, Try.ntmps29
    go_wp2
    go_ret
    exact ⟨ret_i (by first | rfl | ((repeat' split) <;> omega)), rfl⟩
  · by_cases h2 : y < x
    · go_enter Try.func29, Try.ntmps29
      go_wp2
      go_ret
      exact ⟨ret_i (by first | rfl | ((repeat' split) <;> omega)), rfl⟩
    · go_enter Try.func29, Try.ntmps29
      go_wp2
      go_ret
      exact ⟨ret_i (by first | rfl | ((repeat' split) <;> omega)), rfl⟩

/-- Marks of loops over an iterator. -/
def marks (Ds : List Nat) : List Deferred := Ds.map fun D => { target := .collected D, args := #[] }
/-- Behind the marks: cells lie as they lay, and nothing old has turned. -/
def Past (n₀ : Nat) (W W' : World) : Prop := Below n₀ W W' ∧ ∀ (b : Nat) (o : Obj), W.heap[b]? = some o → o.isCells = true → W'.heap[b]? = some o
theorem Past.refl (n₀ : Nat) (W : World) : Past n₀ W W := ⟨Below.refl _ _, fun _ _ h _ => h⟩
theorem Past.trans {n₀ : Nat} {A B C : World} (h : Past n₀ A B) (k : Past n₀ B C) : Past n₀ A C := ⟨h.1.trans k.1, fun b o h1 h2 => k.2 b o (h.2 b o h1 h2) h2⟩
theorem Past.own {n₀ base : Nat} {e : TypeId} {size : Nat} {v : Value} {k : Nat} {xs : List Value} {W W' : World} (h : Past n₀ W W') (hr : W.ownsRow base e size v k xs) : W'.ownsRow base e size v k xs := by
  refine ⟨hr.1, ?_⟩
  rcases hr.2 with h2 | ⟨g, cap, cur, hv, hg, hh, r⟩
  · exact .inl h2
  · exact .inr ⟨g, cap, cur, hv, hg, h.2 g _ hh rfl, r⟩
theorem leaves_marks {fn : Func} {tmps : Array Value} {R : Ending → World → Prop} (n₀ : Nat) : ∀ (Ds : List Nat) (W : World), Ds.Nodup → (∀ D ∈ Ds, n₀ ≤ D ∧ W.heap[D]? = some (.deferred (some []))) →
    (∀ W', Past n₀ W W' → LeavesIn Fence.wide 5 Try.prog fn tmps R [] .returning W') → LeavesInM Fence.wide 5 Try.prog fn tmps R (marks Ds) .returning W
  | [], W, _, _, h => h W (Past.refl _ _)
  | D :: Ds, W, hnd, hD, h => by
    have hd := hD D List.mem_cons_self
    have hne : ∀ E ∈ Ds, E ≠ D := fun E hE e => by subst e; exact (List.nodup_cons.1 hnd).1 hE
    refine ⟨by simp, .inl ⟨_, _, rfl, run_takeDeferred hd.2, ?_⟩⟩
    refine leaves_marks n₀ Ds _ (List.nodup_cons.1 hnd).2 (fun E hE => ⟨(hD E (List.mem_cons_of_mem _ hE)).1, (World.putObj_heap_other (hne E hE)).trans (hD E (List.mem_cons_of_mem _ hE)).2⟩) ?_
    intro W' hW'
    refine h W' (Past.trans ⟨?_, ?_⟩ hW')
    · exact belowK_b (w := { W with heap := W.heap.take n₀ }) (n₀ := n₀) (by have := (Array.getElem?_eq_some_iff.1 hd.2).1; simp; omega) W D _ _ (by simp; omega) hd.2 rfl rfl
    · intro b o hb ho
      by_cases e : b = D
      · subst e; rw [hd.2] at hb; cases hb; cases ho
      · exact (World.putObj_heap_other e).trans hb

/-- What a round finds: the sign, two segments. -/
structure RW (N Bc : Nat) (B0 X Y : Nat) (w Wi W : World) (k1 : Int) (x2 : List UInt8) (k2 : Int) (y2 : List UInt8) (c : Int) : Prop where
  sg : W.heap[N]? = some (.cells #[.int .i64 c] 3 (0, 0))
  ex : W.heap[X]? = some (.cells #[.int .i64 k1, .string (ofL x2)] 49 (0, 0))
  ey : W.heap[Y]? = some (.cells #[.int .i64 k2, .string (ofL y2)] 49 (0, 0))
  kp : KeepsFrom B0 Wi W
  be : Below N w W
  on : One Bc Wi W
theorem RW.put {N Bc B0 X Y : Nat} {w Wi W : World} {k1 k2 : Int} {x2 y2 : List UInt8} {c : Int} (h : RW N Bc B0 X Y w Wi W k1 x2 k2 y2 c) (hX : N < X) (hY : N < Y) (hB : N < Bc) (d : Int) : RW N Bc B0 X Y w Wi (W.setCell ⟨N, 0, none⟩ (.int .i64 d)) k1 x2 k2 y2 d :=
  ⟨set_lies 0 _ h.sg, (Below.heap_setCell _ _ _ _ (by simp only; omega)).trans h.ex, (Below.heap_setCell _ _ _ _ (by simp only; omega)).trans h.ey, h.kp.trans ((KeepsOthers.setCell _ _ _).from _), h.be.setCell (p := ⟨N, 0, none⟩) (Nat.le_refl _) _, h.on.trans (Below.heap_setCell _ _ _ _ (by simp only; omega))⟩
theorem RW.cells {N Bc B0 X Y : Nat} {w Wi W : World} {k1 k2 : Int} {x2 y2 : List UInt8} {c : Int} (h : RW N Bc B0 X Y w Wi W k1 x2 k2 y2 c) :
    W.cell? ⟨N, 0, none⟩ = some (.int .i64 c) ∧ W.cell? ⟨X, 0, none⟩ = some (.int .i64 k1) ∧ W.cell? ⟨X, 1, none⟩ = some (.string (ofL x2)) ∧ W.cell? ⟨Y, 0, none⟩ = some (.int .i64 k2) ∧ W.cell? ⟨Y, 1, none⟩ = some (.string (ofL y2)) ∧ W.frozen? ⟨N, 0, none⟩ = false :=
  ⟨cell_at 0 h.sg rfl, cell_at 0 h.ex rfl, cell_at 1 h.ex rfl, cell_at 0 h.ey rfl, cell_at 1 h.ey rfl, one_free 0 h.sg⟩
theorem RW.start {N Bc B0 : Nat} {w Wi : World} (k1 : Int) (x2 : List UInt8) (k2 : Int) (y2 : List UInt8) (hs : Wi.heap[N]? = some (.cells #[.int .i64 0] 3 (0, 0))) (hb : Below N w Wi) (hc : Bc < Wi.heap.size) :
    RW N Bc B0 Wi.heap.size (Wi.heap.size + 1) w Wi ((Wi.alloc (.cells #[.int .i64 k1, .string (ofL x2)] 49)).alloc (.cells #[.int .i64 k2, .string (ofL y2)] 49)) k1 x2 k2 y2 0 := by
  have hlt := (Array.getElem?_eq_some_iff.1 hs).1
  refine ⟨?_, ?_, ?_, (((KeepsOthers.alloc _ _).trans (KeepsOthers.alloc _ _)).from _), (hb.alloc (by omega) _).alloc (by simp; omega) _, ?_⟩
  · rw [Below.heap_alloc _ _ _ (by simp; omega), Below.heap_alloc _ _ _ hlt]; exact hs
  · rw [Below.heap_alloc _ _ _ (by simp)]
    exact World.alloc_heap_new Wi _
  · have := World.alloc_heap_new (Wi.alloc (.cells #[.int .i64 k1, .string (ofL x2)] 49)) (.cells #[.int .i64 k2, .string (ofL y2)] 49)
    rwa [World.size_alloc] at this
  · exact (Below.heap_alloc _ _ _ (by simp; omega)).trans (Below.heap_alloc _ _ _ hc)
/-- One block lies so. -/
def At (W : World) (B : Nat) (o : Obj) : Prop := W.heap[B]? = some o
theorem at_own {β : Type} (B0 B : Nat) (o : Obj) (h : B < B0) : OwnFrom B0 (fun (_ : β) W => At W B o) := by
  rintro s X Y row hv hg hrow
  exact (hg.block B (Array.getElem?_eq_some_iff.1 hv).1 (fun e => by have := (hrow B e.symm).1; omega)).trans hv
theorem atc_own {β : Type} (B0 B : Nat) (cs : Array Value) (t : TypeId) (m : Nat × Nat) : OwnFrom B0 (fun (_ : β) W => At W B (.cells cs t m)) := by
  rintro s X Y row hv hg hrow
  refine (hg.block B (Array.getElem?_eq_some_iff.1 hv).1 (fun e => ?_)).trans hv
  obtain ⟨_, o, ho, hc⟩ := hrow B e.symm
  rw [show X.heap[B]? = _ from hv] at ho
  cases ho
  cases hc
theorem fin10 {R : Ending → World → Prop} (tmps : Array Value) (Ds : List Nat) (W : World) (n₀ : Nat) (v : Value) (h1 : tmps.getD 4 undef = v)
    (hnd : Ds.Nodup) (hD : ∀ D ∈ Ds, n₀ ≤ D ∧ W.heap[D]? = some (.deferred (some []))) (hR : ∀ W', Past n₀ W W' → R (.returned v) W') :
    bodyPostM Fence.wide 5 Try.prog Try.f10 R .ret { tmps := tmps, defers := marks Ds } W := by
  show LeavesInM _ _ _ _ _ _ _ _ _
  refine leaves_marks n₀ Ds W hnd hD ?_
  intro W' hW'
  rw [Array.getD_eq_getD_getElem?] at h1
  refine ⟨_, ?_, hR W' hW'⟩
  simp [results, Try.results10, go_sem, h1]


set_option maxRecDepth 100000 in
set_option maxHeartbeats 4000000 in
theorem Segments_in (a b : ByteArray) (w : World) (ha : a.size ≤ 9223372036854775000) (hb : b.size ≤ 9223372036854775000) :
    CallsIn Fence.wide 5 Try.prog 10 #[.string a, .string b] w fun e w' => e = .returned (.int .i64 (partO a.data.toList b.data.toList)) ∧ Below w.heap.size w w' := by
  have HS := hide (signP_part _ a.data.toList b.data.toList (Nat.le_refl _))
  refine callsIn_of_wp_marks Try.func10 rfl trivial (wpIn_wide.2 ?_) rfl
  simp only [Try.ntmps10, List.size_toArray, List.length_cons, List.length_nil, Nat.reduceAdd, Nat.reduceSub, Array.replicate_succ, Array.replicate_zero, List.push_toArray, List.append_toArray, List.nil_append, List.cons_append]
  generalize partO a.data.toList b.data.toList = PO at *
  go_wp2_with fail
  go_step3
  go_wp2_with fail
  go_step3
  go_wp2_with fail
  refine (side_any a b _).mono ?_
  rintro e w1 ⟨rfl, hw1⟩
  have B3 : Below w.heap.size w w1 := by rw [hw1]; exact ((((Below.refl _ w).alloc (Nat.le_refl _) _).alloc (by simp) _).alloc (by simp; omega) _).alloc (by simp; omega) _
  have hz : w1.heap.size = w.heap.size + 1 + 1 + 1 + 1 := by rw [hw1]; simp
  have g0 : At w1 w.heap.size (.cells #[.int .i64 0] 3 (0, 0)) := by
    show w1.heap[w.heap.size]? = _
    rw [hw1]
    exact (Below.heap_alloc _ _ _ (by simp; omega)).trans ((Below.heap_alloc _ _ _ (by simp; omega)).trans ((Below.heap_alloc _ _ _ (by simp)).trans (World.alloc_heap_new w _)))
  have g1 : Boxed w1 (w.heap.size + 1) 9 (.string (ofL a.data.toList)) := by
    rw [hw1, ofL_self]
    have k := World.alloc_heap_new (w.alloc (.cells #[.int .i64 0] 3)) (.cells #[.string a] 9)
    rw [World.size_alloc] at k
    exact (Below.heap_alloc _ _ _ (by simp <;> omega)).trans ((Below.heap_alloc _ _ _ (by simp)).trans k)
  have g2 : Boxed w1 (w.heap.size + 1 + 1) 9 (.string (ofL b.data.toList)) := by
    rw [hw1, ofL_self]
    have k := World.alloc_heap_new ((w.alloc (.cells #[.int .i64 0] 3)).alloc (.cells #[.string a] 9)) (.cells #[.string b] 9)
    rw [World.size_alloc, World.size_alloc] at k
    exact (Below.heap_alloc _ _ _ (by simp)).trans k
  have g3 : Boxed w1 (w.heap.size + 1 + 1 + 1) 50 (.func (.func 28) #[] #[]) := by
    rw [hw1]
    have k := World.alloc_heap_new (((w.alloc (.cells #[.int .i64 0] 3)).alloc (.cells #[.string a] 9)).alloc (.cells #[.string b] 9)) (.cells #[.func (.func 28) #[] #[]] 50)
    rw [World.size_alloc, World.size_alloc, World.size_alloc] at k
    exact k
  clear hw1
  simp only [World.size_alloc]
  go_wp2_with fail
  refine (wpIn_wide (n := 5)).1 ?_
  obtain ⟨ACT, hACT⟩ : ∃ ACT : BP → Nat → Act, ACT = fun x X => { tmps := #[.string a, .string b, undef, undef, .int .i64 0, .pointer (some ⟨w.heap.size, 0, none⟩), .pointer (some ⟨X, 0, none⟩), .pointer (some ⟨X + 1, 0, none⟩), .string a, .string b, .func (.func 47) #[] #[.pointer (some ⟨w.heap.size + 1, 0, none⟩), .pointer (some ⟨w.heap.size + 1 + 1, 0, none⟩), .pointer (some ⟨w.heap.size + 1 + 1 + 1, 0, none⟩)], .agg #[.int .i64 (knL x.un.1), .string (ofL (txL x.un.1))], .agg #[.int .i64 (knL x.un.2), .string (ofL (txL x.un.2))], undef, undef, undef, undef, undef, undef, undef, undef, undef, undef, undef, undef, undef, undef, undef, undef, undef, undef, undef, undef, undef, undef, undef, undef, undef, undef, undef, undef], defers := [] } := ⟨_, rfl⟩
  refine wpIn_rangeFunc_ownH rfl (by omega) (gf := 47) (lb := #[.pointer (some ⟨w.heap.size + 1, 0, none⟩), .pointer (some ⟨w.heap.size + 1 + 1, 0, none⟩), .pointer (some ⟨w.heap.size + 1 + 1 + 1, 0, none⟩)]) rfl trivial (enters_of Try.func47 (by kernel_rfl) rfl)
    (side_stops 4 (by omega) (w.heap.size + 1) (w.heap.size + 1 + 1) (w.heap.size + 1 + 1 + 1) a.data.toList b.data.toList (by rw [len_data]; exact ha) (by rw [len_data]; exact hb) w1 g1 g2 g3) One.trans (one_b (by omega)) (Below.refl _ _) (fun _ => rfl)
    (fun pre W => At W w.heap.size (.cells #[.int .i64 0] 3 (0, 0)) ∧ (∀ p ∈ pre, rowO p.un.1 p.un.2 = 0) ∧ Below w.heap.size w W ∧ At W (w.heap.size + 1 + 1 + 1) (.cells #[.func (.func 28) #[] #[]] 50 (0, 0)))
    (fun cc ys W => cc = .exit 0 ∧ ∃ pre x, ys = pre ++ [x] ∧ (∀ p ∈ pre, rowO p.un.1 p.un.2 = 0) ∧ rowO x.un.1 x.un.2 ≠ 0 ∧ At W w.heap.size (.cells #[.int .i64 (rowO x.un.1 x.un.2)] 3 (0, 0)) ∧ Below w.heap.size w W)
    (fun pre X Y row h hg hr => ⟨at_own (β := Unit) w1.heap.size _ _ (by omega) () X Y row h.1 hg hr, h.2.1, (ownFrom_below (β := Unit) (Nat.le_refl _) (by omega)) () X Y row h.2.2.1 hg hr, at_own (β := Unit) w1.heap.size _ _ (by omega) () X Y row h.2.2.2 hg hr⟩)
    (fun cc ys X Y row h hg hr => by
      obtain ⟨hc, pre, x, e1, e2, e3, h4, h5⟩ := h
      exact ⟨hc, pre, x, e1, e2, e3, at_own (β := Unit) w1.heap.size _ _ (by omega) () X Y row h4 hg hr, (ownFrom_below (β := Unit) (Nat.le_refl _) (by omega)) () X Y row h5 hg hr⟩)
    ⟨g0, by simp, B3, g3⟩
    (fun x a' W => ∃ X, w.heap.size < X ∧ a' = ACT x X ∧ At W X (.cells #[.int .i64 (knL x.un.1), .string (ofL (txL x.un.1))] 49 (0, 0)) ∧ At W (X + 1) (.cells #[.int .i64 (knL x.un.2), .string (ofL (txL x.un.2))] 49 (0, 0)))
    (fun x a' u X Y row h hg hr => by
      obtain ⟨B, h1, h2, h3, h4⟩ := h
      exact ⟨B, h1, h2, atc_own (β := Unit) w1.heap.size _ _ _ _ () X Y row h3 hg hr, atc_own (β := Unit) w1.heap.size _ _ _ _ () X Y row h4 hg hr⟩) ?assign ?body ?done ?stop
  case assign =>
    rintro l pre x W K ⟨hS, hz0, hB, hC⟩ hK
    have hlt := (Array.getElem?_eq_some_iff.1 (show W.heap[w.heap.size]? = _ from hS)).1
    have hltC := (Array.getElem?_eq_some_iff.1 (show W.heap[w.heap.size + 1 + 1 + 1]? = _ from hC)).1
    simp only [segV]
    gi_wp2
    have rw0 := RW.start (Bc := w.heap.size + 1 + 1 + 1) (B0 := w1.heap.size) (knL x.un.1) (txL x.un.1) (knL x.un.2) (txL x.un.2) hS hB hltC
    refine hK _ _ rw0.kp rw0.on ⟨rw0.sg, hz0, rw0.be, Eq.trans rw0.on hC⟩ ⟨W.heap.size, hlt, ?_, rw0.ex, rw0.ey⟩
    rw [hACT]
  case body =>
    rintro lx pre x a' Wi _ _ ⟨hS, hz0, hB, hC⟩ ⟨X, hX, rfl, eX, eY⟩ hlen
    rw [hACT]
    clear hACT
    dsimp only
    have r0 : RW w.heap.size (w.heap.size + 1 + 1 + 1) w1.heap.size X (X + 1) w Wi Wi (knL x.un.1) (txL x.un.1) (knL x.un.2) (txL x.un.2) 0 := ⟨hS, eX, eY, KeepsFrom.refl _ _, hB, rfl⟩
    have hNX : w.heap.size < X := hX
    have hNY : w.heap.size < X + 1 := by omega
    have hNB : w.heap.size < w.heap.size + 1 + 1 + 1 := by omega
    have lx2 : (txL x.un.1).length ≤ 9223372036854775000 := Nat.le_trans (txL_le _) x.property.1
    have ly2 : (txL x.un.2).length ≤ 9223372036854775000 := Nat.le_trans (txL_le _) x.property.2
    have HRO : Hid (rowO x.un.1 x.un.2 = if knL x.un.1 = knL x.un.2 then (if knL x.un.1 = 4 then cmpD (txL x.un.1) (txL x.un.2) else Lib.compareBytes (txL x.un.1) (txL x.un.2)) else cmpI (knL x.un.1) (knL x.un.2)) := rfl
    generalize knL x.un.1 = k1 at *
    generalize knL x.un.2 = k2 at *
    generalize txL x.un.1 = x2 at *
    generalize txL x.un.2 = y2 at *
    have HCB := hide hC
    clear hS eX eY hB hC
    obtain ⟨c0, c1, c2, c3, c4, f0⟩ := r0.cells
    by_cases hk : k1 = k2
    · subst hk
      rw [if_pos rfl] at HRO
      by_cases hd : k1 = 4
      · subst hd
        rw [if_pos rfl] at HRO
        have CD := fun w => Cmp_any (ofL x2) (ofL y2) w (by rw [ofL_size]; omega) (by rw [ofL_size]; omega)
        rw [ofL_data, ofL_data] at CD
        generalize cmpD x2 y2 = c at *
        have CD := hide CD
        by_cases hc : c = 0
        · subst hc
          gi_wp2
          refine ⟨trivial, (CallsIn.inRound lx (callsIn_wide.2 (CD.out _))).mono ?_⟩
          rintro e w' ⟨rfl, hw'⟩
          rw [hw']
          clear hw' w'
          have rp := r0.put hNX hNY hNB 0
          gi_wp2
          refine ⟨rp.kp, rp.on, rp.sg, ?_, rp.be, Eq.trans rp.on HCB.out⟩
          intro p hp
          rcases List.mem_append.1 hp with hp | hp
          · exact hz0 p hp
          · rw [List.mem_singleton.1 hp]; exact HRO.out
        · have hcb : (c != 0) = true := by simpa using hc
          have HC := hide hc
          clear hc
          gi_wp2
          refine ⟨trivial, (CallsIn.inRound lx (callsIn_wide.2 (CD.out _))).mono ?_⟩
          rintro e w' ⟨rfl, hw'⟩
          rw [hw']
          clear hw' w'
          have rp := r0.put hNX hNY hNB c
          gi_wp2
          exact ⟨rp.kp, rfl, pre, x, rfl, hz0, by rw [HRO.out]; exact HC.out, by rw [HRO.out]; exact rp.sg, rp.be⟩
      · have hdb : (k1 == 4) = false := by simpa using hd
        rw [if_neg hd] at HRO
        clear hd
        have CD := fun w => StrCompare_any (ofL x2) (ofL y2) w
        rw [ofL_data, ofL_data] at CD
        generalize Lib.compareBytes x2 y2 = c at *
        have CD := hide CD
        by_cases hc : c = 0
        · subst hc
          gi_wp2
          refine ⟨trivial, (CallsIn.inRound lx (callsIn_wide.2 (CD.out _))).mono ?_⟩
          rintro e w' ⟨rfl, hw'⟩
          rw [hw']
          clear hw' w'
          have rp := r0.put hNX hNY hNB 0
          gi_wp2
          refine ⟨rp.kp, rp.on, rp.sg, ?_, rp.be, Eq.trans rp.on HCB.out⟩
          intro p hp
          rcases List.mem_append.1 hp with hp | hp
          · exact hz0 p hp
          · rw [List.mem_singleton.1 hp]; exact HRO.out
        · have hcb : (c != 0) = true := by simpa using hc
          have HC := hide hc
          clear hc
          gi_wp2
          refine ⟨trivial, (CallsIn.inRound lx (callsIn_wide.2 (CD.out _))).mono ?_⟩
          rintro e w' ⟨rfl, hw'⟩
          rw [hw']
          clear hw' w'
          have rp := r0.put hNX hNY hNB c
          gi_wp2
          exact ⟨rp.kp, rfl, pre, x, rfl, hz0, by rw [HRO.out]; exact HC.out, by rw [HRO.out]; exact rp.sg, rp.be⟩
    · have hkb : (k1 != k2) = true := by simpa using hk
      have hc : cmpI k1 k2 ≠ 0 := by unfold cmpI; (repeat' split) <;> omega
      rw [if_neg hk] at HRO
      clear hk
      have CD := hide (fun w => CompareK_any k1 k2 w)
      generalize cmpI k1 k2 = c at *
      have HC := hide hc
      clear hc
      gi_wp2
      refine ⟨trivial, (CallsIn.inRound lx (callsIn_wide.2 (CD.out _))).mono ?_⟩
      rintro e w' ⟨rfl, hw'⟩
      rw [hw']
      clear hw' w'
      have rp := r0.put hNX hNY hNB c
      gi_wp2
      exact ⟨rp.kp, rfl, pre, x, rfl, hz0, by rw [HRO.out]; exact HC.out, by rw [HRO.out]; exact rp.sg, rp.be⟩
  case done =>
    rintro D ys W hD hys ⟨hS, hz0, hB, hC⟩ hK
    have c0 := one_cell hS
    gi_wp2
    go_wp2_with fail
    rw [Exit.noGoto_ret]
    refine fin10 _ [D] W w.heap.size (.int .i64 0) rfl (by simp) (by intro E hE; rw [List.mem_singleton.1 hE]; exact ⟨by omega, hK⟩) ?_
    intro W' hp
    exact ⟨ret_i (by rw [← HS.out, ← hys]; exact (signP_zero _ (by intro p hp'; obtain ⟨q, hq, rfl⟩ := List.mem_map.1 hp'; exact hz0 q hq)).symm), hB.trans hp.1⟩
  case stop =>
    rintro D cc ys W hD hpre ⟨rfl, pre, x, rfl, hz0, hx, hS, hB⟩ hK
    have c0 := one_cell hS
    gi_wp2
    go_wp2_with fail
    rw [Exit.noGoto_ret]
    refine fin10 _ [D] W w.heap.size (.int .i64 (rowO x.un.1 x.un.2)) rfl (by simp) (by intro E hE; rw [List.mem_singleton.1 hE]; exact ⟨by omega, hK⟩) ?_
    intro W' hp
    refine ⟨ret_i ?_, hB.trans hp.1⟩
    obtain ⟨rest, hrest⟩ := hpre
    rw [← HS.out, ← hrest, List.map_append, List.append_assoc]
    exact (signP_at _ _ _ (by intro p hp'; obtain ⟨q, hq, rfl⟩ := List.mem_map.1 hp'; exact hz0 q hq) hx).symm

theorem Segments_any (a b : ByteArray) (w : World) (ha : a.size ≤ 9223372036854775000) (hb : b.size ≤ 9223372036854775000) :
    Calls Try.prog 10 #[.string a, .string b] w fun e w' => e = .returned (.int .i64 (partO a.data.toList b.data.toList)) ∧ Below w.heap.size w w' :=
  (callsIn_wide (n := 5)).1 (Segments_in a b w ha hb)

end Go.Proofs.Ytmcabgjcppnihaa
