/-
  Walks: the order of parts.
-/
import Derived.Test.YthojcidbhojlhaaDf
namespace Go.Proofs.Ythojcidbhojlhaa
open Go.RowKit Go.Shelf
set_option linter.unusedVariables false

attribute [local go_sem] Oper.semAt_some

/-! ### A region that draws its order, in a round of a loop over an iterator: as outside of one, where nothing is deferred -/

section
variable {F : Fence} {n l : Nat} {P : Program} {ops : Array Oper} {Q : Exit → Act → World → Prop} {md : Region.Mode}

theorem oper_round {o : Oper} (hro : F.round = none) (hd : ∀ c, o.op ≠ .defer c) {a : Act} {w : World} {K : Act → World → Prop} (h : Oper.wpIn F n P o a w K Q) : Oper.wpIn (F.inRound l) n P o a w K Q := by
  unfold Oper.wpIn at *
  refine ⟨h.1, ?_⟩
  have h2 := h.2
  rw [Oper.semAt_plain F _ _ hd] at h2
  rw [Oper.semAt_plain (F.inRound l) _ _ hd]
  exact h2

theorem wpOpIn_round (hro : F.round = none) (hd : ∀ (i : Nat) (o : Oper), ops[i]? = some o → ∀ c, o.op ≠ .defer c) {i : Nat} {K : Act → World → Prop} {a : Act} {w : World} (h : wpOpIn F n P ops Q i K a w) : wpOpIn (F.inRound l) n P ops Q i K a w := by
  unfold wpOpIn at *
  cases ho : ops[i]? with
  | none => simpa [ho] using h
  | some o =>
    simp only [ho] at h ⊢
    split
    · rename_i hw; simp only [hw, if_true] at h; exact oper_round hro (hd i o ho) h
    · rename_i hw; simp only [hw] at h; exact h

theorem wpAnyIn_round (hro : F.round = none) (hd : ∀ (i : Nat) (o : Oper), ops[i]? = some o → ∀ c, o.op ≠ .defer c) :
    ∀ (fuel : Nat) (listed : Array Bool) (a : Act) (w : World), wpAnyIn F n P md ops Q fuel listed a w → wpAnyIn (F.inRound l) n P md ops Q fuel listed a w
  | 0, _, _, _, h => h
  | fuel + 1, listed, a, w, h => ⟨h.1, fun i hi => wpOpIn_mono (fun a' w' h' => wpAnyIn_round hro hd fuel _ a' w' h') (wpOpIn_round hro hd (h.2 i hi))⟩
end

def noDefer : Op → Bool
  | .defer _ => false
  | _ => true
theorem noDefer_of {ops : Array Oper} (h : ops.all (fun o => noDefer o.op) = true) : ∀ (i : Nat) (o : Oper), ops[i]? = some o → ∀ c, o.op ≠ .defer c := by
  intro i o ho c hc
  obtain ⟨hi, he⟩ := Array.getElem?_eq_some_iff.1 ho
  have := Array.all_eq_true.1 h i hi
  rw [he, hc] at this
  cases this

/-- Marks of loops over an iterator. -/
def marks (Ds : List Nat) : List Deferred := Ds.map fun D => { target := .collected D, args := #[] }
/-- Behind the marks: cells lie as they lay, and nothing old has turned. -/
def Past (n₀ : Nat) (W W' : World) : Prop := Below n₀ W W' ∧ ∀ (b : Nat) (o : Obj), W.heap[b]? = some o → o.isCells = true → W'.heap[b]? = some o
theorem Past.refl (n₀ : Nat) (W : World) : Past n₀ W W := ⟨Below.refl _ _, fun _ _ h _ => h⟩
theorem Past.trans {n₀ : Nat} {A B C : World} (h : Past n₀ A B) (k : Past n₀ B C) : Past n₀ A C := ⟨h.1.trans k.1, fun b o h1 h2 => k.2 b o (h.2 b o h1 h2) h2⟩
theorem Past.own {n₀ base : Nat} {e : TypeId} {size : Nat} {v : Value} {k : Nat} {xs : List Value} {W W' : World} (h : Past n₀ W W') (hr : W.ownsRow base e size v k xs) : W'.ownsRow base e size v k xs := by
  refine ⟨hr.1, ?_⟩
  rcases hr.2 with h2 | ⟨g, cap, cur, hv, hg, hh, r⟩
  · exact .inl h2
  · exact .inr ⟨g, cap, cur, hv, hg, h.2 g _ hh rfl, r⟩
theorem leaves_marks {fn : Func} {tmps : Array Value} {R : Ending → World → Prop} (n₀ : Nat) : ∀ (Ds : List Nat) (W : World), Ds.Nodup → (∀ D ∈ Ds, n₀ ≤ D ∧ W.heap[D]? = some (.deferred (some []))) →
    (∀ W', Past n₀ W W' → LeavesIn Fence.wide 5 Try.prog fn tmps R [] .returning W') → LeavesInM Fence.wide 5 Try.prog fn tmps R (marks Ds) .returning W
  | [], W, _, _, h => h W (Past.refl _ _)
  | D :: Ds, W, hnd, hD, h => by
    have hd := hD D List.mem_cons_self
    have hne : ∀ E ∈ Ds, E ≠ D := fun E hE e => by subst e; exact (List.nodup_cons.1 hnd).1 hE
    refine ⟨by simp, .inl ⟨_, _, rfl, run_takeDeferred hd.2, ?_⟩⟩
    refine leaves_marks n₀ Ds _ (List.nodup_cons.1 hnd).2 (fun E hE => ⟨(hD E (List.mem_cons_of_mem _ hE)).1, (World.putObj_heap_other (hne E hE)).trans (hD E (List.mem_cons_of_mem _ hE)).2⟩) ?_
    intro W' hW'
    refine h W' (Past.trans ⟨?_, ?_⟩ hW')
    · exact belowK_b (w := { W with heap := W.heap.take n₀ }) (n₀ := n₀) (by have := (Array.getElem?_eq_some_iff.1 hd.2).1; simp; omega) W D _ _ (by simp; omega) hd.2 rfl rfl
    · intro b o hb ho
      by_cases e : b = D
      · subst e; rw [hd.2] at hb; cases hb; cases ho
      · exact (World.putObj_heap_other e).trans hb

/-- What the loop within a round finds: the sign, two rows. -/
structure RW (N Bc : Nat) (B0 X Y : Nat) (w Wi W : World) (x1 x2 y1 y2 : List UInt8) (c : Int) : Prop where
  sg : W.heap[N]? = some (.cells #[.int .i64 c] 3 (0, 0))
  ex : W.heap[X]? = some (.cells #[.string (ofL x1), .string (ofL x2)] 57 (0, 0))
  ey : W.heap[Y]? = some (.cells #[.string (ofL y1), .string (ofL y2)] 57 (0, 0))
  kp : KeepsFrom B0 Wi W
  be : Below N w W
  on : One Bc Wi W
theorem RW.drew {N Bc B0 X Y : Nat} {w Wi W : World} {x1 x2 y1 y2 : List UInt8} {c : Int} (h : RW N Bc B0 X Y w Wi W x1 x2 y1 y2 c) : RW N Bc B0 X Y w Wi W.drew x1 x2 y1 y2 c :=
  ⟨h.sg, h.ex, h.ey, h.kp.trans ((KeepsOthers.drew W).from _), h.be.drew, h.on⟩
theorem RW.put {N Bc B0 X Y : Nat} {w Wi W : World} {x1 x2 y1 y2 : List UInt8} {c : Int} (h : RW N Bc B0 X Y w Wi W x1 x2 y1 y2 c) (hX : N < X) (hY : N < Y) (hB : N < Bc) (d : Int) : RW N Bc B0 X Y w Wi (W.setCell ⟨N, 0, none⟩ (.int .i64 d)) x1 x2 y1 y2 d :=
  ⟨set_lies 0 _ h.sg, (Below.heap_setCell _ _ _ _ (by simp only; omega)).trans h.ex, (Below.heap_setCell _ _ _ _ (by simp only; omega)).trans h.ey, h.kp.trans ((KeepsOthers.setCell _ _ _).from _), h.be.setCell (p := ⟨N, 0, none⟩) (Nat.le_refl _) _, h.on.trans (Below.heap_setCell _ _ _ _ (by simp only; omega))⟩
theorem RW.cells {N Bc B0 X Y : Nat} {w Wi W : World} {x1 x2 y1 y2 : List UInt8} {c : Int} (h : RW N Bc B0 X Y w Wi W x1 x2 y1 y2 c) :
    W.cell? ⟨N, 0, none⟩ = some (.int .i64 c) ∧ W.cell? ⟨X, 0, none⟩ = some (.string (ofL x1)) ∧ W.cell? ⟨X, 1, none⟩ = some (.string (ofL x2)) ∧ W.cell? ⟨Y, 0, none⟩ = some (.string (ofL y1)) ∧ W.cell? ⟨Y, 1, none⟩ = some (.string (ofL y2)) ∧ W.frozen? ⟨N, 0, none⟩ = false :=
  ⟨cell_at 0 h.sg rfl, cell_at 0 h.ex rfl, cell_at 1 h.ex rfl, cell_at 0 h.ey rfl, cell_at 1 h.ey rfl, one_free 0 h.sg⟩
theorem RW.start {N Bc B0 : Nat} {w Wi : World} (x1 x2 y1 y2 : List UInt8) (hs : Wi.heap[N]? = some (.cells #[.int .i64 0] 3 (0, 0))) (hb : Below N w Wi) (hc : Bc < Wi.heap.size) :
    RW N Bc B0 Wi.heap.size (Wi.heap.size + 1) w Wi ((Wi.alloc (.cells #[.string (ofL x1), .string (ofL x2)] 57)).alloc (.cells #[.string (ofL y1), .string (ofL y2)] 57)) x1 x2 y1 y2 0 := by
  have hlt := (Array.getElem?_eq_some_iff.1 hs).1
  refine ⟨?_, ?_, ?_, (((KeepsOthers.alloc _ _).trans (KeepsOthers.alloc _ _)).from _), (hb.alloc (by omega) _).alloc (by simp; omega) _, ?_⟩
  · rw [Below.heap_alloc _ _ _ (by simp; omega), Below.heap_alloc _ _ _ hlt]; exact hs
  · rw [Below.heap_alloc _ _ _ (by simp)]
    exact World.alloc_heap_new Wi _
  · have := World.alloc_heap_new (Wi.alloc (.cells #[.string (ofL x1), .string (ofL x2)] 57)) (.cells #[.string (ofL y1), .string (ofL y2)] 57)
    rwa [World.size_alloc] at this
  · exact (Below.heap_alloc _ _ _ (by simp; omega)).trans (Below.heap_alloc _ _ _ hc)
/-- One block lies so. -/
def At (W : World) (B : Nat) (o : Obj) : Prop := W.heap[B]? = some o
theorem at_own {β : Type} (B0 B : Nat) (o : Obj) (h : B < B0) : OwnFrom B0 (fun (_ : β) W => At W B o) := by
  rintro s X Y row hv hg hrow
  exact (hg.block B (Array.getElem?_eq_some_iff.1 hv).1 (fun e => by have := (hrow B e.symm).1; omega)).trans hv
theorem atc_own {β : Type} (B0 B : Nat) (cs : Array Value) (t : TypeId) (m : Nat × Nat) : OwnFrom B0 (fun (_ : β) W => At W B (.cells cs t m)) := by
  rintro s X Y row hv hg hrow
  refine (hg.block B (Array.getElem?_eq_some_iff.1 hv).1 (fun e => ?_)).trans hv
  obtain ⟨_, o, ho, hc⟩ := hrow B e.symm
  rw [show X.heap[B]? = _ from hv] at ho
  cases ho
  cases hc
theorem fin16 {R : Ending → World → Prop} (tmps : Array Value) (Ds : List Nat) (W : World) (n₀ : Nat) (v : Value) (h1 : tmps.getD 4 undef = v)
    (hnd : Ds.Nodup) (hD : ∀ D ∈ Ds, n₀ ≤ D ∧ W.heap[D]? = some (.deferred (some []))) (hR : ∀ W', Past n₀ W W' → R (.returned v) W') :
    bodyPostM Fence.wide 5 Try.prog Try.f16 R .ret { tmps := tmps, defers := marks Ds } W := by
  show LeavesInM _ _ _ _ _ _ _ _ _
  refine leaves_marks n₀ Ds W hnd hD ?_
  intro W' hW'
  rw [Array.getD_eq_getD_getElem?] at h1
  refine ⟨_, ?_, hR W' hW'⟩
  simp [results, Try.results16, go_sem, h1]


set_option maxRecDepth 100000 in
set_option maxHeartbeats 4000000 in
theorem Part_in (a b : ByteArray) (w : World) (ha : a.size ≤ 9223372036854775000) (hb : b.size ≤ 9223372036854775000) :
    CallsIn Fence.wide 5 Try.prog 16 #[.string a, .string b] w fun e w' => e = .returned (.int .i64 (partO a.data.toList b.data.toList)) ∧ Below w.heap.size w w' := by
  have HS := hide (signP_part _ a.data.toList b.data.toList (Nat.le_refl _))
  refine callsIn_of_wp_marks Try.func16 rfl trivial (wpIn_wide.2 ?_) rfl
  simp only [Try.ntmps16, List.size_toArray, List.length_cons, List.length_nil, Nat.reduceAdd, Nat.reduceSub, Array.replicate_succ, Array.replicate_zero, List.push_toArray, List.append_toArray, List.nil_append, List.cons_append]
  generalize partO a.data.toList b.data.toList = PO at *
  go_wp2_with fail
  go_step3
  go_wp2_with fail
  go_step3
  go_wp2_with fail
  refine (side_any a b _).mono ?_
  rintro e w1 ⟨rfl, hw1⟩
  have B3 : Below w.heap.size w w1 := by rw [hw1]; exact ((((Below.refl _ w).alloc (Nat.le_refl _) _).alloc (by simp) _).alloc (by simp; omega) _).alloc (by simp; omega) _
  have hz : w1.heap.size = w.heap.size + 1 + 1 + 1 + 1 := by rw [hw1]; simp
  have g0 : At w1 w.heap.size (.cells #[.int .i64 0] 3 (0, 0)) := by
    show w1.heap[w.heap.size]? = _
    rw [hw1]
    exact (Below.heap_alloc _ _ _ (by simp; omega)).trans ((Below.heap_alloc _ _ _ (by simp; omega)).trans ((Below.heap_alloc _ _ _ (by simp)).trans (World.alloc_heap_new w _)))
  have g1 : Boxed w1 (w.heap.size + 1) 9 (.string (ofL a.data.toList)) := by
    rw [hw1, ofL_self]
    have k := World.alloc_heap_new (w.alloc (.cells #[.int .i64 0] 3)) (.cells #[.string a] 9)
    rw [World.size_alloc] at k
    exact (Below.heap_alloc _ _ _ (by simp <;> omega)).trans ((Below.heap_alloc _ _ _ (by simp)).trans k)
  have g2 : Boxed w1 (w.heap.size + 1 + 1) 9 (.string (ofL b.data.toList)) := by
    rw [hw1, ofL_self]
    have k := World.alloc_heap_new ((w.alloc (.cells #[.int .i64 0] 3)).alloc (.cells #[.string a] 9)) (.cells #[.string b] 9)
    rw [World.size_alloc, World.size_alloc] at k
    exact (Below.heap_alloc _ _ _ (by simp)).trans k
  have g3 : Boxed w1 (w.heap.size + 1 + 1 + 1) 58 (.func (.func 40) #[] #[]) := by
    rw [hw1]
    have k := World.alloc_heap_new (((w.alloc (.cells #[.int .i64 0] 3)).alloc (.cells #[.string a] 9)).alloc (.cells #[.string b] 9)) (.cells #[.func (.func 40) #[] #[]] 58)
    rw [World.size_alloc, World.size_alloc, World.size_alloc] at k
    exact k
  clear hw1
  simp only [World.size_alloc]
  go_wp2_with fail
  refine (wpIn_wide (n := 5)).1 ?_
  obtain ⟨ACT, hACT⟩ : ∃ ACT : BP → Nat → Act, ACT = fun x X => { tmps := #[.string a, .string b, undef, undef, .int .i64 0, .pointer (some ⟨w.heap.size, 0, none⟩), .pointer (some ⟨X, 0, none⟩), .pointer (some ⟨X + 1, 0, none⟩), undef, .string a, .string b, .func (.func 56) #[] #[.pointer (some ⟨w.heap.size + 1, 0, none⟩), .pointer (some ⟨w.heap.size + 1 + 1, 0, none⟩), .pointer (some ⟨w.heap.size + 1 + 1 + 1, 0, none⟩)], .agg #[.string (ofL (wordL x.un.1)), .string (ofL (digsL x.un.1))], .agg #[.string (ofL (wordL x.un.2)), .string (ofL (digsL x.un.2))], undef, undef, undef, undef, undef, undef, undef, undef, undef, undef, undef, undef, undef, undef, undef, undef, undef, undef, undef, undef, undef, undef, undef, undef, undef, undef, undef, undef, undef, undef], defers := [] } := ⟨_, rfl⟩
  refine wpIn_rangeFunc_ownH rfl (by omega) (gf := 56) (lb := #[.pointer (some ⟨w.heap.size + 1, 0, none⟩), .pointer (some ⟨w.heap.size + 1 + 1, 0, none⟩), .pointer (some ⟨w.heap.size + 1 + 1 + 1, 0, none⟩)]) rfl trivial (enters_of Try.func56 (by kernel_rfl) rfl)
    (side_stops 4 (by omega) (w.heap.size + 1) (w.heap.size + 1 + 1) (w.heap.size + 1 + 1 + 1) a.data.toList b.data.toList (by rw [len_data]; exact ha) (by rw [len_data]; exact hb) w1 g1 g2 g3) One.trans (one_b (by omega)) (Below.refl _ _) (fun _ => rfl)
    (fun pre W => At W w.heap.size (.cells #[.int .i64 0] 3 (0, 0)) ∧ (∀ p ∈ pre, rowO p.un.1 p.un.2 = 0) ∧ Below w.heap.size w W ∧ At W (w.heap.size + 1 + 1 + 1) (.cells #[.func (.func 40) #[] #[]] 58 (0, 0)))
    (fun cc ys W => cc = .exit 0 ∧ ∃ pre x, ys = pre ++ [x] ∧ (∀ p ∈ pre, rowO p.un.1 p.un.2 = 0) ∧ rowO x.un.1 x.un.2 ≠ 0 ∧ At W w.heap.size (.cells #[.int .i64 (rowO x.un.1 x.un.2)] 3 (0, 0)) ∧ Below w.heap.size w W)
    (fun pre X Y row h hg hr => ⟨at_own (β := Unit) w1.heap.size _ _ (by omega) () X Y row h.1 hg hr, h.2.1, (ownFrom_below (β := Unit) (Nat.le_refl _) (by omega)) () X Y row h.2.2.1 hg hr, at_own (β := Unit) w1.heap.size _ _ (by omega) () X Y row h.2.2.2 hg hr⟩)
    (fun cc ys X Y row h hg hr => by
      obtain ⟨hc, pre, x, e1, e2, e3, h4, h5⟩ := h
      exact ⟨hc, pre, x, e1, e2, e3, at_own (β := Unit) w1.heap.size _ _ (by omega) () X Y row h4 hg hr, (ownFrom_below (β := Unit) (Nat.le_refl _) (by omega)) () X Y row h5 hg hr⟩)
    ⟨g0, by simp, B3, g3⟩
    (fun x a' W => ∃ X, w.heap.size < X ∧ a' = ACT x X ∧ At W X (.cells #[.string (ofL (wordL x.un.1)), .string (ofL (digsL x.un.1))] 57 (0, 0)) ∧ At W (X + 1) (.cells #[.string (ofL (wordL x.un.2)), .string (ofL (digsL x.un.2))] 57 (0, 0)))
    (fun x a' u X Y row h hg hr => by
      obtain ⟨B, h1, h2, h3, h4⟩ := h
      exact ⟨B, h1, h2, atc_own (β := Unit) w1.heap.size _ _ _ _ () X Y row h3 hg hr, atc_own (β := Unit) w1.heap.size _ _ _ _ () X Y row h4 hg hr⟩) ?assign ?body ?done ?stop
  case assign =>
    rintro l pre x W K ⟨hS, hz0, hB, hC⟩ hK
    have hlt := (Array.getElem?_eq_some_iff.1 (show W.heap[w.heap.size]? = _ from hS)).1
    have hltC := (Array.getElem?_eq_some_iff.1 (show W.heap[w.heap.size + 1 + 1 + 1]? = _ from hC)).1
    simp only [rowV]
    gi_wp2
    have rw0 := RW.start (Bc := w.heap.size + 1 + 1 + 1) (B0 := w1.heap.size) (wordL x.un.1) (digsL x.un.1) (wordL x.un.2) (digsL x.un.2) hS hB hltC
    refine hK _ _ rw0.kp rw0.on ⟨rw0.sg, hz0, rw0.be, Eq.trans rw0.on hC⟩ ⟨W.heap.size, hlt, ?_, rw0.ex, rw0.ey⟩
    rw [hACT]
  case body =>
    rintro lx pre x a' Wi _ _ ⟨hS, hz0, hB, hC⟩ ⟨X, hX, rfl, eX, eY⟩ hlen
    rw [hACT]
    clear hACT
    dsimp only
    have r0 : RW w.heap.size (w.heap.size + 1 + 1 + 1) w1.heap.size X (X + 1) w Wi Wi (wordL x.un.1) (digsL x.un.1) (wordL x.un.2) (digsL x.un.2) 0 := ⟨hS, eX, eY, KeepsFrom.refl _ _, hB, rfl⟩
    have hNX : w.heap.size < X := hX
    have hNY : w.heap.size < X + 1 := by omega
    have hNB : w.heap.size < w.heap.size + 1 + 1 + 1 := by omega
    have HCB := hide hC
    have lx1 : (wordL x.un.1).length ≤ 9223372036854775000 := Nat.le_trans (wordL_le _) x.property.1
    have ly1 : (wordL x.un.2).length ≤ 9223372036854775000 := Nat.le_trans (wordL_le _) x.property.2
    have lx2 : (digsL x.un.1).length ≤ 9223372036854775000 := Nat.le_trans (by unfold digsL; rw [List.length_take, List.length_drop]; exact Nat.le_trans (Nat.min_le_right _ _) (Nat.sub_le _ _)) x.property.1
    have ly2 : (digsL x.un.2).length ≤ 9223372036854775000 := Nat.le_trans (by unfold digsL; rw [List.length_take, List.length_drop]; exact Nat.le_trans (Nat.min_le_right _ _) (Nat.sub_le _ _)) x.property.2
    have HRO : Hid (rowO x.un.1 x.un.2 = if wordO (wordL x.un.1) (wordL x.un.2) = 0 then cmpD (digsL x.un.1) (digsL x.un.2) else wordO (wordL x.un.1) (wordL x.un.2)) := rfl
    generalize wordL x.un.1 = x1 at *
    generalize wordL x.un.2 = y1 at *
    generalize digsL x.un.1 = x2 at *
    generalize digsL x.un.2 = y2 at *
    have sx1 := ofL_size x1
    have sy1 := ofL_size y1
    clear hS eX eY hB hC
    obtain ⟨c0, c1, c2, c3, c4, f0⟩ := r0.cells
    by_cases hm : x1.length < y1.length
    · have hm' : (x1.length : Int) < (y1.length : Int) := by omega
      gi_wp2
      clear c0 c1 c2 c3 c4 f0
      gi_loopw [21] (fun i wr => ∃ k : Nat, k ≤ y1.length ∧ i = .int .i64 k ∧ RW w.heap.size (w.heap.size + 1 + 1 + 1) w1.heap.size X (X + 1) w Wi wr x1 x2 y1 y2 0 ∧ Hid (wordO x1 y1 = wordO (x1.drop k) (y1.drop k))) (fun i _ => y1.length - (intOf i).toNat)
      case atStart => exact ⟨0, by omega, rfl, r0, by simp [Hid]⟩
      case round =>
        obtain ⟨k, hk, rfl, hr, HK⟩ := hrel
        obtain ⟨c0, c1, c2, c3, c4, f0⟩ := hr.cells
        by_cases hlt : k < y1.length
        · have hlt' : (k : Int) < (y1.length : Int) := by omega
          have WX := fun w => weight_any (ofL x1) k w (by rw [ofL_size]; exact lx1)
          have WY := fun w => weight_any (ofL y1) k w (by rw [ofL_size]; exact ly1)
          rw [ofL_data] at WX WY
          have CC := fun w => Compare_any (wtL x1 k) (wtL y1 k) w
          change ∀ w, Calls Try.prog 41 _ w fun e w' => e = .returned (.int .i64 (cmpI (wtL x1 k) (wtL y1 k))) ∧ w' = w at CC
          have WX := hide WX
          have WY := hide WY
          have hX1 := wordO_drop x1 y1 k
          generalize wtL x1 k = p at *
          generalize wtL y1 k = q at *
          by_cases hc : cmpI p q = 0
          · rw [hc] at CC hX1
            rw [if_pos rfl] at hX1
            have HX := hide hX1
            have CC := hide CC
            clear hc hX1
            gi_wp2
            refine wpIn_region_any (by kernel_rfl) ?_
            refine wpAnyIn_round (F := Fence.wide) rfl (noDefer_of (by kernel_rfl)) _ _ _ _ ?_
            change wpAnyIn _ _ _ _ _ _ _ _ _ (World.drew _)
            have rd := hr.drew
            clear hr c0 c1 c2 c3 c4 f0
            generalize World.drew _ = W4 at *
            obtain ⟨c0, c1, c2, c3, c4, f0⟩ := rd.cells
            refine wpAnyIn_take (i := 0) (v := ?_) rfl rfl (by kernel_rfl) (by kernel_rfl) (by kernel_rfl) (fun _ _ _ h => h) ⟨Or.inl ⟨by rfl, ?_⟩, fun _ => rfl⟩ ?_
            rotate_left
            · intro w; go_simp
              try with_reducible rfl
            refine wpAnyIn_take (i := 2) (v := ?_) rfl rfl (by kernel_rfl) (by kernel_rfl) (by kernel_rfl) (fun _ _ _ h => h) ⟨Or.inl ⟨by rfl, ?_⟩, fun _ => rfl⟩ ?_
            rotate_left
            · intro w; go_simp
              try with_reducible rfl
            refine wpAnyIn_take (i := 4) (v := ?_) rfl rfl (by kernel_rfl) (by kernel_rfl) (by kernel_rfl) (fun _ _ _ h => h) ⟨Or.inl ⟨by rfl, ?_⟩, fun _ => rfl⟩ ?_
            rotate_left
            · intro w; go_simp
              try with_reducible rfl
            refine wpAnyIn_take (i := 6) (v := ?_) rfl rfl (by kernel_rfl) (by kernel_rfl) (by kernel_rfl) (fun _ _ _ h => h) ⟨Or.inl ⟨by rfl, ?_⟩, fun _ => rfl⟩ ?_
            rotate_left
            · intro w; go_simp
              try with_reducible rfl
            refine wpAnyIn_ready (rs := [1, 5]) (by kernel_rfl) (by simp) ?_
            refine AllReadyIn.cons rfl (fun K hK => ?_) ?_
            · go_simp
              refine hK _ _ ?_
              clear hK K
              refine wpAnyIn_ready (rs := [3, 5]) (by kernel_rfl) (by simp) ?_
              refine AllReadyIn.cons rfl (fun K hK => ?_) ?_
              · go_simp
                refine ⟨trivial, ?_⟩
                refine (callsIn_wide.2 (WX.out _)).mono ?_
                rintro e w' ⟨rfl, hw'⟩
                rw [hw']
                clear hw' w'
                refine hK _ _ ?_
                clear hK K
                refine wpAnyIn_ready (rs := [5]) (by kernel_rfl) (by simp) ?_
                refine AllReadyIn.cons rfl (fun K hK => ?_) ?_
                · go_simp
                  refine hK _ _ ?_
                  clear hK K
                  refine wpAnyIn_ready (rs := [7]) (by kernel_rfl) (by simp) ?_
                  refine AllReadyIn.cons rfl (fun K hK => ?_) ?_
                  · go_simp
                    refine ⟨trivial, ?_⟩
                    refine (callsIn_wide.2 (WY.out _)).mono ?_
                    rintro e w' ⟨rfl, hw'⟩
                    rw [hw']
                    clear hw' w'
                    refine hK _ _ ?_
                    clear hK K
                    refine wpAnyIn_ready (rs := [8]) (by kernel_rfl) (by simp) ?_
                    refine AllReadyIn.cons rfl (fun K hK => ?_) ?_
                    · go_simp
                      refine ⟨trivial, ?_⟩
                      refine (callsIn_wide.2 (CC.out _)).mono ?_
                      rintro e w' ⟨rfl, hw'⟩
                      rw [hw']
                      clear hw' w'
                      refine hK _ _ ?_
                      clear hK K
                      refine wpAnyIn_ready (rs := [9]) (by kernel_rfl) (by simp) ?_
                      refine AllReadyIn.cons rfl (fun K hK => ?_) ?_
                      · go_simp
                        refine hK _ _ ?_
                        clear hK K
                        refine wpAnyIn_done (by kernel_rfl) ?_ _
                        have rp := rd.put hNX hNY hNB 0
                        clear c0 c1 c2 c3 c4 f0
                        obtain ⟨c0, c1, c2, c3, c4, f0⟩ := rp.cells
                        gi_wp2
                        go_roundw
                        case rel => exact ⟨k + 1, by omega, by go_num, rp, by rw [HK.out, HX.out]; rfl⟩
                        case measure => simp [intOf]; omega
                      exact AllReadyIn.nil
                    exact AllReadyIn.nil
                  exact AllReadyIn.nil
                exact AllReadyIn.nil
              refine AllReadyIn.cons rfl (fun K hK => ?_) ?_
              · go_simp
                refine hK _ _ ?_
                clear hK K
                refine wpAnyIn_ready (rs := [3]) (by kernel_rfl) (by simp) ?_
                refine AllReadyIn.cons rfl (fun K hK => ?_) ?_
                · go_simp
                  refine ⟨trivial, ?_⟩
                  refine (callsIn_wide.2 (WX.out _)).mono ?_
                  rintro e w' ⟨rfl, hw'⟩
                  rw [hw']
                  clear hw' w'
                  refine hK _ _ ?_
                  clear hK K
                  refine wpAnyIn_ready (rs := [7]) (by kernel_rfl) (by simp) ?_
                  refine AllReadyIn.cons rfl (fun K hK => ?_) ?_
                  · go_simp
                    refine ⟨trivial, ?_⟩
                    refine (callsIn_wide.2 (WY.out _)).mono ?_
                    rintro e w' ⟨rfl, hw'⟩
                    rw [hw']
                    clear hw' w'
                    refine hK _ _ ?_
                    clear hK K
                    refine wpAnyIn_ready (rs := [8]) (by kernel_rfl) (by simp) ?_
                    refine AllReadyIn.cons rfl (fun K hK => ?_) ?_
                    · go_simp
                      refine ⟨trivial, ?_⟩
                      refine (callsIn_wide.2 (CC.out _)).mono ?_
                      rintro e w' ⟨rfl, hw'⟩
                      rw [hw']
                      clear hw' w'
                      refine hK _ _ ?_
                      clear hK K
                      refine wpAnyIn_ready (rs := [9]) (by kernel_rfl) (by simp) ?_
                      refine AllReadyIn.cons rfl (fun K hK => ?_) ?_
                      · go_simp
                        refine hK _ _ ?_
                        clear hK K
                        refine wpAnyIn_done (by kernel_rfl) ?_ _
                        have rp := rd.put hNX hNY hNB 0
                        clear c0 c1 c2 c3 c4 f0
                        obtain ⟨c0, c1, c2, c3, c4, f0⟩ := rp.cells
                        gi_wp2
                        go_roundw
                        case rel => exact ⟨k + 1, by omega, by go_num, rp, by rw [HK.out, HX.out]; rfl⟩
                        case measure => simp [intOf]; omega
                      exact AllReadyIn.nil
                    exact AllReadyIn.nil
                  exact AllReadyIn.nil
                exact AllReadyIn.nil
              exact AllReadyIn.nil
            refine AllReadyIn.cons rfl (fun K hK => ?_) ?_
            · go_simp
              refine hK _ _ ?_
              clear hK K
              refine wpAnyIn_ready (rs := [1]) (by kernel_rfl) (by simp) ?_
              refine AllReadyIn.cons rfl (fun K hK => ?_) ?_
              · go_simp
                refine hK _ _ ?_
                clear hK K
                refine wpAnyIn_ready (rs := [3]) (by kernel_rfl) (by simp) ?_
                refine AllReadyIn.cons rfl (fun K hK => ?_) ?_
                · go_simp
                  refine ⟨trivial, ?_⟩
                  refine (callsIn_wide.2 (WX.out _)).mono ?_
                  rintro e w' ⟨rfl, hw'⟩
                  rw [hw']
                  clear hw' w'
                  refine hK _ _ ?_
                  clear hK K
                  refine wpAnyIn_ready (rs := [7]) (by kernel_rfl) (by simp) ?_
                  refine AllReadyIn.cons rfl (fun K hK => ?_) ?_
                  · go_simp
                    refine ⟨trivial, ?_⟩
                    refine (callsIn_wide.2 (WY.out _)).mono ?_
                    rintro e w' ⟨rfl, hw'⟩
                    rw [hw']
                    clear hw' w'
                    refine hK _ _ ?_
                    clear hK K
                    refine wpAnyIn_ready (rs := [8]) (by kernel_rfl) (by simp) ?_
                    refine AllReadyIn.cons rfl (fun K hK => ?_) ?_
                    · go_simp
                      refine ⟨trivial, ?_⟩
                      refine (callsIn_wide.2 (CC.out _)).mono ?_
                      rintro e w' ⟨rfl, hw'⟩
                      rw [hw']
                      clear hw' w'
                      refine hK _ _ ?_
                      clear hK K
                      refine wpAnyIn_ready (rs := [9]) (by kernel_rfl) (by simp) ?_
                      refine AllReadyIn.cons rfl (fun K hK => ?_) ?_
                      · go_simp
                        refine hK _ _ ?_
                        clear hK K
                        refine wpAnyIn_done (by kernel_rfl) ?_ _
                        have rp := rd.put hNX hNY hNB 0
                        clear c0 c1 c2 c3 c4 f0
                        obtain ⟨c0, c1, c2, c3, c4, f0⟩ := rp.cells
                        gi_wp2
                        go_roundw
                        case rel => exact ⟨k + 1, by omega, by go_num, rp, by rw [HK.out, HX.out]; rfl⟩
                        case measure => simp [intOf]; omega
                      exact AllReadyIn.nil
                    exact AllReadyIn.nil
                  exact AllReadyIn.nil
                exact AllReadyIn.nil
              exact AllReadyIn.nil
            exact AllReadyIn.nil
          · rw [if_neg hc] at hX1
            have HX := hide hX1
            have CC := hide CC
            have hcb : (cmpI p q != 0) = true := by simpa using hc
            have HC := hide hc
            clear hc hX1
            generalize cmpI p q = c at *
            gi_wp2
            refine wpIn_region_any (by kernel_rfl) ?_
            refine wpAnyIn_round (F := Fence.wide) rfl (noDefer_of (by kernel_rfl)) _ _ _ _ ?_
            change wpAnyIn _ _ _ _ _ _ _ _ _ (World.drew _)
            have rd := hr.drew
            clear hr c0 c1 c2 c3 c4 f0
            generalize World.drew _ = W4 at *
            obtain ⟨c0, c1, c2, c3, c4, f0⟩ := rd.cells
            refine wpAnyIn_take (i := 0) (v := ?_) rfl rfl (by kernel_rfl) (by kernel_rfl) (by kernel_rfl) (fun _ _ _ h => h) ⟨Or.inl ⟨by rfl, ?_⟩, fun _ => rfl⟩ ?_
            rotate_left
            · intro w; go_simp
              try with_reducible rfl
            refine wpAnyIn_take (i := 2) (v := ?_) rfl rfl (by kernel_rfl) (by kernel_rfl) (by kernel_rfl) (fun _ _ _ h => h) ⟨Or.inl ⟨by rfl, ?_⟩, fun _ => rfl⟩ ?_
            rotate_left
            · intro w; go_simp
              try with_reducible rfl
            refine wpAnyIn_take (i := 4) (v := ?_) rfl rfl (by kernel_rfl) (by kernel_rfl) (by kernel_rfl) (fun _ _ _ h => h) ⟨Or.inl ⟨by rfl, ?_⟩, fun _ => rfl⟩ ?_
            rotate_left
            · intro w; go_simp
              try with_reducible rfl
            refine wpAnyIn_take (i := 6) (v := ?_) rfl rfl (by kernel_rfl) (by kernel_rfl) (by kernel_rfl) (fun _ _ _ h => h) ⟨Or.inl ⟨by rfl, ?_⟩, fun _ => rfl⟩ ?_
            rotate_left
            · intro w; go_simp
              try with_reducible rfl
            refine wpAnyIn_ready (rs := [1, 5]) (by kernel_rfl) (by simp) ?_
            refine AllReadyIn.cons rfl (fun K hK => ?_) ?_
            · go_simp
              refine hK _ _ ?_
              clear hK K
              refine wpAnyIn_ready (rs := [3, 5]) (by kernel_rfl) (by simp) ?_
              refine AllReadyIn.cons rfl (fun K hK => ?_) ?_
              · go_simp
                refine ⟨trivial, ?_⟩
                refine (callsIn_wide.2 (WX.out _)).mono ?_
                rintro e w' ⟨rfl, hw'⟩
                rw [hw']
                clear hw' w'
                refine hK _ _ ?_
                clear hK K
                refine wpAnyIn_ready (rs := [5]) (by kernel_rfl) (by simp) ?_
                refine AllReadyIn.cons rfl (fun K hK => ?_) ?_
                · go_simp
                  refine hK _ _ ?_
                  clear hK K
                  refine wpAnyIn_ready (rs := [7]) (by kernel_rfl) (by simp) ?_
                  refine AllReadyIn.cons rfl (fun K hK => ?_) ?_
                  · go_simp
                    refine ⟨trivial, ?_⟩
                    refine (callsIn_wide.2 (WY.out _)).mono ?_
                    rintro e w' ⟨rfl, hw'⟩
                    rw [hw']
                    clear hw' w'
                    refine hK _ _ ?_
                    clear hK K
                    refine wpAnyIn_ready (rs := [8]) (by kernel_rfl) (by simp) ?_
                    refine AllReadyIn.cons rfl (fun K hK => ?_) ?_
                    · go_simp
                      refine ⟨trivial, ?_⟩
                      refine (callsIn_wide.2 (CC.out _)).mono ?_
                      rintro e w' ⟨rfl, hw'⟩
                      rw [hw']
                      clear hw' w'
                      refine hK _ _ ?_
                      clear hK K
                      refine wpAnyIn_ready (rs := [9]) (by kernel_rfl) (by simp) ?_
                      refine AllReadyIn.cons rfl (fun K hK => ?_) ?_
                      · go_simp
                        refine hK _ _ ?_
                        clear hK K
                        refine wpAnyIn_done (by kernel_rfl) ?_ _
                        have rp := rd.put hNX hNY hNB c
                        clear c0 c1 c2 c3 c4 f0
                        obtain ⟨c0, c1, c2, c3, c4, f0⟩ := rp.cells
                        gi_wp2
                        have hv : rowO x.un.1 x.un.2 = c := by rw [HRO.out, if_neg (by rw [HK.out, HX.out]; exact HC.out), HK.out, HX.out]
                        refine ⟨rp.kp, rfl, pre, x, rfl, hz0, by rw [hv]; exact HC.out, by rw [hv]; exact rp.sg, rp.be⟩
                      exact AllReadyIn.nil
                    exact AllReadyIn.nil
                  exact AllReadyIn.nil
                exact AllReadyIn.nil
              refine AllReadyIn.cons rfl (fun K hK => ?_) ?_
              · go_simp
                refine hK _ _ ?_
                clear hK K
                refine wpAnyIn_ready (rs := [3]) (by kernel_rfl) (by simp) ?_
                refine AllReadyIn.cons rfl (fun K hK => ?_) ?_
                · go_simp
                  refine ⟨trivial, ?_⟩
                  refine (callsIn_wide.2 (WX.out _)).mono ?_
                  rintro e w' ⟨rfl, hw'⟩
                  rw [hw']
                  clear hw' w'
                  refine hK _ _ ?_
                  clear hK K
                  refine wpAnyIn_ready (rs := [7]) (by kernel_rfl) (by simp) ?_
                  refine AllReadyIn.cons rfl (fun K hK => ?_) ?_
                  · go_simp
                    refine ⟨trivial, ?_⟩
                    refine (callsIn_wide.2 (WY.out _)).mono ?_
                    rintro e w' ⟨rfl, hw'⟩
                    rw [hw']
                    clear hw' w'
                    refine hK _ _ ?_
                    clear hK K
                    refine wpAnyIn_ready (rs := [8]) (by kernel_rfl) (by simp) ?_
                    refine AllReadyIn.cons rfl (fun K hK => ?_) ?_
                    · go_simp
                      refine ⟨trivial, ?_⟩
                      refine (callsIn_wide.2 (CC.out _)).mono ?_
                      rintro e w' ⟨rfl, hw'⟩
                      rw [hw']
                      clear hw' w'
                      refine hK _ _ ?_
                      clear hK K
                      refine wpAnyIn_ready (rs := [9]) (by kernel_rfl) (by simp) ?_
                      refine AllReadyIn.cons rfl (fun K hK => ?_) ?_
                      · go_simp
                        refine hK _ _ ?_
                        clear hK K
                        refine wpAnyIn_done (by kernel_rfl) ?_ _
                        have rp := rd.put hNX hNY hNB c
                        clear c0 c1 c2 c3 c4 f0
                        obtain ⟨c0, c1, c2, c3, c4, f0⟩ := rp.cells
                        gi_wp2
                        have hv : rowO x.un.1 x.un.2 = c := by rw [HRO.out, if_neg (by rw [HK.out, HX.out]; exact HC.out), HK.out, HX.out]
                        refine ⟨rp.kp, rfl, pre, x, rfl, hz0, by rw [hv]; exact HC.out, by rw [hv]; exact rp.sg, rp.be⟩
                      exact AllReadyIn.nil
                    exact AllReadyIn.nil
                  exact AllReadyIn.nil
                exact AllReadyIn.nil
              exact AllReadyIn.nil
            refine AllReadyIn.cons rfl (fun K hK => ?_) ?_
            · go_simp
              refine hK _ _ ?_
              clear hK K
              refine wpAnyIn_ready (rs := [1]) (by kernel_rfl) (by simp) ?_
              refine AllReadyIn.cons rfl (fun K hK => ?_) ?_
              · go_simp
                refine hK _ _ ?_
                clear hK K
                refine wpAnyIn_ready (rs := [3]) (by kernel_rfl) (by simp) ?_
                refine AllReadyIn.cons rfl (fun K hK => ?_) ?_
                · go_simp
                  refine ⟨trivial, ?_⟩
                  refine (callsIn_wide.2 (WX.out _)).mono ?_
                  rintro e w' ⟨rfl, hw'⟩
                  rw [hw']
                  clear hw' w'
                  refine hK _ _ ?_
                  clear hK K
                  refine wpAnyIn_ready (rs := [7]) (by kernel_rfl) (by simp) ?_
                  refine AllReadyIn.cons rfl (fun K hK => ?_) ?_
                  · go_simp
                    refine ⟨trivial, ?_⟩
                    refine (callsIn_wide.2 (WY.out _)).mono ?_
                    rintro e w' ⟨rfl, hw'⟩
                    rw [hw']
                    clear hw' w'
                    refine hK _ _ ?_
                    clear hK K
                    refine wpAnyIn_ready (rs := [8]) (by kernel_rfl) (by simp) ?_
                    refine AllReadyIn.cons rfl (fun K hK => ?_) ?_
                    · go_simp
                      refine ⟨trivial, ?_⟩
                      refine (callsIn_wide.2 (CC.out _)).mono ?_
                      rintro e w' ⟨rfl, hw'⟩
                      rw [hw']
                      clear hw' w'
                      refine hK _ _ ?_
                      clear hK K
                      refine wpAnyIn_ready (rs := [9]) (by kernel_rfl) (by simp) ?_
                      refine AllReadyIn.cons rfl (fun K hK => ?_) ?_
                      · go_simp
                        refine hK _ _ ?_
                        clear hK K
                        refine wpAnyIn_done (by kernel_rfl) ?_ _
                        have rp := rd.put hNX hNY hNB c
                        clear c0 c1 c2 c3 c4 f0
                        obtain ⟨c0, c1, c2, c3, c4, f0⟩ := rp.cells
                        gi_wp2
                        have hv : rowO x.un.1 x.un.2 = c := by rw [HRO.out, if_neg (by rw [HK.out, HX.out]; exact HC.out), HK.out, HX.out]
                        refine ⟨rp.kp, rfl, pre, x, rfl, hz0, by rw [hv]; exact HC.out, by rw [hv]; exact rp.sg, rp.be⟩
                      exact AllReadyIn.nil
                    exact AllReadyIn.nil
                  exact AllReadyIn.nil
                exact AllReadyIn.nil
              exact AllReadyIn.nil
            exact AllReadyIn.nil
        · obtain rfl : k = y1.length := by omega
          have hlt' : ¬ (y1.length : Int) < (y1.length : Int) := by omega
          have HZ : Hid (wordO x1 y1 = 0) := by show _ = _; rw [HK.out]; exact wordO_end _ _ _ (by omega) (by omega)
          have CD := fun w => Cmp_any (ofL x2) (ofL y2) w (by rw [ofL_size]; omega) (by rw [ofL_size]; omega)
          rw [ofL_data, ofL_data] at CD
          have HV : Hid (rowO x.un.1 x.un.2 = cmpD x2 y2) := by show _ = _; rw [HRO.out, if_pos HZ.out]
          generalize cmpD x2 y2 = c at *
          have CD := hide CD
          by_cases hc : c = 0
          · subst hc
            gi_wp2
            refine ⟨trivial, (CallsIn.inRound lx (callsIn_wide.2 (CD.out _))).mono ?_⟩
            rintro e w' ⟨rfl, hw'⟩
            rw [hw']
            clear hw' w'
            have rp := hr.put hNX hNY hNB 0
            gi_wp2
            refine ⟨rp.kp, rp.on, rp.sg, ?_, rp.be, Eq.trans rp.on HCB.out⟩
            intro p hp
            rcases List.mem_append.1 hp with hp | hp
            · exact hz0 p hp
            · rw [List.mem_singleton.1 hp]; exact HV.out
          · have hcb : (c != 0) = true := by simpa using hc
            have HC := hide hc
            clear hc
            gi_wp2
            refine ⟨trivial, (CallsIn.inRound lx (callsIn_wide.2 (CD.out _))).mono ?_⟩
            rintro e w' ⟨rfl, hw'⟩
            rw [hw']
            clear hw' w'
            have rp := hr.put hNX hNY hNB c
            gi_wp2
            exact ⟨rp.kp, rfl, pre, x, rfl, hz0, by rw [HV.out]; exact HC.out, by rw [HV.out]; exact rp.sg, rp.be⟩
    · have hm' : ¬ (x1.length : Int) < (y1.length : Int) := by omega
      gi_wp2
      clear c0 c1 c2 c3 c4 f0
      gi_loopw [21] (fun i wr => ∃ k : Nat, k ≤ x1.length ∧ i = .int .i64 k ∧ RW w.heap.size (w.heap.size + 1 + 1 + 1) w1.heap.size X (X + 1) w Wi wr x1 x2 y1 y2 0 ∧ Hid (wordO x1 y1 = wordO (x1.drop k) (y1.drop k))) (fun i _ => x1.length - (intOf i).toNat)
      case atStart => exact ⟨0, by omega, rfl, r0, by simp [Hid]⟩
      case round =>
        obtain ⟨k, hk, rfl, hr, HK⟩ := hrel
        obtain ⟨c0, c1, c2, c3, c4, f0⟩ := hr.cells
        by_cases hlt : k < x1.length
        · have hlt' : (k : Int) < (x1.length : Int) := by omega
          have WX := fun w => weight_any (ofL x1) k w (by rw [ofL_size]; exact lx1)
          have WY := fun w => weight_any (ofL y1) k w (by rw [ofL_size]; exact ly1)
          rw [ofL_data] at WX WY
          have CC := fun w => Compare_any (wtL x1 k) (wtL y1 k) w
          change ∀ w, Calls Try.prog 41 _ w fun e w' => e = .returned (.int .i64 (cmpI (wtL x1 k) (wtL y1 k))) ∧ w' = w at CC
          have WX := hide WX
          have WY := hide WY
          have hX1 := wordO_drop x1 y1 k
          generalize wtL x1 k = p at *
          generalize wtL y1 k = q at *
          by_cases hc : cmpI p q = 0
          · rw [hc] at CC hX1
            rw [if_pos rfl] at hX1
            have HX := hide hX1
            have CC := hide CC
            clear hc hX1
            gi_wp2
            refine wpIn_region_any (by kernel_rfl) ?_
            refine wpAnyIn_round (F := Fence.wide) rfl (noDefer_of (by kernel_rfl)) _ _ _ _ ?_
            change wpAnyIn _ _ _ _ _ _ _ _ _ (World.drew _)
            have rd := hr.drew
            clear hr c0 c1 c2 c3 c4 f0
            generalize World.drew _ = W4 at *
            obtain ⟨c0, c1, c2, c3, c4, f0⟩ := rd.cells
            refine wpAnyIn_take (i := 0) (v := ?_) rfl rfl (by kernel_rfl) (by kernel_rfl) (by kernel_rfl) (fun _ _ _ h => h) ⟨Or.inl ⟨by rfl, ?_⟩, fun _ => rfl⟩ ?_
            rotate_left
            · intro w; go_simp
              try with_reducible rfl
            refine wpAnyIn_take (i := 2) (v := ?_) rfl rfl (by kernel_rfl) (by kernel_rfl) (by kernel_rfl) (fun _ _ _ h => h) ⟨Or.inl ⟨by rfl, ?_⟩, fun _ => rfl⟩ ?_
            rotate_left
            · intro w; go_simp
              try with_reducible rfl
            refine wpAnyIn_take (i := 4) (v := ?_) rfl rfl (by kernel_rfl) (by kernel_rfl) (by kernel_rfl) (fun _ _ _ h => h) ⟨Or.inl ⟨by rfl, ?_⟩, fun _ => rfl⟩ ?_
            rotate_left
            · intro w; go_simp
              try with_reducible rfl
            refine wpAnyIn_take (i := 6) (v := ?_) rfl rfl (by kernel_rfl) (by kernel_rfl) (by kernel_rfl) (fun _ _ _ h => h) ⟨Or.inl ⟨by rfl, ?_⟩, fun _ => rfl⟩ ?_
            rotate_left
            · intro w; go_simp
              try with_reducible rfl
            refine wpAnyIn_ready (rs := [1, 5]) (by kernel_rfl) (by simp) ?_
            refine AllReadyIn.cons rfl (fun K hK => ?_) ?_
            · go_simp
              refine hK _ _ ?_
              clear hK K
              refine wpAnyIn_ready (rs := [3, 5]) (by kernel_rfl) (by simp) ?_
              refine AllReadyIn.cons rfl (fun K hK => ?_) ?_
              · go_simp
                refine ⟨trivial, ?_⟩
                refine (callsIn_wide.2 (WX.out _)).mono ?_
                rintro e w' ⟨rfl, hw'⟩
                rw [hw']
                clear hw' w'
                refine hK _ _ ?_
                clear hK K
                refine wpAnyIn_ready (rs := [5]) (by kernel_rfl) (by simp) ?_
                refine AllReadyIn.cons rfl (fun K hK => ?_) ?_
                · go_simp
                  refine hK _ _ ?_
                  clear hK K
                  refine wpAnyIn_ready (rs := [7]) (by kernel_rfl) (by simp) ?_
                  refine AllReadyIn.cons rfl (fun K hK => ?_) ?_
                  · go_simp
                    refine ⟨trivial, ?_⟩
                    refine (callsIn_wide.2 (WY.out _)).mono ?_
                    rintro e w' ⟨rfl, hw'⟩
                    rw [hw']
                    clear hw' w'
                    refine hK _ _ ?_
                    clear hK K
                    refine wpAnyIn_ready (rs := [8]) (by kernel_rfl) (by simp) ?_
                    refine AllReadyIn.cons rfl (fun K hK => ?_) ?_
                    · go_simp
                      refine ⟨trivial, ?_⟩
                      refine (callsIn_wide.2 (CC.out _)).mono ?_
                      rintro e w' ⟨rfl, hw'⟩
                      rw [hw']
                      clear hw' w'
                      refine hK _ _ ?_
                      clear hK K
                      refine wpAnyIn_ready (rs := [9]) (by kernel_rfl) (by simp) ?_
                      refine AllReadyIn.cons rfl (fun K hK => ?_) ?_
                      · go_simp
                        refine hK _ _ ?_
                        clear hK K
                        refine wpAnyIn_done (by kernel_rfl) ?_ _
                        have rp := rd.put hNX hNY hNB 0
                        clear c0 c1 c2 c3 c4 f0
                        obtain ⟨c0, c1, c2, c3, c4, f0⟩ := rp.cells
                        gi_wp2
                        go_roundw
                        case rel => exact ⟨k + 1, by omega, by go_num, rp, by rw [HK.out, HX.out]; rfl⟩
                        case measure => simp [intOf]; omega
                      exact AllReadyIn.nil
                    exact AllReadyIn.nil
                  exact AllReadyIn.nil
                exact AllReadyIn.nil
              refine AllReadyIn.cons rfl (fun K hK => ?_) ?_
              · go_simp
                refine hK _ _ ?_
                clear hK K
                refine wpAnyIn_ready (rs := [3]) (by kernel_rfl) (by simp) ?_
                refine AllReadyIn.cons rfl (fun K hK => ?_) ?_
                · go_simp
                  refine ⟨trivial, ?_⟩
                  refine (callsIn_wide.2 (WX.out _)).mono ?_
                  rintro e w' ⟨rfl, hw'⟩
                  rw [hw']
                  clear hw' w'
                  refine hK _ _ ?_
                  clear hK K
                  refine wpAnyIn_ready (rs := [7]) (by kernel_rfl) (by simp) ?_
                  refine AllReadyIn.cons rfl (fun K hK => ?_) ?_
                  · go_simp
                    refine ⟨trivial, ?_⟩
                    refine (callsIn_wide.2 (WY.out _)).mono ?_
                    rintro e w' ⟨rfl, hw'⟩
                    rw [hw']
                    clear hw' w'
                    refine hK _ _ ?_
                    clear hK K
                    refine wpAnyIn_ready (rs := [8]) (by kernel_rfl) (by simp) ?_
                    refine AllReadyIn.cons rfl (fun K hK => ?_) ?_
                    · go_simp
                      refine ⟨trivial, ?_⟩
                      refine (callsIn_wide.2 (CC.out _)).mono ?_
                      rintro e w' ⟨rfl, hw'⟩
                      rw [hw']
                      clear hw' w'
                      refine hK _ _ ?_
                      clear hK K
                      refine wpAnyIn_ready (rs := [9]) (by kernel_rfl) (by simp) ?_
                      refine AllReadyIn.cons rfl (fun K hK => ?_) ?_
                      · go_simp
                        refine hK _ _ ?_
                        clear hK K
                        refine wpAnyIn_done (by kernel_rfl) ?_ _
                        have rp := rd.put hNX hNY hNB 0
                        clear c0 c1 c2 c3 c4 f0
                        obtain ⟨c0, c1, c2, c3, c4, f0⟩ := rp.cells
                        gi_wp2
                        go_roundw
                        case rel => exact ⟨k + 1, by omega, by go_num, rp, by rw [HK.out, HX.out]; rfl⟩
                        case measure => simp [intOf]; omega
                      exact AllReadyIn.nil
                    exact AllReadyIn.nil
                  exact AllReadyIn.nil
                exact AllReadyIn.nil
              exact AllReadyIn.nil
            refine AllReadyIn.cons rfl (fun K hK => ?_) ?_
            · go_simp
              refine hK _ _ ?_
              clear hK K
              refine wpAnyIn_ready (rs := [1]) (by kernel_rfl) (by simp) ?_
              refine AllReadyIn.cons rfl (fun K hK => ?_) ?_
              · go_simp
                refine hK _ _ ?_
                clear hK K
                refine wpAnyIn_ready (rs := [3]) (by kernel_rfl) (by simp) ?_
                refine AllReadyIn.cons rfl (fun K hK => ?_) ?_
                · go_simp
                  refine ⟨trivial, ?_⟩
                  refine (callsIn_wide.2 (WX.out _)).mono ?_
                  rintro e w' ⟨rfl, hw'⟩
                  rw [hw']
                  clear hw' w'
                  refine hK _ _ ?_
                  clear hK K
                  refine wpAnyIn_ready (rs := [7]) (by kernel_rfl) (by simp) ?_
                  refine AllReadyIn.cons rfl (fun K hK => ?_) ?_
                  · go_simp
                    refine ⟨trivial, ?_⟩
                    refine (callsIn_wide.2 (WY.out _)).mono ?_
                    rintro e w' ⟨rfl, hw'⟩
                    rw [hw']
                    clear hw' w'
                    refine hK _ _ ?_
                    clear hK K
                    refine wpAnyIn_ready (rs := [8]) (by kernel_rfl) (by simp) ?_
                    refine AllReadyIn.cons rfl (fun K hK => ?_) ?_
                    · go_simp
                      refine ⟨trivial, ?_⟩
                      refine (callsIn_wide.2 (CC.out _)).mono ?_
                      rintro e w' ⟨rfl, hw'⟩
                      rw [hw']
                      clear hw' w'
                      refine hK _ _ ?_
                      clear hK K
                      refine wpAnyIn_ready (rs := [9]) (by kernel_rfl) (by simp) ?_
                      refine AllReadyIn.cons rfl (fun K hK => ?_) ?_
                      · go_simp
                        refine hK _ _ ?_
                        clear hK K
                        refine wpAnyIn_done (by kernel_rfl) ?_ _
                        have rp := rd.put hNX hNY hNB 0
                        clear c0 c1 c2 c3 c4 f0
                        obtain ⟨c0, c1, c2, c3, c4, f0⟩ := rp.cells
                        gi_wp2
                        go_roundw
                        case rel => exact ⟨k + 1, by omega, by go_num, rp, by rw [HK.out, HX.out]; rfl⟩
                        case measure => simp [intOf]; omega
                      exact AllReadyIn.nil
                    exact AllReadyIn.nil
                  exact AllReadyIn.nil
                exact AllReadyIn.nil
              exact AllReadyIn.nil
            exact AllReadyIn.nil
          · rw [if_neg hc] at hX1
            have HX := hide hX1
            have CC := hide CC
            have hcb : (cmpI p q != 0) = true := by simpa using hc
            have HC := hide hc
            clear hc hX1
            generalize cmpI p q = c at *
            gi_wp2
            refine wpIn_region_any (by kernel_rfl) ?_
            refine wpAnyIn_round (F := Fence.wide) rfl (noDefer_of (by kernel_rfl)) _ _ _ _ ?_
            change wpAnyIn _ _ _ _ _ _ _ _ _ (World.drew _)
            have rd := hr.drew
            clear hr c0 c1 c2 c3 c4 f0
            generalize World.drew _ = W4 at *
            obtain ⟨c0, c1, c2, c3, c4, f0⟩ := rd.cells
            refine wpAnyIn_take (i := 0) (v := ?_) rfl rfl (by kernel_rfl) (by kernel_rfl) (by kernel_rfl) (fun _ _ _ h => h) ⟨Or.inl ⟨by rfl, ?_⟩, fun _ => rfl⟩ ?_
            rotate_left
            · intro w; go_simp
              try with_reducible rfl
            refine wpAnyIn_take (i := 2) (v := ?_) rfl rfl (by kernel_rfl) (by kernel_rfl) (by kernel_rfl) (fun _ _ _ h => h) ⟨Or.inl ⟨by rfl, ?_⟩, fun _ => rfl⟩ ?_
            rotate_left
            · intro w; go_simp
              try with_reducible rfl
            refine wpAnyIn_take (i := 4) (v := ?_) rfl rfl (by kernel_rfl) (by kernel_rfl) (by kernel_rfl) (fun _ _ _ h => h) ⟨Or.inl ⟨by rfl, ?_⟩, fun _ => rfl⟩ ?_
            rotate_left
            · intro w; go_simp
              try with_reducible rfl
            refine wpAnyIn_take (i := 6) (v := ?_) rfl rfl (by kernel_rfl) (by kernel_rfl) (by kernel_rfl) (fun _ _ _ h => h) ⟨Or.inl ⟨by rfl, ?_⟩, fun _ => rfl⟩ ?_
            rotate_left
            · intro w; go_simp
              try with_reducible rfl
            refine wpAnyIn_ready (rs := [1, 5]) (by kernel_rfl) (by simp) ?_
            refine AllReadyIn.cons rfl (fun K hK => ?_) ?_
            · go_simp
              refine hK _ _ ?_
              clear hK K
              refine wpAnyIn_ready (rs := [3, 5]) (by kernel_rfl) (by simp) ?_
              refine AllReadyIn.cons rfl (fun K hK => ?_) ?_
              · go_simp
                refine ⟨trivial, ?_⟩
                refine (callsIn_wide.2 (WX.out _)).mono ?_
                rintro e w' ⟨rfl, hw'⟩
                rw [hw']
                clear hw' w'
                refine hK _ _ ?_
                clear hK K
                refine wpAnyIn_ready (rs := [5]) (by kernel_rfl) (by simp) ?_
                refine AllReadyIn.cons rfl (fun K hK => ?_) ?_
                · go_simp
                  refine hK _ _ ?_
                  clear hK K
                  refine wpAnyIn_ready (rs := [7]) (by kernel_rfl) (by simp) ?_
                  refine AllReadyIn.cons rfl (fun K hK => ?_) ?_
                  · go_simp
                    refine ⟨trivial, ?_⟩
                    refine (callsIn_wide.2 (WY.out _)).mono ?_
                    rintro e w' ⟨rfl, hw'⟩
                    rw [hw']
                    clear hw' w'
                    refine hK _ _ ?_
                    clear hK K
                    refine wpAnyIn_ready (rs := [8]) (by kernel_rfl) (by simp) ?_
                    refine AllReadyIn.cons rfl (fun K hK => ?_) ?_
                    · go_simp
                      refine ⟨trivial, ?_⟩
                      refine (callsIn_wide.2 (CC.out _)).mono ?_
                      rintro e w' ⟨rfl, hw'⟩
                      rw [hw']
                      clear hw' w'
                      refine hK _ _ ?_
                      clear hK K
                      refine wpAnyIn_ready (rs := [9]) (by kernel_rfl) (by simp) ?_
                      refine AllReadyIn.cons rfl (fun K hK => ?_) ?_
                      · go_simp
                        refine hK _ _ ?_
                        clear hK K
                        refine wpAnyIn_done (by kernel_rfl) ?_ _
                        have rp := rd.put hNX hNY hNB c
                        clear c0 c1 c2 c3 c4 f0
                        obtain ⟨c0, c1, c2, c3, c4, f0⟩ := rp.cells
                        gi_wp2
                        have hv : rowO x.un.1 x.un.2 = c := by rw [HRO.out, if_neg (by rw [HK.out, HX.out]; exact HC.out), HK.out, HX.out]
                        refine ⟨rp.kp, rfl, pre, x, rfl, hz0, by rw [hv]; exact HC.out, by rw [hv]; exact rp.sg, rp.be⟩
                      exact AllReadyIn.nil
                    exact AllReadyIn.nil
                  exact AllReadyIn.nil
                exact AllReadyIn.nil
              refine AllReadyIn.cons rfl (fun K hK => ?_) ?_
              · go_simp
                refine hK _ _ ?_
                clear hK K
                refine wpAnyIn_ready (rs := [3]) (by kernel_rfl) (by simp) ?_
                refine AllReadyIn.cons rfl (fun K hK => ?_) ?_
                · go_simp
                  refine ⟨trivial, ?_⟩
                  refine (callsIn_wide.2 (WX.out _)).mono ?_
                  rintro e w' ⟨rfl, hw'⟩
                  rw [hw']
                  clear hw' w'
                  refine hK _ _ ?_
                  clear hK K
                  refine wpAnyIn_ready (rs := [7]) (by kernel_rfl) (by simp) ?_
                  refine AllReadyIn.cons rfl (fun K hK => ?_) ?_
                  · go_simp
                    refine ⟨trivial, ?_⟩
                    refine (callsIn_wide.2 (WY.out _)).mono ?_
                    rintro e w' ⟨rfl, hw'⟩
                    rw [hw']
                    clear hw' w'
                    refine hK _ _ ?_
                    clear hK K
                    refine wpAnyIn_ready (rs := [8]) (by kernel_rfl) (by simp) ?_
                    refine AllReadyIn.cons rfl (fun K hK => ?_) ?_
                    · go_simp
                      refine ⟨trivial, ?_⟩
                      refine (callsIn_wide.2 (CC.out _)).mono ?_
                      rintro e w' ⟨rfl, hw'⟩
                      rw [hw']
                      clear hw' w'
                      refine hK _ _ ?_
                      clear hK K
                      refine wpAnyIn_ready (rs := [9]) (by kernel_rfl) (by simp) ?_
                      refine AllReadyIn.cons rfl (fun K hK => ?_) ?_
                      · go_simp
                        refine hK _ _ ?_
                        clear hK K
                        refine wpAnyIn_done (by kernel_rfl) ?_ _
                        have rp := rd.put hNX hNY hNB c
                        clear c0 c1 c2 c3 c4 f0
                        obtain ⟨c0, c1, c2, c3, c4, f0⟩ := rp.cells
                        gi_wp2
                        have hv : rowO x.un.1 x.un.2 = c := by rw [HRO.out, if_neg (by rw [HK.out, HX.out]; exact HC.out), HK.out, HX.out]
                        refine ⟨rp.kp, rfl, pre, x, rfl, hz0, by rw [hv]; exact HC.out, by rw [hv]; exact rp.sg, rp.be⟩
                      exact AllReadyIn.nil
                    exact AllReadyIn.nil
                  exact AllReadyIn.nil
                exact AllReadyIn.nil
              exact AllReadyIn.nil
            refine AllReadyIn.cons rfl (fun K hK => ?_) ?_
            · go_simp
              refine hK _ _ ?_
              clear hK K
              refine wpAnyIn_ready (rs := [1]) (by kernel_rfl) (by simp) ?_
              refine AllReadyIn.cons rfl (fun K hK => ?_) ?_
              · go_simp
                refine hK _ _ ?_
                clear hK K
                refine wpAnyIn_ready (rs := [3]) (by kernel_rfl) (by simp) ?_
                refine AllReadyIn.cons rfl (fun K hK => ?_) ?_
                · go_simp
                  refine ⟨trivial, ?_⟩
                  refine (callsIn_wide.2 (WX.out _)).mono ?_
                  rintro e w' ⟨rfl, hw'⟩
                  rw [hw']
                  clear hw' w'
                  refine hK _ _ ?_
                  clear hK K
                  refine wpAnyIn_ready (rs := [7]) (by kernel_rfl) (by simp) ?_
                  refine AllReadyIn.cons rfl (fun K hK => ?_) ?_
                  · go_simp
                    refine ⟨trivial, ?_⟩
                    refine (callsIn_wide.2 (WY.out _)).mono ?_
                    rintro e w' ⟨rfl, hw'⟩
                    rw [hw']
                    clear hw' w'
                    refine hK _ _ ?_
                    clear hK K
                    refine wpAnyIn_ready (rs := [8]) (by kernel_rfl) (by simp) ?_
                    refine AllReadyIn.cons rfl (fun K hK => ?_) ?_
                    · go_simp
                      refine ⟨trivial, ?_⟩
                      refine (callsIn_wide.2 (CC.out _)).mono ?_
                      rintro e w' ⟨rfl, hw'⟩
                      rw [hw']
                      clear hw' w'
                      refine hK _ _ ?_
                      clear hK K
                      refine wpAnyIn_ready (rs := [9]) (by kernel_rfl) (by simp) ?_
                      refine AllReadyIn.cons rfl (fun K hK => ?_) ?_
                      · go_simp
                        refine hK _ _ ?_
                        clear hK K
                        refine wpAnyIn_done (by kernel_rfl) ?_ _
                        have rp := rd.put hNX hNY hNB c
                        clear c0 c1 c2 c3 c4 f0
                        obtain ⟨c0, c1, c2, c3, c4, f0⟩ := rp.cells
                        gi_wp2
                        have hv : rowO x.un.1 x.un.2 = c := by rw [HRO.out, if_neg (by rw [HK.out, HX.out]; exact HC.out), HK.out, HX.out]
                        refine ⟨rp.kp, rfl, pre, x, rfl, hz0, by rw [hv]; exact HC.out, by rw [hv]; exact rp.sg, rp.be⟩
                      exact AllReadyIn.nil
                    exact AllReadyIn.nil
                  exact AllReadyIn.nil
                exact AllReadyIn.nil
              exact AllReadyIn.nil
            exact AllReadyIn.nil
        · obtain rfl : k = x1.length := by omega
          have hlt' : ¬ (x1.length : Int) < (x1.length : Int) := by omega
          have HZ : Hid (wordO x1 y1 = 0) := by show _ = _; rw [HK.out]; exact wordO_end _ _ _ (by omega) (by omega)
          have CD := fun w => Cmp_any (ofL x2) (ofL y2) w (by rw [ofL_size]; omega) (by rw [ofL_size]; omega)
          rw [ofL_data, ofL_data] at CD
          have HV : Hid (rowO x.un.1 x.un.2 = cmpD x2 y2) := by show _ = _; rw [HRO.out, if_pos HZ.out]
          generalize cmpD x2 y2 = c at *
          have CD := hide CD
          by_cases hc : c = 0
          · subst hc
            gi_wp2
            refine ⟨trivial, (CallsIn.inRound lx (callsIn_wide.2 (CD.out _))).mono ?_⟩
            rintro e w' ⟨rfl, hw'⟩
            rw [hw']
            clear hw' w'
            have rp := hr.put hNX hNY hNB 0
            gi_wp2
            refine ⟨rp.kp, rp.on, rp.sg, ?_, rp.be, Eq.trans rp.on HCB.out⟩
            intro p hp
            rcases List.mem_append.1 hp with hp | hp
            · exact hz0 p hp
            · rw [List.mem_singleton.1 hp]; exact HV.out
          · have hcb : (c != 0) = true := by simpa using hc
            have HC := hide hc
            clear hc
            gi_wp2
            refine ⟨trivial, (CallsIn.inRound lx (callsIn_wide.2 (CD.out _))).mono ?_⟩
            rintro e w' ⟨rfl, hw'⟩
            rw [hw']
            clear hw' w'
            have rp := hr.put hNX hNY hNB c
            gi_wp2
            exact ⟨rp.kp, rfl, pre, x, rfl, hz0, by rw [HV.out]; exact HC.out, by rw [HV.out]; exact rp.sg, rp.be⟩
  case done =>
    rintro D ys W hD hys ⟨hS, hz0, hB, hC⟩ hK
    have c0 := one_cell hS
    gi_wp2
    go_wp2_with fail
    rw [Exit.noGoto_ret]
    refine fin16 _ [D] W w.heap.size (.int .i64 0) rfl (by simp) (by intro E hE; rw [List.mem_singleton.1 hE]; exact ⟨by omega, hK⟩) ?_
    intro W' hp
    exact ⟨ret_i (by rw [← HS.out, ← hys]; exact (signP_zero _ (by intro p hp'; obtain ⟨q, hq, rfl⟩ := List.mem_map.1 hp'; exact hz0 q hq)).symm), hB.trans hp.1⟩
  case stop =>
    rintro D cc ys W hD hpre ⟨rfl, pre, x, rfl, hz0, hx, hS, hB⟩ hK
    have c0 := one_cell hS
    gi_wp2
    go_wp2_with fail
    rw [Exit.noGoto_ret]
    refine fin16 _ [D] W w.heap.size (.int .i64 (rowO x.un.1 x.un.2)) rfl (by simp) (by intro E hE; rw [List.mem_singleton.1 hE]; exact ⟨by omega, hK⟩) ?_
    intro W' hp
    refine ⟨ret_i ?_, hB.trans hp.1⟩
    obtain ⟨rest, hrest⟩ := hpre
    rw [← HS.out, ← hrest, List.map_append, List.append_assoc]
    exact (signP_at _ _ _ (by intro p hp'; obtain ⟨q, hq, rfl⟩ := List.mem_map.1 hp'; exact hz0 q hq) hx).symm

theorem Part_any (a b : ByteArray) (w : World) (ha : a.size ≤ 9223372036854775000) (hb : b.size ≤ 9223372036854775000) :
    Calls Try.prog 16 #[.string a, .string b] w fun e w' => e = .returned (.int .i64 (partO a.data.toList b.data.toList)) ∧ Below w.heap.size w w' :=
  (callsIn_wide (n := 5)).1 (Part_in a b w ha hb)

end Go.Proofs.Ythojcidbhojlhaa
