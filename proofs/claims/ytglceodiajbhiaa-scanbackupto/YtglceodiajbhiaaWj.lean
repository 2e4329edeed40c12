/-
  Walks: the program's pieces.
-/
import Derived.Test.YtglceodiajbhiaaWi
namespace Go.Proofs.Ytglceodiajbhiaa
open Go.RowKit Go.Shelf
set_option linter.unusedVariables false

attribute [local go_sem] Oper.semAt_some

set_option maxHeartbeats 1000000 in
theorem pieces_in (n : Nat) (s : ByteArray) (c : Int) (w : World) :
    CallsIn Fence.wide n Try.prog 38 #[.string s, .int .u8 c] w fun e w' => e = .returned (.func (.func 43) #[] #[.pointer (some ⟨w.heap.size, 0, none⟩), .pointer (some ⟨w.heap.size + 1, 0, none⟩)]) ∧ w' = (w.alloc (.cells #[.string s] 9)).alloc (.cells #[.int .u8 c] 5) := by
  refine callsIn_of_wp Try.func38 rfl trivial ?_ rfl
  simp only [Try.ntmps38, List.size_toArray, List.length_cons, List.length_nil, Nat.reduceAdd, Nat.reduceSub, Array.replicate_succ, Array.replicate_zero, List.push_toArray, List.append_toArray, List.nil_append, List.cons_append]
  gi_wp2
  go_ret
  exact ⟨rfl, rfl⟩

theorem pieces_stops (n : Nat) (hn : 1 ≤ n) (Bs Bp : Nat) (s : ByteArray) (sep : UInt8) (hs : s.size ≤ 4000000000000) (w : World) (hBs : Boxed w Bs 9 (.string s)) (hBp : Boxed w Bp 5 (.int .u8 (sep.toNat : Int))) :
    SeqStopsK Fence.wide n Try.prog 43 #[.pointer (some ⟨Bs, 0, none⟩), .pointer (some ⟨Bp, 0, none⟩)] (fun x : Nat × Nat => #[Value.int .i64 (x.1 : Int), .string (s.extract x.1 x.2)]) (Two Bs Bp) (fun ys => ys = cuts sep s.data.toList) (fun pre => pre <+: cuts sep s.data.toList) (cuts sep s.data.toList).length w := fun l J Jx W hW hJ _ hY h0 =>
  pieces1_in n hn l Bs Bp s sep hs J Jx W.heap.size hJ hY W ((hW.block Bs hBs.lt).trans hBs) ((hW.block Bp hBp.lt).trans hBp) h0

theorem two_b {b c : Nat} {w : World} (hb : b < w.heap.size) (hc : c < w.heap.size) : ∀ (W : World) (l : Nat) (o o' : Obj), w.heap.size ≤ l → W.heap[l]? = some o → o.isCells = false → o.isWalk = false → Two b c W (W.putObj l o') :=
  fun W l o o' hl _ _ _ => ⟨World.putObj_heap_other (by omega), World.putObj_heap_other (by omega)⟩

theorem boxed_own' {β : Type} (B : Nat) (t : TypeId) (v : Value) : Own (fun (_ : β) W => Boxed W B t v) := by
  rintro s X Y row hv hg hrow
  exact hv.kept hg (fun e' => by
    obtain ⟨o, ho, hc⟩ := hrow B e'.symm
    rw [show X.heap[B]? = _ from hv] at ho; cases ho; cases hc)

theorem boxed_past {W w1 : World} {B C : Nat} {t : TypeId} {v u x : Value} {n₀ k : Nat} {xs : List Value} {tmp : Obj} (h : Boxed W C t u) (hte : t ≠ 41) (hrow : W.ownsRow n₀ 41 3 v k xs) (hgrow : (W.alloc tmp).grownBy w1 v.ownBlock) (hne : C ≠ B) : Boxed (w1.setCell ⟨B, 0, none⟩ x) C t u :=
  ((h.alloc tmp).kept hgrow (h.not_row hte hrow)).kept (grownBy_setCell' w1 B x) (fun e => hne (by simpa using e))

set_option maxRecDepth 100000 in
set_option maxHeartbeats 2000000 in
theorem Split_in (n : Nat) (hn : 3 ≤ n) (s : ByteArray) (sep : UInt8) (w : World) (hs : s.size ≤ 4000000000000) :
    CallsIn Fence.wide n Try.prog 28 #[.string s, .int .u8 (sep.toNat : Int)] w fun e w' => ∃ v, e = .returned v ∧ w'.ownsRow w.heap.size 41 3 v (cuts sep s.data.toList).length (cutCells s (cuts sep s.data.toList)) ∧ Below w.heap.size w w' := by
  have h1 : 1 ≤ n := by omega
  have hcl := cutsA_len sep s.data.toList 0 0
  rw [len_data] at hcl
  have hcl' : (cuts sep s.data.toList).length ≤ s.size + 1 := hcl
  obtain ⟨i0, hi, hz0, hz1, hz2⟩ := info_parts Try.info41
  refine callsIn_of_wp_marks Try.func28 rfl trivial ?_ rfl
  simp only [Try.ntmps28, List.size_toArray, List.length_cons, List.length_nil, Nat.reduceAdd, Nat.reduceSub, Array.replicate_succ, Array.replicate_zero, List.push_toArray, List.append_toArray, List.nil_append, List.cons_append]
  gi_wp2_with (refine ⟨trivial, ?_⟩; gi_at_call 38; refine (pieces_in (n - 1) _ _ _).mono ?_; rintro e w' ⟨rfl, rfl⟩)
  have bO := Boxed.new w 35 (.slice none 0 0)
  have bS := Boxed.new (w.alloc (.cells #[.slice none 0 0] 35)) 9 (.string s)
  have bP := Boxed.new ((w.alloc (.cells #[.slice none 0 0] 35)).alloc (.cells #[.string s] 9)) 5 (.int .u8 (sep.toNat : Int))
  simp only [World.size_alloc] at bS bP
  have hB0 : Below w.heap.size w (((w.alloc (.cells #[.slice none 0 0] 35)).alloc (.cells #[.string s] 9)).alloc (.cells #[.int .u8 (sep.toNat : Int)] 5)) := (((Below.refl _ w).alloc (Nat.le_refl _) _).alloc (by simp) _).alloc (by simp; omega) _
  refine wpIn_rangeFunc_ownG rfl h1 (gf := 43) (lb := #[.pointer (some ⟨w.heap.size + 1, 0, none⟩), .pointer (some ⟨w.heap.size + 1 + 1, 0, none⟩)]) rfl trivial (enters_of Try.func43 (by kernel_rfl) rfl)
    (pieces_stops (n - 1) (by omega) (w.heap.size + 1) (w.heap.size + 1 + 1) s sep hs _ (bS.alloc _) bP) Two.trans (two_b (by simp) (by simp)) (Below.refl _ _) (fun _ => rfl)
    (fun pre W => (((∃ v, Boxed W w.heap.size 35 v ∧ W.ownsRow w.heap.size 41 3 v pre.length (cutCells s pre) ∧ True) ∧ Boxed W (w.heap.size + 1) 9 (.string s)) ∧ Boxed W (w.heap.size + 1 + 1) 5 (.int .u8 (sep.toNat : Int))) ∧ Below w.heap.size w W)
    (fun _ _ _ => False)
    (OwnFrom.and (OwnFrom.and (OwnFrom.and (Own.from (holdsRow_own w.heap.size w.heap.size 35 41 3 (fun pre => pre.length) (fun pre => cutCells s pre) (fun _ _ => True)) _) (Own.from (boxed_own' _ _ _) _)) (Own.from (boxed_own' _ _ _) _)) (ownFrom_below (Nat.le_refl _) (by simp; omega)))
    (fun _ _ _ _ _ hs _ _ => hs)
    ⟨⟨⟨⟨_, (bO.alloc _).alloc _, World.ownsRow_nil _ _ _ _, trivial⟩, bS.alloc _⟩, bP⟩, hB0⟩
    (fun x => { tmps := #[.string s, .int .u8 (sep.toNat : Int), undef, undef, .slice none 0 0, .pointer (some ⟨w.heap.size, 0, none⟩), .int .i64 (x.1 : Int), .string (s.extract x.1 x.2), .string s, .int .u8 (sep.toNat : Int), .func (.func 43) #[] #[.pointer (some ⟨w.heap.size + 1, 0, none⟩), .pointer (some ⟨w.heap.size + 1 + 1, 0, none⟩)], .int .i64 (x.1 : Int), .string (s.extract x.1 x.2), undef, undef, undef, undef, undef, undef, undef], defers := [] }) ?assign ?body ?done ?stop
  case assign =>
    intro l x W K hK
    gi_wp2
    exact hK
  case body =>
    rintro l pre x W ⟨⟨⟨⟨v, hv, hrow, _⟩, hS⟩, hP⟩, hB⟩ hlt
    have hc := hv.cell
    gi_wp2_with (gi_at_builtin; refine wpListIn_append_own _ rfl _ _ 35 rfl w.heap.size 41 i0 (.agg #[.string .empty, .int .i64 0, .int .i64 0]) 3 32 Try.underlying35 hi hz0 hz1 hz2 rfl (by decide) _ _ _ rfl (hrow.alloc _) ⟨W.heap.size, 0, none⟩ 1 1 [.string (s.extract x.1 x.2), .int .i64 (x.1 : Int), .int .i64 0] rfl rfl (cell_three_new _ _ _ _ _) (three_one _ _ _) (by unfold maxLen; omega) (by omega) (by have := hB.size; simp; omega) ?_; intro v' w1 hown' hgrow _; obtain ⟨g', cap', rfl⟩ := ownsRow_succ hown'; obtain ⟨hv1, hv2, hr2, hk2, hb2⟩ := hv.appended (by decide) hrow hB.size (Nat.le_refl _) hown' hgrow; have hc1 := hv1.cell; have hf1 := hv1.frozen)
    have hS1 := boxed_past (B := w.heap.size) (x := .slice (some ⟨g', 0, none⟩) (pre.length + 1) cap') hS (by decide) hrow hgrow (by omega)
    have hP1 := boxed_past (B := w.heap.size) (x := .slice (some ⟨g', 0, none⟩) (pre.length + 1) cap') hP (by decide) hrow hgrow (by omega)
    exact ⟨hk2.from _, ⟨hS1.trans hS.symm, hP1.trans hP.symm⟩, ⟨⟨⟨_, hv2, by rw [cutCells_snoc, List.length_append]; exact hr2, trivial⟩, hS1⟩, hP1⟩, hB.trans hb2⟩
  case done =>
    rintro D ys W hD rfl ⟨⟨⟨⟨v, hv, hrow, _⟩, hS⟩, hP⟩, hB⟩ hK
    have hc := hv.cell
    gi_wp2
    refine ⟨by simp, .inl ⟨_, _, rfl, run_takeDeferred hK, ?_⟩⟩
    exact ⟨_, results_tmp rfl _ _ _, v, rfl, ownsRow_putObj hrow _ hK rfl, hB.trans (belowK_b (w := w) (Nat.le_refl _) W D _ _ (by simp at hD; omega) hK rfl rfl)⟩
  case stop =>
    rintro D c pre W _ _ h _
    exact h.elim

theorem Split_any (s : ByteArray) (sep : UInt8) (w : World) (hs : s.size ≤ 4000000000000) :
    Calls Try.prog 28 #[.string s, .int .u8 (sep.toNat : Int)] w fun e w' => ∃ v, e = .returned v ∧ w'.ownsRow w.heap.size 41 3 v (cuts sep s.data.toList).length (cutCells s (cuts sep s.data.toList)) ∧ Below w.heap.size w w' :=
  (callsIn_wide (n := 3)).1 (Split_in 3 (Nat.le_refl _) s sep w hs)

end Go.Proofs.Ytglceodiajbhiaa
