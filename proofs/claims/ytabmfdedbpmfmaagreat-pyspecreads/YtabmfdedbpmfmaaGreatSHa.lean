/-
  Walks: the iterator over a text's clauses. · Cells that lie as they lay; rows that a call has made. · Clauses that a call has made, in a row of its own: they stay as they are while nothing turns their blocks. · Walks: the iterator as a value; a clause alone.
-/
import Derived.Shelf.Abstract
import Derived.Shelf.RegionOpen
import Derived.OwnWalkIn
import Derived.TacticsInMore
import Derived.LoopNIn
import Derived.LoopIn
import Derived.Sort.QuietIn
import Derived.Laws.IdiomCopy
import Derived.Test.YtabmfdedbpmfmaaGreatSGb
import Derived.Test.YtabmfdedbpmfmaaGreatSHh
import Derived.Laws.AppendOwn
import Derived.Test.YtabmfdedbpmfmaaGreatSGl
import Derived.Test.YtabmfdedbpmfmaaGreatSGq
namespace Go.Proofs.YtabmfdedbpmfmaaGreat
open Go.RowKit Go.Shelf
set_option linter.unusedVariables false

attribute [local go_sem] Oper.semAt_some

abbrev It := Cl × Value × Value
def encC (x : It) : Array Value := #[.agg (clV x.1 x.2.1 x.2.2)]
def CX (items : List Cl) (pre : List It) (x : It) (W0 W : World) : Prop :=
  pre.map Prod.fst ++ [x.1] <+: items ∧ Txt W x.2.1 x.1.x.rel ∧ Txt W x.2.2 x.1.x.loc ∧ FreshC W0.heap.size x.2.1 ∧ FreshC W0.heap.size x.2.2
def KpC (Bs : Nat) (Z W W' : World) : Prop := (∀ k cs t m, Z.heap.size ≤ k → W.heap[k]? = some (.cells cs t m) → W'.heap[k]? = some (.cells cs t m)) ∧ W'.heap[Bs]? = W.heap[Bs]?
theorem grown_below {W W' : World} (h : Below W.heap.size W W') : W.grownBy W' none := ⟨h.os, h.tape, h.output, h.size, fun k hk _ => h.block k hk⟩
theorem boxed_below {W W' : World} {B : Nat} {t : TypeId} {v : Value} (h : Boxed W B t v) (hb : Below W.heap.size W W') : Boxed W' B t v := (hb.block B h.lt).trans h
theorem pre_app {A B : List Cl} {x : Cl} (r : List Cl) (h : A = B ++ x :: r) : B ++ [x] <+: A := ⟨r, by rw [h]; simp⟩
theorem clV_one {W : World} {c : Cl} {vr vl : Value} (h1 : Txt W vr c.x.rel) (h2 : Txt W vl c.x.loc) : ∀ v ∈ (clV c vr vl).toList, v.oneCell' = true := by
  obtain ⟨a1, c1, rfl, _⟩ := h1
  obtain ⟨a2, c2, rfl, _⟩ := h2
  have f : ∀ n, (fnV n).oneCell' = true := fun n => by unfold fnV; split <;> rfl
  intro v hv
  simp only [clV, List.mem_cons, List.not_mem_nil, or_false] at hv
  rcases hv with rfl | rfl | rfl | rfl | rfl | rfl | rfl | rfl | rfl | rfl | rfl | rfl | rfl | rfl | rfl | rfl | rfl | rfl <;> first | rfl | exact f _
theorem put61 {V : World} {B : Nat} {Z cs : Array Value} (h : V.heap[B]? = some (.cells Z 61 (0, 0))) (hz : Z.size = cs.size) (ho : ∀ v ∈ cs.toList, v.oneCell' = true) :
    ∃ V', (storeCells ⟨B, 0, none⟩ cs.toList).run Tryz.prog V = .ok () V' ∧ V'.heap[B]? = some (.cells cs 61 (0, 0)) ∧ Turn B V V' := by
  have ht := there_block (n := cs.toList.length) h (by simp [hz])
  have hr := run_storeCells_cells (P := Tryz.prog) B 0 cs.toList 0 V (fun j hj => by rw [Nat.add_zero]; exact (ht j hj).1) (fun j hj => by rw [Nat.add_zero]; exact (ht j hj).2) ho
  refine ⟨_, hr, ?_, ?_⟩
  · rw [setCells_put]
    have k := putL_heap cs.toList V B 0 _ _ h
    rw [fill_all Z cs.toList (by simpa using hz)] at k
    simpa using k
  · rw [setCells_put]
    exact putL_turn _ _ _ _

def Made (wr : World) (X : Cl) (W' : World) (B : Nat) (vr vl : Value) : Prop :=
  Below wr.heap.size wr W' ∧ wr.heap.size ≤ B ∧ W'.heap[B]? = some (.cells (clV X vr vl) 61 (0, 0)) ∧ Txt W' vr X.x.rel ∧ Txt W' vl X.x.loc ∧ FreshC wr.heap.size vr ∧ FreshC wr.heap.size vl
theorem put_ahead {wr w4 : World} {Z : Array Value} {X : Cl} {vr vl : Value} (hz : Z.size = 18) (b4 : Below (wr.drew.alloc (.cells Z 61)).heap.size (wr.drew.alloc (.cells Z 61)) w4) (t1 : Txt w4 vr X.x.rel) (t2 : Txt w4 vl X.x.loc)
    (f1 : FreshC (wr.drew.alloc (.cells Z 61)).heap.size vr) (f2 : FreshC (wr.drew.alloc (.cells Z 61)).heap.size vl) :
    ∃ V', (storeCells ⟨wr.heap.size, 0, none⟩ (clV X vr vl).toList).run Tryz.prog w4 = .ok () V' ∧ Hid (Made wr X V' wr.heap.size vr vl) := by
  have hA : w4.heap[wr.heap.size]? = some (.cells Z 61 (0, 0)) := (b4.block wr.heap.size (by simp)).trans (World.alloc_heap_new wr.drew _)
  obtain ⟨V', hst, hl, ht⟩ := put61 (cs := clV X vr vl) hA hz (clV_one t1 t2)
  simp only [World.size_alloc, World.size_drew] at f1 f2
  have hs4 : wr.heap.size + 1 ≤ w4.heap.size := by have := b4.size; simpa using this
  have hb : Below wr.heap.size wr w4 := (((Below.refl wr.heap.size wr).drew).trans ((Below.refl _ wr.drew).alloc (Nat.le_refl _) _)).trans (b4.mono (by simp))
  refine ⟨V', hst, hb.trans (ht.below (Nat.le_refl _) (by omega)), Nat.le_refl _, hl, ?_, ?_, f1.mono (Nat.le_succ _), f2.mono (Nat.le_succ _)⟩
  · exact txt_youngC t1 f1 (fun j h3 h4 => ht.block j h4 (by omega)) ht.size
  · exact txt_youngC t2 f2 (fun j h3 h4 => ht.block j h4 (by omega)) ht.size
theorem put_behind {wr w4 : World} {Z : Array Value} {X : Cl} {vr vl : Value} (hz : Z.size = 18) (b4 : Below wr.drew.heap.size wr.drew w4) (t1 : Txt w4 vr X.x.rel) (t2 : Txt w4 vl X.x.loc)
    (f1 : FreshC wr.drew.heap.size vr) (f2 : FreshC wr.drew.heap.size vl) :
    ∃ V', (storeCells ⟨w4.heap.size, 0, none⟩ (clV X vr vl).toList).run Tryz.prog (w4.alloc (.cells Z 61)) = .ok () V' ∧ Hid (Made wr X V' w4.heap.size vr vl) := by
  obtain ⟨V', hst, hl, ht⟩ := put61 (cs := clV X vr vl) (World.alloc_heap_new w4 (.cells Z 61)) hz (clV_one t1 t2)
  have hs4 : wr.heap.size ≤ w4.heap.size := b4.size
  have hb : Below wr.heap.size wr w4 := ((Below.refl wr.heap.size wr).drew).trans b4
  have hk : ∀ j, j < w4.heap.size → V'.heap[j]? = w4.heap[j]? := fun j h => (ht.block j (by simp; omega) (by omega)).trans (Below.heap_alloc w4 _ j h)
  have hsz : w4.heap.size ≤ V'.heap.size := by have := ht.size; simp at this; omega
  refine ⟨V', hst, (hb.alloc hs4 _).trans (ht.below hs4 (by simp; omega)), hs4, hl, ?_, ?_, f1, f2⟩
  · exact txt_youngC (n := 0) t1 (f1.mono (Nat.zero_le _)) (fun j _ h4 => hk j h4) hsz
  · exact txt_youngC (n := 0) t2 (f2.mono (Nat.zero_le _)) (fun j _ h4 => hk j h4) hsz
theorem wpListIn_load_mid {F : Fence} {n : Nat} {P : Program} {ops : Array Oper} {rest : List Oper} {op : Oper} {a : Act} {w : World} {Q : Exit → Act → World → Prop} (hgd : op.guard = none) (ty : TypeId) (x : Operand) (ho : op.op = .load ty x)
    (b o : Nat) (hx : a.eval x = .pointer (some ⟨b, o, none⟩)) (cs : List Value) (d : TypeDesc) (hc : w.rangeAt b o cs)
    (hu : P.underlying ty = some d) (hd : d.isRow = true) (hi : (P.info? ty).map (·.size) = some cs.length)
    (h : wpListIn F n P ops Q rest (a.put op.dst (.agg cs.toArray)) w) : wpListIn F n P ops Q (op :: rest) a w := by
  refine wpListIn_plain hgd fun K hK => ?_
  unfold Oper.wpIn
  refine ⟨?_, ?_⟩
  · simp [Oper.about, ho]
  · rw [Oper.semAt_plain F _ _ (by rw [ho]; intro c hc'; cases hc')]
    simp only [execOp, ho, hx, Instr.loadAt, Instr.sureAddr, Sem.run_bind, Sem.run_pure, Result.andThen_ok, run_loadVar_mid w b o ty cs d hc hu hd hi]
    exact hK _ _ h

set_option maxRecDepth 100000 in
set_option maxHeartbeats 4000000 in
theorem rowC_in (n : Nat) (hn : 1 ≤ n) (l Bs : Nat) (s : ByteArray) (hs : s.size ≤ 256) (J Jx : List It → World → Prop) (B0 : Nat) (hJ : AbidesFrom B0 J)
    (hY : ∀ pre x W0 W, J pre W0 → J pre W → Below W0.heap.size W0 W → CX (rowC s.data.toList 257 0) pre x W0 W → YieldAt Fence.wide (n - 1) Tryz.prog l (encC x) W fun e W' =>
      (e = .returned (.bool true) ∧ x.1.er = 0 ∧ J (pre ++ [x]) W' ∧ KpC Bs W0 W W') ∨ (e = .returned (.bool false) ∧ Jx (pre ++ [x]) W'))
    (W : World) (hBs : Boxed W Bs 9 (.string s)) (h0 : J [] W) :
    CallsIn Fence.wide n Tryz.prog 87 #[.func (.yield l) #[] #[], .pointer (some ⟨Bs, 0, none⟩)] W fun e W' => (∃ v, e = .returned v) ∧
      ((∃ xs : List It, xs.map Prod.fst = rowC s.data.toList 257 0 ∧ J xs W') ∨ (∃ pre : List It, pre.map Prod.fst <+: rowC s.data.toList 257 0 ∧ Jx pre W')) := by
  refine callsIn_of_wp Tryz.func87 rfl trivial ?_ rfl
  simp only [Tryz.ntmps87, List.size_toArray, List.length_cons, List.length_nil, Nat.reduceAdd, Nat.reduceSub, Array.replicate_succ, Array.replicate_zero, List.push_toArray, List.append_toArray, List.nil_append, List.cons_append]
  gi_wp2
  gi_loopw [3] (fun x wr => ∃ (c : Nat) (pre : List It), c ≤ s.size + 1 ∧ pre.length ≤ c ∧ x = .int .i64 c ∧ J pre wr ∧ Boxed wr Bs 9 (.string s) ∧
      Hid (rowC s.data.toList 257 0 = pre.map Prod.fst ++ rowC s.data.toList (257 - pre.length) c))
    (fun x _ => 258 - (intOf x).toNat)
  case atStart => exact ⟨0, [], by omega, by simp, rfl, h0, hBs, rfl⟩
  case round =>
    obtain ⟨c, pre, hc, hp, rfl, hJs, bS, HR⟩ := hrel
    have cS := bS.cell
    by_cases hcs : c ≤ s.size
    · have hz := skL_le s.data.toList c (by rw [len_data]; exact hcs)
      rw [len_data] at hz
      have RN := fun W => Run_any s (c : Int) 6 W (by unfold maxLen; omega)
      have hr : runI s.data.toList (c : Int) 6 = ((skL s.data.toList c : Nat) : Int) := by rw [runI_in s c 6 hcs]; unfold skL; omega
      rw [hr] at RN
      have RC := fun W => readClause_any s (skL s.data.toList c) W hs hz.2
      have hend := fun h => clP_ok (l := s.data.toList) (a := skL s.data.toList c) (by rw [len_data]; exact hz.2) h
      rw [len_data] at hend
      obtain ⟨f, hf⟩ : ∃ f, 257 - pre.length = f + 1 := ⟨256 - pre.length, by omega⟩
      rw [hf] at HR
      have hB := fun h => rowC_bad (n := f) (l := s.data.toList) (a := c) (by rw [len_data]; exact hcs) h
      have hG := fun h => rowC_go (n := f) (l := s.data.toList) (a := c) (by rw [len_data]; exact hcs) h
      generalize clP s.data.toList (skL s.data.toList c) = X at *
      generalize skL s.data.toList c = q at *
      have hcb : decide ((c : Int) ≤ (s.size : Int)) = true := by simp; omega
      have HRN := hide RN
      have HRC := hide RC
      have HEND := hide hend
      have HB := hide hB
      have HG := hide hG
      clear RN RC hend hB hG hr
      gi_wp2
      refine wpIn_mono (Q := fun e a' W' => e = .normal ∧ ∃ (B : Nat) (vr vl : Value), a' = { tmps := #[.func (.yield l) #[] #[], .pointer (some ⟨Bs, 0, none⟩), undef, .int .i64 (c : Int), .pointer (some ⟨B, 0, none⟩), .int .i64 (c : Int), .string s, .int .i64 (s.size : Int), .bool true, .string s, .string s, .int .i64 (c : Int), .int .i64 (q : Int), .agg (clV X vr vl), u14, u15, u16, u17, u18, u19, u20], defers := [] } ∧
        Made wr X W' B vr vl) ?reg2 ?rest2
      case reg2 =>
        have hlt := bS.lt
        refine wpIn_wide.2 ?_
        go_region_held3 (fun w' => w'.cell? ⟨Bs, 0, none⟩ = some (.string s)) (go_keep)
          ((first
            | (go_at_call 60; refine (HRN.out _).mono ?_; rintro e w3 ⟨rfl, rfl⟩)
            | (go_at_call 88; refine (HRC.out _).mono ?_; rintro e w4 ⟨b4, vr, vl, rfl, t1, t2, f1, f2⟩
               have d1 : w4.cell? ⟨Bs, 0, none⟩ = some (.string s) := by first | exact (boxed_below (W := wr.drew) bS b4).cell | exact (boxed_below (Boxed.alloc (W := wr.drew) bS _) b4).cell
               first
                 | (have hA := put_ahead rfl b4 t1 t2 f1 f2
                    obtain ⟨V', hst, HQ⟩ := hA
                    have d2 : V'.cell? ⟨Bs, 0, none⟩ = some (.string s) := (boxed_below bS HQ.out.1).cell)
                 | (have hA := put_behind (Z := #[.string ⟨#[]⟩, .nilFunc, .nilFunc, .bool false, .string ⟨#[]⟩, .slice none 0 0, .int .u8 0, .string ⟨#[]⟩, .bool false, .string ⟨#[]⟩, .bool false, .string ⟨#[]⟩, .slice none 0 0, .string ⟨#[]⟩, .bool false, .int .i64 0, .int .i64 0, .int .i64 0]) rfl b4 t1 t2 f1 f2
                    obtain ⟨V', hst, HQ⟩ := hA
                    have d2 : V'.cell? ⟨Bs, 0, none⟩ = some (.string s) := (boxed_below bS HQ.out.1).cell))
            | fail))
        all_goals exact ⟨rfl, _, _, _, rfl, HQ.out⟩
      case rest2 =>
        rintro _ _ W2 ⟨rfl, B, vr, vl, rfl, hb, hB, eB, t1, t2, f1, f2⟩
        have hJ1 := hJ pre wr W2 none hJs (grown_below hb) (fun r e => by cases e)
        have bS1 := boxed_below bS hb
        have hpre : pre.map Prod.fst ++ [X] <+: rowC s.data.toList 257 0 := by
          by_cases hx : X.er = 0
          · exact pre_app _ (by rw [HR.out, HG.out hx])
          · exact pre_app [] (by rw [HR.out, HB.out hx])
        have Y0 := hY pre (X, vr, vl) wr W2 hJs hJ1 hb ⟨hpre, t1, t2, f1, f2⟩
        unfold encC clV at Y0
        dsimp only at Y0
        obtain ⟨fn, tmps, assign, body, hy, hRd⟩ := Y0
        have HEB := hide eB
        unfold clV at eB
        obtain ⟨r1, c1, rfl, _⟩ := id t1
        obtain ⟨q1, d1, rfl, _⟩ := id t2
        obtain ⟨x0, x1, x2, x3, x4, x5, x6, x7, x8, x9, x10, x11, x12, x13, x14, x15, x16, x17, _⟩ := seen18v eB
        clear t1 t2 f1 f2 hb eB
        gi_wp2
        refine hRd.mono ?_
        rintro e' W5 (⟨rfl, herr, hJ5, hK5⟩ | ⟨rfl, hJx5⟩)
        · obtain ⟨hen1, hen2⟩ := HEND.out herr
          have bS5 : Boxed W5 Bs 9 (.string s) := hK5.2.trans bS1
          have cE : W5.cell? ⟨B, 16, none⟩ = some (.int .i64 (X.e : Int)) := cell_at 16 (hK5.1 B _ _ _ hB HEB.out) rfl
          have HQ : Hid (rowC s.data.toList 257 0 = (pre ++ [(X, Value.slice r1 X.x.rel.length c1, Value.slice q1 X.x.loc.length d1)]).map Prod.fst ++ rowC s.data.toList f (X.e + 1)) := by
            show _ = _
            rw [HR.out, HG.out herr]
            simp
          clear x0 x1 x2 x3 x4 x5 x6 x7 x8 x9 x10 x11 x12 x13 x14 x15 x16 x17 hy hRd
          gi_wp2
          go_roundw
          case rel => exact ⟨X.e + 1, pre ++ [(X, .slice r1 X.x.rel.length c1, .slice q1 X.x.loc.length d1)], by omega, by simp; omega, by go_num, hJ5, bS5, by show _ = _; rw [HQ.out, show 257 - (pre ++ [((X, .slice r1 X.x.rel.length c1, .slice q1 X.x.loc.length d1) : It)]).length = f by simp; omega]⟩
          case measure => simp [intOf]; omega
        · gi_wp2
          refine bodyPost_ret (results_none rfl _ _ _) rfl ?_
          exact ⟨⟨_, rfl⟩, .inr ⟨_, by rw [List.map_append]; exact hpre, hJx5⟩⟩
    · have hcb : decide ((c : Int) ≤ (s.size : Int)) = false := by simp; omega
      have he := rowC_end (l := s.data.toList) (a := c) (by rw [len_data]; omega) (257 - pre.length)
      rw [he, List.append_nil] at HR
      gi_wp2
      refine bodyPost_end (results_none rfl _ _ _) rfl ?_
      exact ⟨⟨_, rfl⟩, .inl ⟨pre, HR.out.symm, hJs⟩⟩

end Go.Proofs.YtabmfdedbpmfmaaGreat

namespace Go.Proofs.YtabmfdedbpmfmaaGreat
open Go.RowKit Go.Shelf
set_option linter.unusedVariables false

def KeepA (A : Nat → Prop) (W W' : World) : Prop :=
  W.heap.size ≤ W'.heap.size ∧ ∀ (b : Nat) (cs : Array Value) (t : TypeId) (m : Nat × Nat), A b → W.heap[b]? = some (.cells cs t m) → W'.heap[b]? = some (.cells cs t m)
variable {A A' : Nat → Prop}
theorem cell_keepA {W W' : World} {b o : Nat} {u : Value} (h : W.cell? ⟨b, o, none⟩ = some u) (hk : KeepA A W W') (hA : A b) : W'.cell? ⟨b, o, none⟩ = some u := by
  unfold World.cell? at h ⊢
  cases hb : W.heap[b]? with
  | none => simp only [hb] at h; cases h
  | some ob =>
    cases ob with
    | cells cs t m =>
      simp only [hb] at h
      simp only [hk.2 b cs t m hA hb]
      exact h
    | _ => simp only [hb] at h; cases h
theorem keepA_below {W W' : World} (h : Below W.heap.size W W') : KeepA A W W' := ⟨h.size, fun b cs t m _ hh => (h.block b (Array.getElem?_eq_some_iff.1 hh).1).trans hh⟩
theorem KeepA.trans {X Y Z : World} (h : KeepA A X Y) (k : KeepA A Y Z) : KeepA A X Z := ⟨Nat.le_trans h.1 k.1, fun b cs t m hb hh => k.2 b cs t m hb (h.2 b cs t m hb hh)⟩
theorem KeepA.at_ {W W' : World} {B : Nat} {cs : Array Value} {t : TypeId} {m : Nat × Nat} (hk : KeepA A W W') (hA : A B) (h : W.heap[B]? = some (.cells cs t m)) : W'.heap[B]? = some (.cells cs t m) := hk.2 _ _ _ _ hA h
theorem set_size (W : World) (p : Addr) (v : Value) : (W.setCell p v).heap.size = W.heap.size := Array.size_modify
theorem keepA_set (W : World) (B o : Nat) (v : Value) (h : ∀ b, A b → b ≠ B) : KeepA A W (W.setCell ⟨B, o, none⟩ v) := ⟨by rw [set_size]; exact Nat.le_refl _, fun b cs t m hb hh => (Below.heap_setCell _ _ _ b (h b hb)).trans hh⟩
theorem keepA_own {B0 : Nat} {W W' : World} {row : Option Nat} (hg : W.grownBy W' row) (hr : ∀ r, row = some r → B0 ≤ r ∧ ∃ o : Obj, W.heap[r]? = some o ∧ o.isCells = false) : KeepA A W W' := by
  refine ⟨hg.size, fun b cs t m _ hh => (hg.block b (Array.getElem?_eq_some_iff.1 hh).1 (fun e => ?_)).trans hh⟩
  obtain ⟨_, o, ho, hc⟩ := hr b e.symm
  rw [hh] at ho
  cases ho
  cases hc
theorem keepA_grown {W W' : World} {r : Option Nat} (hg : W.grownBy W' r) (h : ∀ b, A b → r ≠ some b) : KeepA A W W' :=
  ⟨hg.size, fun b cs t m hb hh => (hg.block b (Array.getElem?_eq_some_iff.1 hh).1 (fun e => h b hb e.symm)).trans hh⟩
def Aw (A : Nat → Prop) (u : Value) : Prop := ∀ p n c, u = .slice (some p) n c → (n = 0 ∨ A p.block) ∧ n ≤ c
theorem aw_txt {W : World} {u : Value} {ts : List (List UInt8)} (h : Txt W u ts) (hc : Aw A u) : ts = [] ∨ ∃ cap b off, u = .slice (some ⟨b, off, none⟩) ts.length cap ∧ b < W.heap.size ∧ A b ∧ ∀ i (h : i < ts.length), W.cell? ⟨b, off + i, none⟩ = some (.string (ofL ts[i])) := by
  obtain ⟨a, cap, hv, h0 | ⟨b, off, ha, hlt, hcl⟩⟩ := h
  · exact .inl h0
  · rcases (hc _ _ _ (by rw [hv, ha])).1 with h | h
    · exact .inl (List.length_eq_zero_iff.1 h)
    · exact .inr ⟨cap, b, off, by rw [hv, ha], hlt, h, hcl⟩
theorem txt_keepA {W W' : World} {u : Value} {ts : List (List UInt8)} (h : Txt W u ts) (hc : Aw A u) (hk : KeepA A W W') : Txt W' u ts := by
  rcases aw_txt h hc with rfl | ⟨cap, b, off, rfl, hlt, hA, hcl⟩
  · obtain ⟨a, cap, hv, _⟩ := h
    exact ⟨a, cap, hv, .inl rfl⟩
  · exact ⟨_, cap, rfl, .inr ⟨b, off, rfl, Nat.lt_of_lt_of_le hlt hk.1, fun i hi => cell_keepA (hcl i hi) hk hA⟩⟩
theorem aw_to {W : World} {u : Value} {ts : List (List UInt8)} (h : Txt W u ts) (hc : Aw A u) (hA : ∀ b, A b → b < W.heap.size → A' b) : Aw A' u := by
  rcases aw_txt h hc with rfl | ⟨cap, b, off, rfl, hlt, hb, hcl⟩
  · obtain ⟨a, cap, hv, _⟩ := h
    intro p n c e
    have h2 := (hc p n c e).2
    rw [hv] at e
    cases e
    exact ⟨.inl rfl, h2⟩
  · intro p n c e
    have h2 := (hc p n c e).2
    cases e
    exact ⟨.inr (hA b hb hlt), h2⟩
theorem aw_fresh {n : Nat} {u : Value} (h : FreshC n u) (hA : ∀ b, n ≤ b → A b) : Aw A u := fun p k c e => ⟨.inr (hA _ (h p k c e).1), (h p k c e).2⟩
theorem ownA_keep {W W' : World} {base : Nat} {e : TypeId} {size : Nat} {v : Value} {n : Nat} {xs : List Value} (h : W.ownsRow base e size v n xs) (hk : KeepA A W W') (hA : ∀ g, v.ownBlock = some g → A g) : W'.ownsRow base e size v n xs := by
  refine ⟨h.1, ?_⟩
  rcases h.2 with h2 | ⟨g, cap, cur, hv, hg, hh, r⟩
  · exact .inl h2
  · exact .inr ⟨g, cap, cur, hv, hg, hk.2 g _ _ _ (hA g (by rw [hv]; rfl)) hh, r⟩
theorem ownA_lt {W : World} {base : Nat} {e : TypeId} {size : Nat} {v : Value} {n : Nat} {xs : List Value} (h : W.ownsRow base e size v n xs) : ∀ g, v.ownBlock = some g → base ≤ g ∧ g < W.heap.size := by
  intro g hg
  rcases h.2 with ⟨rfl, _⟩ | ⟨g', cap, cur, rfl, hb, hh, r⟩
  · cases hg
  · simp only [Value.ownBlock, Option.some.injEq] at hg
    subst hg
    exact ⟨hb, (Array.getElem?_eq_some_iff.1 hh).1⟩
theorem ownA_cells {W : World} {base : Nat} {e : TypeId} {size : Nat} {v : Value} {n : Nat} {xs : List Value} (h : W.ownsRow base e size v n xs) :
    ∃ a c, v = .slice a n c ∧ (n = 0 ∨ ∃ g, a = some ⟨g, 0, none⟩ ∧ g < W.heap.size ∧ ∀ j u, xs[j]? = some u → W.cell? ⟨g, j, none⟩ = some u) := by
  rcases h.2 with ⟨rfl, h0⟩ | ⟨g, cap, cur, rfl, hb, hh, _, _, _, ht⟩
  · exact ⟨none, 0, by rw [h0], .inl h0⟩
  · refine ⟨_, cap, rfl, .inr ⟨g, rfl, (Array.getElem?_eq_some_iff.1 hh).1, fun j u hj => ?_⟩⟩
    rw [← ht] at hj
    rw [List.getElem?_take] at hj
    split at hj
    · exact cell_at j hh (by simpa using hj)
    · cases hj

end Go.Proofs.YtabmfdedbpmfmaaGreat

namespace Go.Proofs.YtabmfdedbpmfmaaGreat
open Go.RowKit Go.Shelf
set_option linter.unusedVariables false

variable {A A' : Nat → Prop}
def clL (x : It) : List Value := (clV x.1 x.2.1 x.2.2).toList
theorem clL_len (x : It) : (clL x).length = 18 := rfl
def TxC (A : Nat → Prop) (W : World) (x : It) : Prop := Txt W x.2.1 x.1.x.rel ∧ Txt W x.2.2 x.1.x.loc ∧ Aw A x.2.1 ∧ Aw A x.2.2
theorem TxC.keep {W W' : World} {x : It} (h : TxC A W x) (hk : KeepA A W W') (hA : ∀ b, A b → b < W.heap.size → A' b) : TxC A' W' x :=
  ⟨txt_keepA h.1 h.2.2.1 hk, txt_keepA h.2.1 h.2.2.2 hk, aw_to h.1 h.2.2.1 hA, aw_to h.2.1 h.2.2.2 hA⟩
def ClsV (Z : Nat) (W : World) (v : Value) (its : List It) : Prop :=
  W.ownsRow Z 61 18 v its.length (its.flatMap clL) ∧ ∀ x ∈ its, TxC (fun b => Z ≤ b ∧ v.ownBlock ≠ some b) W x
theorem ClsV.nil (Z : Nat) (W : World) : ClsV Z W (.slice none 0 0) [] := ⟨World.ownsRow_nil _ _ _ _, fun x h => by cases h⟩
theorem ClsV.keep {Z : Nat} {W W' : World} {v : Value} {its : List It} (h : ClsV Z W v its) (hk : KeepA (fun b => Z ≤ b) W W') : ClsV Z W' v its :=
  ⟨ownA_keep h.1 hk (fun g hg => (ownA_lt h.1 g hg).1), fun x hx => (h.2 x hx).keep ⟨hk.1, fun b cs t m hb => hk.2 b cs t m hb.1⟩ (fun b hb _ => hb)⟩
theorem ClsV.fresh {Z n : Nat} {W : World} {v : Value} {its : List It} {x : It} (h : ClsV Z W v its) (hz : Z ≤ W.heap.size) (hn : W.heap.size ≤ n) (h1 : FreshC n x.2.1) (h2 : FreshC n x.2.2) : Aw (fun b => Z ≤ b ∧ v.ownBlock ≠ some b) x.2.1 ∧ Aw (fun b => Z ≤ b ∧ v.ownBlock ≠ some b) x.2.2 := by
  have h3 : ∀ b, n ≤ b → Z ≤ b ∧ v.ownBlock ≠ some b := fun b hb => ⟨by omega, fun e => by have := (ownA_lt h.1 b e).2; omega⟩
  exact ⟨aw_fresh h1 h3, aw_fresh h2 h3⟩
theorem ClsV.snoc {Z : Nat} {W W' : World} {v v' : Value} {its : List It} {x : It} (h : ClsV Z W v its) (hx : TxC (fun b => Z ≤ b ∧ v.ownBlock ≠ some b) W x) (ho : W'.ownsRow Z 61 18 v' (its.length + 1) (its.flatMap clL ++ clL x))
    (hg : W.grownBy W' v.ownBlock) (hp : v'.ownBlock = v.ownBlock ∨ v'.ownBlock = some W.heap.size) : ClsV Z W' v' (its ++ [x]) := by
  have hk : KeepA (fun b => Z ≤ b ∧ v.ownBlock ≠ some b) W W' := keepA_grown hg (fun b hb => hb.2)
  have hA : ∀ b, (Z ≤ b ∧ v.ownBlock ≠ some b) → b < W.heap.size → (Z ≤ b ∧ v'.ownBlock ≠ some b) := by
    rintro b ⟨hb1, hb2⟩ hb3
    refine ⟨hb1, ?_⟩
    rcases hp with hp | hp
    · rw [hp]; exact hb2
    · rw [hp]; intro e; simp only [Option.some.injEq] at e; omega
  refine ⟨by simpa [List.flatMap_append] using ho, fun y hy => ?_⟩
  rcases List.mem_append.1 hy with hy | hy
  · exact (h.2 y hy).keep hk hA
  · simp at hy; subst hy; exact hx.keep hk hA

end Go.Proofs.YtabmfdedbpmfmaaGreat

namespace Go.Proofs.YtabmfdedbpmfmaaGreat
open Go.RowKit Go.Shelf
set_option linter.unusedVariables false

set_option maxRecDepth 100000 in
set_option maxHeartbeats 1000000 in
theorem clauses_any (s : ByteArray) (w : World) : Calls Tryz.prog 61 #[.string s] w fun e w' => e = .returned (.func (.func 87) #[] #[.pointer (some ⟨w.heap.size, 0, none⟩)]) ∧ w' = w.alloc (.cells #[.string s] 9) := by
  go_enter Tryz.func61, Tryz.ntmps61
  go_wp2_with fail
  go_ret
  exact ⟨rfl, rfl⟩
theorem size32 : (Tryz.prog.info? 32).map (·.size) = some 3 := by kernel_rfl
theorem three_put {W : World} {B : Nat} {z0 z1 z2 : Value} (h : W.heap[B]? = some (.cells #[z0, z1, z2] 32 (0, 0))) (a0 a1 a2 : Value) :
    ∃ W', W' = ((W.setCell ⟨B, 0, none⟩ a0).setCell ⟨B, 1, none⟩ a1).setCell ⟨B, 2, none⟩ a2 ∧ W'.heap[B]? = some (.cells #[a0, a1, a2] 32 (0, 0)) ∧ Turn B W W' := by
  refine ⟨putL W B 0 [a0, a1, a2], rfl, ?_, putL_turn _ W B 0⟩
  have k := putL_heap [a0, a1, a2] W B 0 _ _ h
  have hc : fillA #[z0, z1, z2] 0 [a0, a1, a2] = #[a0, a1, a2] := by simp [fillA]
  rwa [hc] at k
set_option maxRecDepth 100000 in
set_option maxHeartbeats 4000000 in
theorem plain_cl (x : PepL) (r1 q1 : Option Addr) (c1 d1 : Nat) (sg t : ByteArray) (f g : Value) (o st : Bool) (a b er : Int) (w : World) :
    Calls Tryz.prog 30 #[.agg #[.string sg, f, g, .bool o, .string (ofL x.ep), .slice r1 x.rel.length c1, .int .u8 x.c, .string (ofL x.n), .bool x.b, .string (ofL x.m), .bool x.d, .string (ofL x.k), .slice q1 x.loc.length d1, .string t, .bool st, .int .i64 a, .int .i64 b, .int .i64 er]] w fun e w' => e = .returned (.agg #[.string sg, .string t, .bool st]) ∧ Below w.heap.size w w' := by
  obtain ⟨V, hV, n1, n2, bV, sV⟩ := two_new w #[.string sg, f, g, .bool o, .string (ofL x.ep), .slice r1 x.rel.length c1, .int .u8 x.c, .string (ofL x.n), .bool x.b, .string (ofL x.m), .bool x.d, .string (ofL x.k), .slice q1 x.loc.length d1, .string t, .bool st, .int .i64 a, .int .i64 b, .int .i64 er] #[.string ⟨#[]⟩, .string ⟨#[]⟩, .bool false] 61 32
  obtain ⟨s0, s1, s2, s3, s4, s5, s6, s7, s8, s9, s10, s11, s12, s13, s14, s15, s16, s17, s_0, s_1, s_2, s_3, s_4, s_5, s_6, s_7, s_8, s_9, s_10, s_11, s_12, s_13, s_14, s_15, s_16, s_17⟩ := seen18v n1
  have x0 := cell_at 0 n2 rfl
  have x1 := cell_at 1 n2 rfl
  have x2 := cell_at 2 n2 rfl
  have y0 := one_free 0 n2
  have y1 := one_free 1 n2
  have y2 := one_free 2 n2
  obtain ⟨W9, hW9, h9, T9⟩ := three_put n2 (.string sg) (.string t) (.bool st)
  have HW9 := hide hW9
  have H9 := hide h9
  have HB := hide (bV.trans (T9.below (by omega) bV.size))
  clear n1 n2 bV hW9 h9 T9
  go_enter Tryz.func30, Tryz.ntmps30
  go_wp2_with fail
  rw [← HW9.out]
  refine bodyPost_ret (results_cell_row rfl _ _ (w.heap.size + 1) 32 _ (0, 0) _ rfl H9.out Tryz.underlying32 rfl size32) rfl ?_
  exact ⟨rfl, HB.out⟩

end Go.Proofs.YtabmfdedbpmfmaaGreat
