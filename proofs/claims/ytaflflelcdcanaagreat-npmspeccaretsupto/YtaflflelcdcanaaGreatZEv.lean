/-
  A loop over an iterator whose items lie in memory: the iterator pays a condition on the item and the world, the round is given it. · Walks: the iterator over a row of parts. · Walks: the iterator over a from-to. · Walks: the parts of a set, as an iterator.
-/
import Derived.Test.YtaflflelcdcanaaGreatZEr
import Derived.Test.YtaflflelcdcanaaGreatZSd
import Derived.RangeFuncNested
import Derived.RangeFuncBound
import Derived.RangeFuncCalls
import Derived.RangeFuncLeaves
import Derived.Shelf.Abstract
import Derived.Shelf.RegionOpen
import Derived.OwnWalkIn
import Derived.TacticsInMore
import Derived.LoopNIn
import Derived.LoopIn
import Derived.Sort.QuietIn
import Derived.IntWalk
namespace Go.Proofs.YtaflflelcdcanaaGreat
open Go.RowKit Go.Shelf
set_option linter.unusedVariables false

/-- The loop's own two blocks: its record, and the block of deferred calls. -/
def Book (l D : Nat) (r : Loop) (W : World) : Prop := W.heap[l]? = some (.loop r) ∧ W.heap[D]? = some (.deferred (some []))
theorem Book.grown {l D : Nat} {r : Loop} {A B : World} {row : Option Nat} (h : Book l D r A) (hg : A.grownBy B row) (hr : ∀ k, row = some k → ∃ o : Obj, A.heap[k]? = some o ∧ o.isWalk = true) : Book l D r B :=
  ⟨(grownBy_keeps hg hr h.1 rfl).trans h.1, (grownBy_keeps hg hr h.2 rfl).trans h.2⟩
theorem Book.keeps {l D n : Nat} {r : Loop} {A B : World} (h : Book l D r A) (hk : KeepsFrom n A B) (h1 : n ≤ l) (h2 : n ≤ D) : Book l D r B :=
  ⟨hk.same l _ h1 h.1 rfl, hk.same D _ h2 h.2 rfl⟩
theorem Book.turn {l D : Nat} {r : Loop} {A : World} (h : Book l D r A) (hne : l ≠ D) (r' : Loop) : Book l D r' (A.putObj l (.loop r')) :=
  ⟨World.putObj_heap_same (Array.getElem?_eq_some_iff.1 h.1).1, (World.putObj_heap_other (Ne.symm hne)).trans h.2⟩

/-- What an iterator does: it hands out items, each under its condition, till it has ended or the loop's body bids it stop. -/
def SeqC {α : Type} (F : Fence) (n : Nat) (P : Program) (g : Nat) (lb : Array Value) (encs : α → Array Value) (C : List α → α → World → World → Prop) (G : α → Prop) (Kp : World → World → Prop) (S Sp : List α → Prop) (w : World) : Prop :=
  ∀ (l : Nat) (J Jx : List α → World → Prop) (W : World), Below w.heap.size w W → AbidesFrom W.heap.size J → AbidesFrom W.heap.size Jx →
    (∀ pre x W0 W1, J pre W0 → J pre W1 → Below W0.heap.size W0 W1 → C pre x W0 W1 → YieldAt F (n - 1) P l (encs x) W1 fun e W' => (e = .returned (.bool true) ∧ G x ∧ J (pre ++ [x]) W' ∧ Kp W1 W') ∨ (e = .returned (.bool false) ∧ Jx (pre ++ [x]) W')) →
    J [] W → CallsIn F n P g (#[.func (.yield l) #[] #[]] ++ lb) W fun e W' => (∃ v, e = .returned v) ∧ ((∃ xs, S xs ∧ J xs W') ∨ (∃ pre, Sp pre ∧ Jx pre W'))

theorem range_cond {F : Fence} {n : Nat} {P : Program} {α : Type} {g : Operand} {ps : Array Tmp} {assign body : Code} {Q : Exit → Act → World → Prop} {a : Act} {w : World}
    (hro : F.round = none) (h1 : 1 ≤ n) {gf : Nat} {lb : Array Value} (hg : a.eval g = .func (.func gf) #[] lb) (hF : F.fn gf) (eg : ∀ args w, (callFunc gf args).run P w = .ok (.enter gf args) w)
    {encs : α → Array Value} {C : List α → α → World → World → Prop} {G : α → Prop} {Kp : World → World → Prop} {S Sp : List α → Prop} {w0 : World} (hseq : SeqC F (n - 1) P gf lb encs C G Kp S Sp w0) (hw0 : Below w0.heap.size w0 w)
    (hKt : ∀ {A B D : World}, Kp A B → Kp B D → Kp A D) (hKb : ∀ (W : World) (l : Nat) (o o' : Obj), w.heap.size ≤ l → W.heap[l]? = some o → o.isCells = false → o.isWalk = false → Kp W (W.putObj l o'))
    (hps : ∀ x, (encs x).size = ps.size) (I : List α → World → Prop) (Ix : Code → List α → World → Prop) (hI : OwnFrom w.heap.size I) (hIx : ∀ c, OwnFrom w.heap.size (Ix c)) (h0 : I [] w) (hG : ∀ pre x W, I (pre ++ [x]) W → G x)
    (Ax : List α → α → Act → World → Prop) (hAx : ∀ pre x b, OwnFrom w.heap.size (fun (_ : Unit) W => Ax pre x b W))
    (hassign : ∀ (l : Nat) (pre : List α) (x : α) (W0 W : World) (K : Act → World → Prop), I pre W0 → I pre W → Below W0.heap.size W0 W → C pre x W0 W → (∀ b W', KeepsFrom w.heap.size W W' → Kp W W' → I pre W' → Ax pre x b W' → K b W') →
      assign.wpIn (F.inRound l) (n - 1 - 1) P (Exit.then K (fun _ _ _ => False)) ⟨(ps.zip (encs x)).foldl (fun t (p, v) => t.setIfInBounds p v) a.tmps, []⟩ W)
    (hbody : ∀ (l : Nat) (pre : List α) (x : α) (b : Act) (W : World), w.heap.size ≤ l → (∃ r, W.heap[l]? = some (.loop r)) → I pre W → Ax pre x b W → body.wpIn (F.inRound l) (n - 1 - 1) P (ownPostG w.heap.size Kp I Ix (pre ++ [x]) W) b W)
    (hdone : ∀ (D : Nat) (xs : List α) (W : World), w.heap.size ≤ D → S xs → I xs W → W.heap[D]? = some (.deferred (some [])) → Q .normal ⟨a.tmps, ⟨.collected D, #[]⟩ :: a.defers⟩ W)
    (hstop : ∀ (D : Nat) (c : Code) (pre : List α) (W : World), w.heap.size ≤ D → Sp pre → Ix c pre W → W.heap[D]? = some (.deferred (some [])) → c.wpIn F n P Q ⟨a.tmps, ⟨.collected D, #[]⟩ :: a.defers⟩ W) :
    (Code.rangeFunc g ps assign body).wpIn F n P Q a w := by
  refine wpIn_rangeFunc fun fn hfn => ?_
  rw [hro]
  -- the record in its states
  let R : LoopState → Option Code → Loop := fun st pe => ⟨st, pe, fn, a.tmps, ps, assign, body, w.heap.size⟩
  have hne : w.heap.size + 1 ≠ w.heap.size := by omega
  have hbk : Book (w.heap.size + 1) w.heap.size (R .ready none) ((w.alloc (.deferred (some []))).alloc (.loop (R .ready none))) :=
    ⟨by have := World.alloc_heap_new (w.alloc (.deferred (some []))) (.loop (R .ready none)); rwa [World.size_alloc] at this, (Below.heap_alloc _ _ _ (by simp)).trans (World.alloc_heap_new w _)⟩
  refine ⟨w.heap.size + 1, [⟨.collected w.heap.size, #[]⟩], ((w.alloc (.deferred (some []))).alloc (.loop (R .ready none))), ⟨.fn (.func gf) lb, #[.func (.yield (w.heap.size + 1)) #[] #[]]⟩, ((w.alloc (.deferred (some []))).alloc (.loop (R .ready none))), gf, #[.func (.yield (w.heap.size + 1)) #[] #[]] ++ lb, ((w.alloc (.deferred (some []))).alloc (.loop (R .ready none))), run_enterLoop_outer fn a.tmps ps assign body, ?_, ?_, ?_, fun _ => h1, ?_⟩
  · simp only [resolve, hg]
    simp [go_sem]
  · intro f hf
    simp [Target.leads] at hf
    subst hf
    exact hF
  · simp [invoke, go_sem, eg]
  have hsz : ((w.alloc (.deferred (some []))).alloc (.loop (R .ready none))).heap.size = w.heap.size + 2 := by simp
  have hst : Below w0.heap.size w0 ((w.alloc (.deferred (some []))).alloc (.loop (R .ready none))) := hw0.trans ((((Below.refl _ w).alloc (Nat.le_refl _) _).alloc (by simp) _).mono hw0.size)
  have hi0 : I [] ((w.alloc (.deferred (some []))).alloc (.loop (R .ready none))) := hI.alloc _ (hI.alloc _ h0)
  change CallsIn F (n - 1) P gf _ ((w.alloc (.deferred (some []))).alloc (.loop (R .ready none))) _
  generalize (w.alloc (.deferred (some []))).alloc (.loop (R .ready none)) = V at *
  have hrow : ∀ {A : World} {row : Option Nat}, (∀ r, row = some r → V.heap.size ≤ r ∧ ∃ o : Obj, A.heap[r]? = some o ∧ o.isWalk = true) → ∀ r, row = some r → w.heap.size ≤ r ∧ ∃ o : Obj, A.heap[r]? = some o ∧ o.isCells = false := by
    intro A row h r e
    obtain ⟨hr, o, ho, hw⟩ := h r e
    exact ⟨by omega, o, ho, Obj.not_cells_of_walk hw⟩
  refine (hseq (w.heap.size + 1) (fun pre W => I pre W ∧ Book (w.heap.size + 1) w.heap.size (R .ready none) W) (fun pre W => ∃ c, Ix c pre W ∧ Book (w.heap.size + 1) w.heap.size (R .done (some c)) W) V hst
    (fun s A B row h hgr hr => ⟨hI s A B row h.1 hgr (hrow hr), h.2.grown hgr (fun r e => (hr r e).2)⟩)
    (fun s A B row h hgr hr => by obtain ⟨c, hc, hb⟩ := h; exact ⟨c, hIx c s A B row hc hgr (hrow hr), hb.grown hgr (fun r e => (hr r e).2)⟩) ?round ⟨hi0, hbk⟩).mono ?after
  case after =>
    rintro e W ⟨⟨v, rfl⟩, ⟨xs, hS, hi, hb⟩ | ⟨pre, hS, c, hi, hb⟩⟩
    · exact ⟨none, _, run_endLoop (P := P) hb.1 (by simp [R]), hdone _ xs _ (Nat.le_refl _) hS (hI.putObj _ hi (by omega) hb.1 rfl) (hb.turn hne _).2⟩
    · exact ⟨some c, _, run_endLoop (P := P) hb.1 (by simp [R]), hstop _ c pre _ (Nat.le_refl _) hS ((hIx c).putObj _ hi (by omega) hb.1 rfl) (hb.turn hne _).2⟩
  case round =>
    rintro pre x W0 W ⟨hi9, _⟩ ⟨hi, hb⟩ hbl hc
    refine ⟨fn, _, assign, body, run_yield (P := P) (args := encs x) hb.1 (hps x), roundIn_of_wpIn hfn (hassign _ pre x W0 W _ hi9 hi hbl hc ?_)⟩
    intro b V1 hk1 hp1 hi1 ha1
    have hb1 := hb.keeps hk1 (Nat.le_succ _) (Nat.le_refl _)
    refine ⟨_, run_beginRound (P := P) hb1.1 rfl, ?_⟩
    have hb2 := hb1.turn hne { R .ready none with state := .busy }
    refine wpIn_mono (hbody _ pre x b _ (Nat.le_succ _) ⟨_, hb2.1⟩ (hI.putObj _ hi1 (by omega) hb1.1 rfl) ((hAx pre x b).putObj (s := ()) _ ha1 (by omega) hb1.1 rfl)) ?_
    have hp2 := hKb V1 (w.heap.size + 1) (.loop (R .ready none)) (.loop { R .ready none with state := .busy }) (by omega) hb1.1 rfl rfl
    intro e b3 V3 hp
    cases e with
    | normal =>
      obtain ⟨hk3, hp3, hi3⟩ := hp
      have hb3 := hb2.keeps hk3 (Nat.le_succ _) (Nat.le_refl _)
      exact ⟨_, _, run_endRound (P := P) none hb3.1, .inl ⟨rfl, hG _ _ _ hi3, ⟨hI.putObj _ hi3 (by omega) hb3.1 rfl, hb3.turn hne _⟩, hKt hp1 (hKt (hKt hp2 hp3) (hKb _ _ _ _ (by omega) hb3.1 rfl rfl))⟩⟩
    | ret =>
      obtain ⟨hk3, hi3⟩ := hp
      have hb3 := hb2.keeps hk3 (Nat.le_succ _) (Nat.le_refl _)
      exact ⟨_, _, run_endRound (P := P) (some .ret) hb3.1, .inr ⟨rfl, .ret, (hIx _).putObj _ hi3 (by omega) hb3.1 rfl, hb3.turn hne _⟩⟩
    | exit id =>
      obtain ⟨hk3, hi3⟩ := hp
      have hb3 := hb2.keeps hk3 (Nat.le_succ _) (Nat.le_refl _)
      exact ⟨_, _, run_endRound (P := P) (some (.exit id)) hb3.1, .inr ⟨rfl, .exit id, (hIx _).putObj _ hi3 (by omega) hb3.1 rfl, hb3.turn hne _⟩⟩
    | goto t =>
      obtain ⟨hk3, hi3⟩ := hp
      have hb3 := hb2.keeps hk3 (Nat.le_succ _) (Nat.le_refl _)
      exact ⟨_, _, run_endRound (P := P) (some (.goto t)) hb3.1, .inr ⟨rfl, .goto t, (hIx _).putObj _ hi3 (by omega) hb3.1 rfl, hb3.turn hne _⟩⟩
    | panic ch => exact hp.elim
    | outgrown => exact hp.elim

end Go.Proofs.YtaflflelcdcanaaGreat

namespace Go.Proofs.YtaflflelcdcanaaGreat
open Go.RowKit Go.Shelf
set_option linter.unusedVariables false

attribute [local go_sem] Oper.semAt_some

/-- A part that is handed out: a partial, what is asked of it, what is wrong, the place behind it. -/
structure Item where
  p : PartL
  f : Nat
  err : Int
  pos : Int
/-- The part at a place. -/
def itemL (l : List UInt8) (a : Nat) : Item := ⟨(rpL l (opE l a)).1, (opL l a).2, (rpL l (opE l a)).2.2, (rpL l (opE l a)).2.1⟩
/-- The parts from a place on, the first one of number k; the last one may be wrong. -/
def rowG (l : List UInt8) : Nat → Nat → Nat → List Item
  | 0, _, _ => []
  | n + 1, k, a => if endsL l a = true then [] else if k = 32 then [⟨partN, 0, 12, (a : Int)⟩] else if (itemL l a).err ≠ 0 then [itemL l a] else itemL l a :: rowG l n (k + 1) (blk l (itemL l a).pos.toNat)
def rowL (l : List UInt8) (a : Nat) : List Item := rowG l 33 0 a
theorem rowG_end {l : List UInt8} {n k a : Nat} (h : endsL l a = true) : rowG l (n + 1) k a = [] := if_pos h
theorem rowG_many {l : List UInt8} {n a : Nat} (h : endsL l a = false) : rowG l (n + 1) 32 a = [⟨partN, 0, 12, (a : Int)⟩] := by
  unfold rowG; rw [if_neg (by rw [h]; decide), if_pos rfl]
theorem rowG_bad {l : List UInt8} {n k a : Nat} (h : endsL l a = false) (hk : k ≠ 32) (he : (itemL l a).err ≠ 0) : rowG l (n + 1) k a = [itemL l a] := by
  unfold rowG; rw [if_neg (by rw [h]; decide), if_neg hk, if_pos he]
theorem rowG_go {l : List UInt8} {n k a : Nat} (h : endsL l a = false) (hk : k ≠ 32) (he : (itemL l a).err = 0) : rowG l (n + 1) k a = itemL l a :: rowG l n (k + 1) (blk l (itemL l a).pos.toNat) := by
  rw [rowG, if_neg (by rw [h]; decide), if_neg hk, if_neg (by rw [he]; decide)]
/-- What is handed to the loop's body. -/
def encI (x : Item × Value) : Array Value := #[partF x.1.p x.2 (fnV x.1.f) x.1.err, .int .i64 x.1.pos]
/-- What holds of it there. -/
def CX (R Z : Nat) (items : List Item) (pre : List (Item × Value)) (x : Item × Value) (W0 W : World) : Prop :=
  pre.map Prod.fst ++ [x.1] <+: items ∧ Txt W x.2 x.1.p.pre ∧ Cap x.2 ∧ ((pre = [] ∧ CapA (fun b => R ≤ b ∧ b < Z) x.2) ∨ Fresh W0.heap.size x.2) ∧ ∃ a n c, x.2 = .slice a n c
theorem grown_below {W W' : World} (h : Below W.heap.size W W') : W.grownBy W' none := ⟨h.os, h.tape, h.output, h.size, fun k hk _ => h.block k hk⟩
theorem boxed_below {W W' : World} {B : Nat} {t : TypeId} {v : Value} (h : Boxed W B t v) (hb : Below W.heap.size W W') : Boxed W' B t v := (hb.block B h.lt).trans h
theorem pre_app {A B : List Item} {x : Item} (r : List Item) (h : A = B ++ x :: r) : B ++ [x] <+: A := ⟨r, by rw [h]; simp⟩

set_option maxRecDepth 100000 in
set_option maxHeartbeats 4000000 in
theorem row1_in (n : Nat) (hn : 1 ≤ n) (l Ba Bs : Nat) (s : ByteArray) (a : Nat) (ha : a ≤ s.size) (hs : s.size ≤ 256) (J Jx : List (Item × Value) → World → Prop) (B0 : Nat) (hJ : AbidesFrom B0 J)
    (R Z : Nat) (hY : ∀ pre x W0 W, J pre W0 → J pre W → Below W0.heap.size W0 W → CX R Z (rowL s.data.toList a) pre x W0 W → YieldAt Fence.wide (n - 1) Tryz.prog l (encI x) W fun e W' =>
      (e = .returned (.bool true) ∧ x.1.err = 0 ∧ J (pre ++ [x]) W' ∧ Two Ba Bs W W') ∨ (e = .returned (.bool false) ∧ Jx (pre ++ [x]) W'))
    (W : World) (hBa : Boxed W Ba 3 (.int .i64 (a : Int))) (hBs : Boxed W Bs 9 (.string s)) (h0 : J [] W) :
    CallsIn Fence.wide n Tryz.prog 89 #[.func (.yield l) #[] #[], .pointer (some ⟨Ba, 0, none⟩), .pointer (some ⟨Bs, 0, none⟩)] W fun e W' => (∃ v, e = .returned v) ∧
      ((∃ xs : List (Item × Value), xs.map Prod.fst = rowL s.data.toList a ∧ J xs W') ∨ (∃ pre : List (Item × Value), pre.map Prod.fst <+: rowL s.data.toList a ∧ Jx pre W')) := by
  have cA0 := hBa.cell
  refine callsIn_of_wp Tryz.func89 rfl trivial ?_ rfl
  simp only [Tryz.ntmps89, List.size_toArray, List.length_cons, List.length_nil, Nat.reduceAdd, Nat.reduceSub, Array.replicate_succ, Array.replicate_zero, List.push_toArray, List.append_toArray, List.nil_append, List.cons_append]
  gi_wp2
  gi_quiet (fail)
  have hJ0 : J [] (W.drewN nq) := hJ [] W (W.drewN nq) none h0 (grown_below (below_drewN _ _ _)) (fun r e => by cases e)
  have hBs0 : Boxed (W.drewN nq) Bs 9 (.string s) := boxed_below hBs (below_drewN _ _ _)
  have hBa0 : Boxed (W.drewN nq) Ba 3 (.int .i64 (a : Int)) := boxed_below hBa (below_drewN _ _ _)
  generalize W.drewN nq = V0 at *
  gi_wp2
  gi_loopw [4, 5] (fun x y wr => ∃ (k c : Nat) (pre : List (Item × Value)), k ≤ 32 ∧ c ≤ s.size ∧ x = .int .i64 k ∧ y = .int .i64 c ∧ J pre wr ∧ Boxed wr Ba 3 (.int .i64 (a : Int)) ∧ Boxed wr Bs 9 (.string s) ∧
      Hid (rowL s.data.toList a = pre.map Prod.fst ++ rowG s.data.toList (33 - k) k c))
    (fun x _ _ => 33 - (intOf x).toNat)
  case atStart => exact ⟨0, a, [], by omega, ha, rfl, rfl, hJ0, hBa0, hBs0, rfl⟩
  case round =>
    obtain ⟨k, c, pre, hk, hc, rfl, rfl, hJs, bA, bS, HR⟩ := hrel
    have cS := bS.cell
    have CE := fun w => setEnds_any s c w hc
    obtain ⟨f, hf⟩ : ∃ f, 33 - k = f + 1 := ⟨32 - k, by omega⟩
    rw [hf] at HR
    cases he : endsL s.data.toList c
    · rw [he] at CE
      have CE := hide CE
      by_cases hk32 : k = 32
      · subst hk32
        rw [rowG_many he] at HR
        have Y0 : YieldAt Fence.wide (n - 1) Tryz.prog l #[.agg #[.string ⟨#[]⟩, .string ⟨#[]⟩, .string ⟨#[]⟩, .slice none 0 0, .slice none 0 0, .int .i64 0, .nilFunc, .int .i64 12], .int .i64 (c : Int)] wr _ := hY pre (⟨partN, 0, 12, (c : Int)⟩, .slice none 0 0) wr wr hJs hJs (Below.refl _ _) ⟨by rw [HR.out]; exact ⟨[], by simp⟩, txt_nil _, capN (txt_nil wr), .inr (by rintro a i c h; cases h), _, _, _, rfl⟩
        clear he hf
        gi_wp2
        refine ⟨trivial, (callsIn_wide.2 (CE.out _)).mono ?_⟩
        rintro e' w' ⟨rfl, hw'⟩
        rw [hw']; clear hw' w'
        obtain ⟨fn, tmps, assign, body, hy, hRd⟩ := Y0
        gi_wp2
        refine hRd.mono ?_
        rintro e' W5 (⟨rfl, h12, _⟩ | ⟨rfl, hJx5⟩)
        · cases h12
        · gi_wp2
          refine bodyPost_ret (results_none rfl _ _ _) rfl ?_
          exact ⟨⟨_, rfl⟩, .inr ⟨_, by rw [HR.out, List.map_append]; exact List.prefix_refl _, hJx5⟩⟩
      · have hko : k ≠ 32 := hk32
        have hkb : ((k : Int) == 32) = false := by simp; omega
        have RQ := hide (fun W => readPart_any s c W hs hc)
        have hfn : (itemL s.data.toList c).f ≠ 0 := op_fn (s.data.toList.drop c) 9 (by omega) (by omega)
        have hE : opE s.data.toList c ≤ s.data.toList.length := blk_le (op_in (by rw [len_data]; exact hc))
        have hok := fun h => rp_ok (l := s.data.toList) hE h
        change Hid (∀ W, Calls Tryz.prog 90 #[.string s, .int .i64 (c : Int)] W (PartQ W (itemL s.data.toList c).f ((itemL s.data.toList c).p, (itemL s.data.toList c).pos, (itemL s.data.toList c).err))) at RQ
        change (itemL s.data.toList c).err = 0 → ∃ e : Nat, (itemL s.data.toList c).pos = (e : Int) ∧ _ at hok
        have hB := fun h => rowG_bad (n := f) he hko h
        have hG := fun h => rowG_go (n := f) he hko h
        generalize itemL s.data.toList c = X at *
        have hfv : fnV X.f = .func (.func X.f) #[] #[] := if_neg hfn
        have HB := hide hB
        have HG := hide hG
        have HOK := hide hok
        have HFV := hide hfv
        clear he hB hG hok hfv hfn hE hk32
        gi_wp2
        refine ⟨trivial, (callsIn_wide.2 (CE.out _)).mono ?_⟩
        rintro e' w' ⟨rfl, hw'⟩
        rw [hw']; clear hw' w'
        gi_wp2
        refine ⟨trivial, (callsIn_wide.2 (RQ.out _)).mono ?_⟩
        rintro e' w1 ⟨hb1, v, rfl, t1, fr, cp, av, nv, cv, rfl⟩
        unfold partF
        try dsimp only
        have hA1 : Below wr.heap.size wr (w1.alloc (.cells #[.string (ofL X.p.maj), .string (ofL X.p.min), .string (ofL X.p.pat), .slice av nv cv, .slice none 0 0, .int .i64 (X.p.told : Int), .func (.func X.f) #[] #[], .int .i64 X.err] 58)) := hb1.alloc hb1.size _
        have hJ1 := hJ pre wr _ none hJs (grown_below hA1) (fun r e => by cases e)
        have bA1 := boxed_below bA hA1
        have bS1 := boxed_below bS hA1
        have t2 := t1.below ((Below.refl _ w1).alloc (Nat.le_refl _) (.cells #[.string (ofL X.p.maj), .string (ofL X.p.min), .string (ofL X.p.pat), .slice av nv cv, .slice none 0 0, .int .i64 (X.p.told : Int), .func (.func X.f) #[] #[], .int .i64 X.err] 58))
        have hpre : pre.map Prod.fst ++ [X] <+: rowL s.data.toList a := by
          by_cases hx : X.err = 0
          · exact pre_app _ (by rw [HR.out, HG.out hx])
          · exact pre_app [] (by rw [HR.out, HB.out hx])
        have Y0 := hY pre (X, .slice av nv cv) wr _ hJs hJ1 hA1 ⟨hpre, t2, cp, .inr fr, _, _, _, rfl⟩
        unfold encI partF at Y0
        dsimp only at Y0
        rw [HFV.out] at Y0
        have n1 := World.alloc_heap_new w1 (.cells #[.string (ofL X.p.maj), .string (ofL X.p.min), .string (ofL X.p.pat), .slice av nv cv, .slice none 0 0, .int .i64 (X.p.told : Int), .func (.func X.f) #[] #[], .int .i64 X.err] 58)
        have Y1 := hide Y0
        have HJ1 := hide hJ1
        have HP := hide hpre
        clear t1 t2 fr cp hJ1 hpre Y0 hb1 cS
        obtain ⟨fn, tmps, assign, body, hy, hRd⟩ := Y1.out
        gi_wp2
        refine hRd.mono ?_
        rintro e' W5 (⟨rfl, herr, hJ5, hT⟩ | ⟨rfl, hJx5⟩)
        · obtain ⟨e, hpe, _, hel⟩ := HOK.out herr
          rw [len_data] at hel
          obtain ⟨bA5, bS5⟩ := hT.boxed bA1 bS1
          have cS5 := bS5.cell
          have R6 := hide (Run6 s e hs hel X.pos hpe)
          have hle := blk_le (l := s.data.toList) (a := e) (by rw [len_data]; exact hel)
          rw [len_data] at hle
          have HQ : Hid (rowL s.data.toList a = (pre ++ [(X, Value.slice av nv cv)]).map Prod.fst ++ rowG s.data.toList f (k + 1) (blk s.data.toList e)) := by
            show _ = _
            rw [HR.out, HG.out herr, hpe, Int.toNat_natCast]
            simp
          have HE := hide hpe
          clear hpe hy hRd
          gi_wp2
          refine ⟨trivial, (callsIn_wide.2 (R6.out _)).mono ?_⟩
          rintro e' w' ⟨rfl, hw'⟩
          rw [hw']; clear hw' w'
          gi_wp2
          go_roundw
          case rel => exact ⟨k + 1, blk s.data.toList e, pre ++ [(X, .slice av nv cv)], by omega, hle, by go_num, rfl, hJ5, bA5, bS5, by show _ = _; rw [HQ.out, show 33 - (k + 1) = f by omega]⟩
          case measure => simp [intOf]; omega
        · gi_wp2
          refine bodyPost_ret (results_none rfl _ _ _) rfl ?_
          exact ⟨⟨_, rfl⟩, .inr ⟨_, by rw [List.map_append]; exact HP.out, hJx5⟩⟩
    · rw [he] at CE
      have CE := hide CE
      rw [rowG_end he, List.append_nil] at HR
      clear he hf
      gi_wp2
      refine ⟨trivial, (callsIn_wide.2 (CE.out _)).mono ?_⟩
      rintro e' w' ⟨rfl, hw'⟩
      rw [hw']; clear hw' w'
      gi_wp2
      refine bodyPost_end (results_none rfl _ _ _) rfl ?_
      exact ⟨⟨_, rfl⟩, .inl ⟨pre, HR.out.symm, hJs⟩⟩

end Go.Proofs.YtaflflelcdcanaaGreat

namespace Go.Proofs.YtaflflelcdcanaaGreat
open Go.RowKit Go.Shelf
set_option linter.unusedVariables false

attribute [local go_sem] Oper.semAt_some

/-- What a round that goes on keeps: three blocks. -/
def Tri (b c d : Nat) (W W' : World) : Prop := W'.heap[b]? = W.heap[b]? ∧ W'.heap[c]? = W.heap[c]? ∧ W'.heap[d]? = W.heap[d]?
/-- What stands behind the dash. -/
def toI (l : List UInt8) (e : Nat) : Item := ⟨(dashL l (blk l e + 1)).1, 87, (dashL l (blk l e + 1)).2.2, (dashL l (blk l e + 1)).2.1⟩
/-- The parts of a from-to whose first partial ends at a place. -/
def ftL (l : List UInt8) (p : PartL) (e : Nat) : List Item :=
  ⟨p, 85, 0, (e : Int)⟩ :: toI l e :: (if (toI l e).err = 0 ∧ endsL l (blk l (toI l e).pos.toNat) = false then [⟨partN, 0, 10, (blk l (toI l e).pos.toNat : Int)⟩] else [])
theorem dash_ok {l : List UInt8} {a : Nat} (ha : a ≤ l.length) (h : (dashL l a).2.2 = 0) : ∃ e : Nat, (dashL l a).2.1 = (e : Int) ∧ e ≤ l.length := by
  unfold dashL at *
  split at h
  · exact absurd h (by show misL l.length a ≠ 0; unfold misL; split <;> decide)
  · rename_i hb
    rw [if_neg hb]
    obtain ⟨e, he, _, h2⟩ := rp_ok (blk_le ha) h
    exact ⟨e, he, h2⟩

set_option maxRecDepth 100000 in
set_option maxHeartbeats 4000000 in
theorem from1_in (n : Nat) (hn : 1 ≤ n) (l Bp Be Bs : Nat) (s : ByteArray) (p : PartL) (e : Nat) (av : Option Addr) (nv cv : Nat) (he : e ≤ s.size) (hs : s.size ≤ 256) (hd : blk s.data.toList e + 1 ≤ s.size)
    (J Jx : List (Item × Value) → World → Prop) (B0 : Nat) (hJ : AbidesFrom B0 J)
    (R Z : Nat) (hfr : CapA (fun b => R ≤ b ∧ b < Z) (.slice av nv cv)) (hY : ∀ pre x W0 W, J pre W0 → J pre W → Below W0.heap.size W0 W → CX R Z (ftL s.data.toList p e) pre x W0 W → YieldAt Fence.wide (n - 1) Tryz.prog l (encI x) W fun e W' =>
      (e = .returned (.bool true) ∧ x.1.err = 0 ∧ J (pre ++ [x]) W' ∧ Tri Bp Be Bs W W') ∨ (e = .returned (.bool false) ∧ Jx (pre ++ [x]) W'))
    (W : World) (hBp : W.heap[Bp]? = some (.cells #[.string (ofL p.maj), .string (ofL p.min), .string (ofL p.pat), .slice av nv cv, .slice none 0 0, .int .i64 (p.told : Int)] 54 (0, 0))) (hBe : Boxed W Be 3 (.int .i64 (e : Int))) (hBs : Boxed W Bs 9 (.string s)) (ht : Txt W (.slice av nv cv) p.pre) (hcp : Cap (.slice av nv cv)) (h0 : J [] W) :
    CallsIn Fence.wide n Tryz.prog 84 #[.func (.yield l) #[] #[], .pointer (some ⟨Bp, 0, none⟩), .pointer (some ⟨Be, 0, none⟩), .pointer (some ⟨Bs, 0, none⟩)] W fun r W' => (∃ v, r = .returned v) ∧
      ((∃ xs : List (Item × Value), xs.map Prod.fst = ftL s.data.toList p e ∧ J xs W') ∨ (∃ pre : List (Item × Value), pre.map Prod.fst <+: ftL s.data.toList p e ∧ Jx pre W')) := by
  have q0 := cell_at 0 hBp rfl
  have q1 := cell_at 1 hBp rfl
  have q2 := cell_at 2 hBp rfl
  have q3 := cell_at 3 hBp rfl
  have q4 := cell_at 4 hBp rfl
  have q5 := cell_at 5 hBp rfl
  have ce := hBe.cell
  have cs := hBs.cell
  have hP1 : [(⟨p, 85, 0, (e : Int)⟩ : Item)] <+: ftL s.data.toList p e := ⟨_, rfl⟩
  have hP2 : [(⟨p, 85, 0, (e : Int)⟩ : Item), toI s.data.toList e] <+: ftL s.data.toList p e := ⟨_, rfl⟩
  have Y1 : YieldAt Fence.wide (n - 1) Tryz.prog l #[.agg #[.string (ofL p.maj), .string (ofL p.min), .string (ofL p.pat), .slice av nv cv, .slice none 0 0, .int .i64 (p.told : Int), .func (.func 85) #[] #[], .int .i64 0], .int .i64 (e : Int)] W _ := hY [] (⟨p, 85, 0, (e : Int)⟩, .slice av nv cv) W W h0 h0 (Below.refl _ _) ⟨hP1, ht, hcp, .inl ⟨rfl, hfr⟩, _, _, _, rfl⟩
  obtain ⟨fn, tmps, assign, body, hy, hRd⟩ := Y1
  have R6 := hide (Run6 s e hs he (e : Int) rfl)
  have RT := hide (fun (z : Int) W (hz : z = (blk s.data.toList e : Int) + 1) => (by rw [hz]; exact readTo_any s (blk s.data.toList e + 1) W hs hd : Calls Tryz.prog 86 #[.string s, .int .i64 z] W (PartP W (dashL s.data.toList (blk s.data.toList e + 1)))))
  have hok := hide (fun h => dash_ok (l := s.data.toList) (a := blk s.data.toList e + 1) (by rw [len_data]; exact hd) h)
  have hF1 : (dashL s.data.toList (blk s.data.toList e + 1)).2.2 = 0 → endsL s.data.toList (blk s.data.toList (dashL s.data.toList (blk s.data.toList e + 1)).2.1.toNat) = true → ftL s.data.toList p e = [⟨p, 85, 0, (e : Int)⟩, toI s.data.toList e] := fun h1 h2 => by
    unfold ftL
    rw [if_neg (fun h => by have h3 := h.2; unfold toI at h3; dsimp only at h3; rw [h2] at h3; cases h3)]
  have hF2 : (dashL s.data.toList (blk s.data.toList e + 1)).2.2 = 0 → endsL s.data.toList (blk s.data.toList (dashL s.data.toList (blk s.data.toList e + 1)).2.1.toNat) = false → ftL s.data.toList p e = [⟨p, 85, 0, (e : Int)⟩, toI s.data.toList e, ⟨partN, 0, 10, (blk s.data.toList (dashL s.data.toList (blk s.data.toList e + 1)).2.1.toNat : Int)⟩] := fun h1 h2 => by
    unfold ftL
    rw [if_pos ⟨h1, h2⟩]
    rfl
  unfold toI at hP2 hF1 hF2
  generalize dashL s.data.toList (blk s.data.toList e + 1) = D at *
  obtain ⟨q, z, r⟩ := D
  dsimp only at hP2 hF1 hF2 hok RT
  have HF1 := hide hF1
  have HF2 := hide hF2
  have HP1 := hide hP1
  have HP2 := hide hP2
  clear hF1 hF2
  have hlb : blk s.data.toList e ≤ 256 := by omega
  have hwr : IntKind.i64.wrap ((blk s.data.toList e : Int) + 1) = (blk s.data.toList e : Int) + 1 := by rw [IntKind.wrap_i64]; omega
  clear hP1 hP2
  refine callsIn_of_wp Tryz.func84 rfl trivial ?_ rfl
  simp only [Tryz.ntmps84, List.size_toArray, List.length_cons, List.length_nil, Nat.reduceAdd, Nat.reduceSub, Array.replicate_succ, Array.replicate_zero, List.push_toArray, List.append_toArray, List.nil_append, List.cons_append]
  gi_wp2
  refine hRd.mono ?_
  rintro e' W5 (⟨rfl, _, hJ5, hT⟩ | ⟨rfl, hJx5⟩)
  case inr =>
    gi_wp2
    refine bodyPost_ret (results_none rfl _ _ _) rfl ?_
    exact ⟨⟨_, rfl⟩, .inr ⟨[(⟨p, 85, 0, (e : Int)⟩, .slice av nv cv)], HP1.out, hJx5⟩⟩
  have hBe5 : Boxed W5 Be 3 (.int .i64 (e : Int)) := hT.2.1.trans hBe
  have hBs5 : Boxed W5 Bs 9 (.string s) := hT.2.2.trans hBs
  have ce5 := hBe5.cell
  have cs5 := hBs5.cell
  have hBe6 : Boxed W5.drew Be 3 (.int .i64 (e : Int)) := boxed_below hBe5 (drew_below _ _)
  have hBs6 : Boxed W5.drew Bs 9 (.string s) := boxed_below hBs5 (drew_below _ _)
  have bA : Below W5.heap.size W5 (W5.alloc (.cells #[.string ⟨#[]⟩, .string ⟨#[]⟩, .string ⟨#[]⟩, .slice none 0 0, .slice none 0 0, .int .i64 0] 54)).drew := ((Below.refl _ W5).alloc (Nat.le_refl _) (.cells #[.string ⟨#[]⟩, .string ⟨#[]⟩, .string ⟨#[]⟩, .slice none 0 0, .slice none 0 0, .int .i64 0] 54)).trans (drew_below _ _)
  have hBe8 : Boxed (W5.alloc (.cells #[.string ⟨#[]⟩, .string ⟨#[]⟩, .string ⟨#[]⟩, .slice none 0 0, .slice none 0 0, .int .i64 0] 54)).drew Be 3 (.int .i64 (e : Int)) := boxed_below hBe5 bA
  have hBs8 : Boxed (W5.alloc (.cells #[.string ⟨#[]⟩, .string ⟨#[]⟩, .string ⟨#[]⟩, .slice none 0 0, .slice none 0 0, .int .i64 0] 54)).drew Bs 9 (.string s) := boxed_below hBs5 bA
  have n8 : (W5.alloc (.cells #[.string ⟨#[]⟩, .string ⟨#[]⟩, .string ⟨#[]⟩, .slice none 0 0, .slice none 0 0, .int .i64 0] 54)).drew.heap[W5.heap.size]? = some (.cells #[.string ⟨#[]⟩, .string ⟨#[]⟩, .string ⟨#[]⟩, .slice none 0 0, .slice none 0 0, .int .i64 0] 54) := drew_heap (World.alloc_heap_new W5 (.cells #[.string ⟨#[]⟩, .string ⟨#[]⟩, .string ⟨#[]⟩, .slice none 0 0, .slice none 0 0, .int .i64 0] 54))
  have hl8 := (Array.getElem?_eq_some_iff.1 n8).1
  have ce8 := hBe8.cell
  have cs8 := hBs8.cell
  have ne3 := World.new_ne W5 _ ce5
  have ne4 := World.new_ne W5 _ cs5
  dsimp only at ne3 ne4
  have NB8 := hide n8
  have HL8 := hide hl8
  clear q0 q1 q2 q3 q4 q5 ce cs hy hRd n8 hl8
  gi_wp2
  refine wpIn_wide.2 ?_
  go_region_held3 (fun W' => W'.cell? ⟨Be, 0, none⟩ = some (.int .i64 (e : Int)) ∧ W'.cell? ⟨Bs, 0, none⟩ = some (.string s)) (go_keep) ((first
    | (go_at_call 28; refine (R6.out _).mono ?_; rintro e9 w9 ⟨rfl, hw9⟩; rw [hw9]; clear hw9 w9)
    | (go_at_call 86; refine (RT.out _ _ rfl).mono ?_; rintro e9 w2 ⟨hb2, v2, rfl, t2, fr2, cp2, a2, n2, c2, rfl⟩; (first | (have hBe7 := boxed_below hBe6 hb2; have hBs7 := boxed_below hBs6 hb2; have hW2 : Below W5.heap.size W5 w2 := (drew_below _ W5).trans (hb2.mono (Nat.le_refl _))) | (have hW2 : Below W5.heap.size W5 w2 := bA.trans (hb2.mono bA.size); have hBe7 := boxed_below hBe8 hb2; have hBs7 := boxed_below hBs8 hb2; have z2 := (hb2.block _ HL8.out).trans NB8.out; have k0 := cell_at 0 z2 rfl; have k1 := cell_at 1 z2 rfl; have k2 := cell_at 2 z2 rfl; have k3 := cell_at 3 z2 rfl; have k4 := cell_at 4 z2 rfl; have k5 := cell_at 5 z2 rfl; have o0 := one_free 0 z2; have o1 := one_free 1 z2; have o2 := one_free 2 z2; have o3 := one_free 3 z2; have o4 := one_free 4 z2; have o5 := one_free 5 z2)); have ce7 := hBe7.cell; have cs7 := hBs7.cell; have ne1 := World.new_ne w2 _ ce7; have ne2 := World.new_ne w2 _ cs7; dsimp only at ne1 ne2; unfold partW)
    | fail))
  · have hq := World.alloc_heap_new w2 (.cells #[.string (ofL q.maj), .string (ofL q.min), .string (ofL q.pat), .slice a2 n2 c2, .slice none 0 0, .int .i64 (q.told : Int)] 54)
    have hV := hW2.alloc hW2.size (.cells #[.string (ofL q.maj), .string (ofL q.min), .string (ofL q.pat), .slice a2 n2 c2, .slice none 0 0, .int .i64 (q.told : Int)] 54)
    have tV := t2.below ((Below.refl _ w2).alloc (Nat.le_refl _) (.cells #[.string (ofL q.maj), .string (ofL q.min), .string (ofL q.pat), .slice a2 n2 c2, .slice none 0 0, .int .i64 (q.told : Int)] 54))
    generalize w2.alloc (.cells #[.string (ofL q.maj), .string (ofL q.min), .string (ofL q.pat), .slice a2 n2 c2, .slice none 0 0, .int .i64 (q.told : Int)] 54) = V at *
    generalize w2.heap.size = B5 at *
    have HV := hide hV
    have FR := hide (fresh_mono fr2 (Nat.le_refl W5.heap.size))
    clear hV fr2 ce7 cs7 ne1 ne2 ne3 ne4 ce8 cs8 hBe6 hBs6 hBe7 hBs7 hBe8 hBs8 bA NB8 HL8 ce5 cs5 hwr
    have hBe9 := boxed_below hBe5 HV.out
    have hBs9 := boxed_below hBs5 HV.out
    have cs9 := hBs9.cell
    have m0 := cell_at 0 hq rfl
    have m1 := cell_at 1 hq rfl
    have m2 := cell_at 2 hq rfl
    have m3 := cell_at 3 hq rfl
    have m4 := cell_at 4 hq rfl
    have m5 := cell_at 5 hq rfl
    have hJ9 := hJ _ W5 V none hJ5 (grown_below HV.out) (fun r e => by cases e)
    have Y2 : YieldAt Fence.wide (n - 1) Tryz.prog l #[.agg #[.string (ofL q.maj), .string (ofL q.min), .string (ofL q.pat), .slice a2 n2 c2, .slice none 0 0, .int .i64 (q.told : Int), .func (.func 87) #[] #[], .int .i64 r], .int .i64 z] V _ := hY [(⟨p, 85, 0, (e : Int)⟩, .slice av nv cv)] (⟨q, 87, r, z⟩, .slice a2 n2 c2) W5 V hJ5 hJ9 HV.out ⟨HP2.out, tV, cp2, .inr FR.out, _, _, _, rfl⟩
    obtain ⟨fn2, tmps2, assign2, body2, hy2, hRd2⟩ := Y2
    try dsimp only
    gi_wp2
    refine hRd2.mono ?_
    rintro e7 W7 (⟨rfl, herr, hJ7, hT7⟩ | ⟨rfl, hJx7⟩)
    case inr =>
      gi_wp2
      refine bodyPost_ret (results_none rfl _ _ _) rfl ?_
      exact ⟨⟨_, rfl⟩, .inr ⟨[(⟨p, 85, 0, (e : Int)⟩, .slice av nv cv), (⟨q, 87, r, z⟩, .slice a2 n2 c2)], HP2.out, hJx7⟩⟩
    obtain ⟨e2, hz, hel⟩ := hok.out herr
    rw [len_data] at hel
    have hBs10 : Boxed W7 Bs 9 (.string s) := hT7.2.2.trans hBs9
    have cs10 := hBs10.cell
    have hle := blk_le (l := s.data.toList) (a := e2) (by rw [len_data]; exact hel)
    rw [len_data] at hle
    have R7 := hide (Run6 s e2 hs hel z hz)
    have CE := fun w => setEnds_any s (blk s.data.toList e2) w hle
    have HG1 := hide (HF1.out herr)
    have HG2 := hide (HF2.out herr)
    rw [show z.toNat = e2 by rw [hz]; exact Int.toNat_natCast _] at HG1 HG2
    have HZ := hide hz
    clear m0 m1 m2 m3 m4 m5 hy2 hRd2 cs9 hz
    generalize blk s.data.toList e2 = d at *
    cases hE : endsL s.data.toList d
    · rw [hE] at CE
      have CE := hide CE
      have HL := hide (HG2.out hE)
      have hJ7' := hide hJ7
      have Y3 : YieldAt Fence.wide (n - 1) Tryz.prog l #[.agg #[.string ⟨#[]⟩, .string ⟨#[]⟩, .string ⟨#[]⟩, .slice none 0 0, .slice none 0 0, .int .i64 0, .nilFunc, .int .i64 10], .int .i64 (d : Int)] W7 _ := hY [(⟨p, 85, 0, (e : Int)⟩, .slice av nv cv), (⟨q, 87, r, z⟩, .slice a2 n2 c2)] (⟨partN, 0, 10, (d : Int)⟩, .slice none 0 0) W7 W7 hJ7 hJ7 (Below.refl _ _) ⟨by rw [HL.out]; exact List.prefix_refl _, txt_nil _, capN (txt_nil W7), .inr (by rintro a i c h; cases h), _, _, _, rfl⟩
      obtain ⟨fn3, tmps3, assign3, body3, hy3, hRd3⟩ := Y3
      clear hE
      gi_wp2
      refine ⟨trivial, (callsIn_wide.2 (R7.out _)).mono ?_⟩
      rintro e9 w9 ⟨rfl, hw9⟩
      rw [hw9]; clear hw9 w9
      gi_wp2
      refine ⟨trivial, (callsIn_wide.2 (CE.out _)).mono ?_⟩
      rintro e9 w9 ⟨rfl, hw9⟩
      rw [hw9]; clear hw9 w9
      gi_wp2
      refine hRd3.mono ?_
      rintro e8 W8 (⟨rfl, h10, _⟩ | ⟨rfl, hJx8⟩)
      · cases h10
      · gi_wp2
        refine bodyPost_end (results_none rfl _ _ _) rfl ?_
        exact ⟨⟨_, rfl⟩, .inr ⟨[(⟨p, 85, 0, (e : Int)⟩, .slice av nv cv), (⟨q, 87, r, z⟩, .slice a2 n2 c2), (⟨partN, 0, 10, (d : Int)⟩, .slice none 0 0)], by rw [HL.out]; exact List.prefix_refl _, hJx8⟩⟩
    · rw [hE] at CE
      have CE := hide CE
      have HL := hide (HG1.out hE)
      clear hE
      gi_wp2
      refine ⟨trivial, (callsIn_wide.2 (R7.out _)).mono ?_⟩
      rintro e9 w9 ⟨rfl, hw9⟩
      rw [hw9]; clear hw9 w9
      gi_wp2
      refine ⟨trivial, (callsIn_wide.2 (CE.out _)).mono ?_⟩
      rintro e9 w9 ⟨rfl, hw9⟩
      rw [hw9]; clear hw9 w9
      gi_wp2
      refine bodyPost_end (results_none rfl _ _ _) rfl ?_
      exact ⟨⟨_, rfl⟩, .inl ⟨[(⟨p, 85, 0, (e : Int)⟩, .slice av nv cv), (⟨q, 87, r, z⟩, .slice a2 n2 c2)], HL.out.symm, hJ7⟩⟩
  · have hq := put6 (.string (ofL q.maj)) (.string (ofL q.min)) (.string (ofL q.pat)) (.slice a2 n2 c2) (.slice none 0 0) (.int .i64 (q.told : Int)) z2
    have hV := below6 hW2 (.string (ofL q.maj)) (.string (ofL q.min)) (.string (ofL q.pat)) (.slice a2 n2 c2) (.slice none 0 0) (.int .i64 (q.told : Int))
    have tV := txt6 t2 fr2 (B := W5.heap.size) HL8.out (.string (ofL q.maj)) (.string (ofL q.min)) (.string (ofL q.pat)) (.slice a2 n2 c2) (.slice none 0 0) (.int .i64 (q.told : Int))
    generalize ((((((w2.setCell ⟨W5.heap.size, 0, none⟩ (.string (ofL q.maj))).setCell ⟨W5.heap.size, 1, none⟩ (.string (ofL q.min))).setCell ⟨W5.heap.size, 2, none⟩ (.string (ofL q.pat))).setCell ⟨W5.heap.size, 3, none⟩ (.slice a2 n2 c2)).setCell ⟨W5.heap.size, 4, none⟩ (.slice none 0 0)).setCell ⟨W5.heap.size, 5, none⟩ (.int .i64 (q.told : Int))) = V at *
    have HV := hide hV
    have FR := hide (fresh_mono fr2 (Nat.le_of_lt HL8.out))
    clear hV fr2 z2 k0 k1 k2 k3 k4 k5 o0 o1 o2 o3 o4 o5 ce7 cs7 ne1 ne2 ne3 ne4 ce8 cs8 hBe6 hBs6 hBe7 hBs7 hBe8 hBs8 bA NB8 HL8 ce5 cs5 hwr
    generalize W5.heap.size = B5 at hq ⊢
    have hBe9 := boxed_below hBe5 HV.out
    have hBs9 := boxed_below hBs5 HV.out
    have cs9 := hBs9.cell
    have m0 := cell_at 0 hq rfl
    have m1 := cell_at 1 hq rfl
    have m2 := cell_at 2 hq rfl
    have m3 := cell_at 3 hq rfl
    have m4 := cell_at 4 hq rfl
    have m5 := cell_at 5 hq rfl
    have hJ9 := hJ _ W5 V none hJ5 (grown_below HV.out) (fun r e => by cases e)
    have Y2 : YieldAt Fence.wide (n - 1) Tryz.prog l #[.agg #[.string (ofL q.maj), .string (ofL q.min), .string (ofL q.pat), .slice a2 n2 c2, .slice none 0 0, .int .i64 (q.told : Int), .func (.func 87) #[] #[], .int .i64 r], .int .i64 z] V _ := hY [(⟨p, 85, 0, (e : Int)⟩, .slice av nv cv)] (⟨q, 87, r, z⟩, .slice a2 n2 c2) W5 V hJ5 hJ9 HV.out ⟨HP2.out, tV, cp2, .inr FR.out, _, _, _, rfl⟩
    obtain ⟨fn2, tmps2, assign2, body2, hy2, hRd2⟩ := Y2
    try dsimp only
    gi_wp2
    refine hRd2.mono ?_
    rintro e7 W7 (⟨rfl, herr, hJ7, hT7⟩ | ⟨rfl, hJx7⟩)
    case inr =>
      gi_wp2
      refine bodyPost_ret (results_none rfl _ _ _) rfl ?_
      exact ⟨⟨_, rfl⟩, .inr ⟨[(⟨p, 85, 0, (e : Int)⟩, .slice av nv cv), (⟨q, 87, r, z⟩, .slice a2 n2 c2)], HP2.out, hJx7⟩⟩
    obtain ⟨e2, hz, hel⟩ := hok.out herr
    rw [len_data] at hel
    have hBs10 : Boxed W7 Bs 9 (.string s) := hT7.2.2.trans hBs9
    have cs10 := hBs10.cell
    have hle := blk_le (l := s.data.toList) (a := e2) (by rw [len_data]; exact hel)
    rw [len_data] at hle
    have R7 := hide (Run6 s e2 hs hel z hz)
    have CE := fun w => setEnds_any s (blk s.data.toList e2) w hle
    have HG1 := hide (HF1.out herr)
    have HG2 := hide (HF2.out herr)
    rw [show z.toNat = e2 by rw [hz]; exact Int.toNat_natCast _] at HG1 HG2
    have HZ := hide hz
    clear m0 m1 m2 m3 m4 m5 hy2 hRd2 cs9 hz
    generalize blk s.data.toList e2 = d at *
    cases hE : endsL s.data.toList d
    · rw [hE] at CE
      have CE := hide CE
      have HL := hide (HG2.out hE)
      have hJ7' := hide hJ7
      have Y3 : YieldAt Fence.wide (n - 1) Tryz.prog l #[.agg #[.string ⟨#[]⟩, .string ⟨#[]⟩, .string ⟨#[]⟩, .slice none 0 0, .slice none 0 0, .int .i64 0, .nilFunc, .int .i64 10], .int .i64 (d : Int)] W7 _ := hY [(⟨p, 85, 0, (e : Int)⟩, .slice av nv cv), (⟨q, 87, r, z⟩, .slice a2 n2 c2)] (⟨partN, 0, 10, (d : Int)⟩, .slice none 0 0) W7 W7 hJ7 hJ7 (Below.refl _ _) ⟨by rw [HL.out]; exact List.prefix_refl _, txt_nil _, capN (txt_nil W7), .inr (by rintro a i c h; cases h), _, _, _, rfl⟩
      obtain ⟨fn3, tmps3, assign3, body3, hy3, hRd3⟩ := Y3
      clear hE
      gi_wp2
      refine ⟨trivial, (callsIn_wide.2 (R7.out _)).mono ?_⟩
      rintro e9 w9 ⟨rfl, hw9⟩
      rw [hw9]; clear hw9 w9
      gi_wp2
      refine ⟨trivial, (callsIn_wide.2 (CE.out _)).mono ?_⟩
      rintro e9 w9 ⟨rfl, hw9⟩
      rw [hw9]; clear hw9 w9
      gi_wp2
      refine hRd3.mono ?_
      rintro e8 W8 (⟨rfl, h10, _⟩ | ⟨rfl, hJx8⟩)
      · cases h10
      · gi_wp2
        refine bodyPost_end (results_none rfl _ _ _) rfl ?_
        exact ⟨⟨_, rfl⟩, .inr ⟨[(⟨p, 85, 0, (e : Int)⟩, .slice av nv cv), (⟨q, 87, r, z⟩, .slice a2 n2 c2), (⟨partN, 0, 10, (d : Int)⟩, .slice none 0 0)], by rw [HL.out]; exact List.prefix_refl _, hJx8⟩⟩
    · rw [hE] at CE
      have CE := hide CE
      have HL := hide (HG1.out hE)
      clear hE
      gi_wp2
      refine ⟨trivial, (callsIn_wide.2 (R7.out _)).mono ?_⟩
      rintro e9 w9 ⟨rfl, hw9⟩
      rw [hw9]; clear hw9 w9
      gi_wp2
      refine ⟨trivial, (callsIn_wide.2 (CE.out _)).mono ?_⟩
      rintro e9 w9 ⟨rfl, hw9⟩
      rw [hw9]; clear hw9 w9
      gi_wp2
      refine bodyPost_end (results_none rfl _ _ _) rfl ?_
      exact ⟨⟨_, rfl⟩, .inl ⟨[(⟨p, 85, 0, (e : Int)⟩, .slice av nv cv), (⟨q, 87, r, z⟩, .slice a2 n2 c2)], HL.out.symm, hJ7⟩⟩
  · have hq := put6 (.string (ofL q.maj)) (.string (ofL q.min)) (.string (ofL q.pat)) (.slice a2 n2 c2) (.slice none 0 0) (.int .i64 (q.told : Int)) z2
    have hV := below6 hW2 (.string (ofL q.maj)) (.string (ofL q.min)) (.string (ofL q.pat)) (.slice a2 n2 c2) (.slice none 0 0) (.int .i64 (q.told : Int))
    have tV := txt6 t2 fr2 (B := W5.heap.size) HL8.out (.string (ofL q.maj)) (.string (ofL q.min)) (.string (ofL q.pat)) (.slice a2 n2 c2) (.slice none 0 0) (.int .i64 (q.told : Int))
    generalize ((((((w2.setCell ⟨W5.heap.size, 0, none⟩ (.string (ofL q.maj))).setCell ⟨W5.heap.size, 1, none⟩ (.string (ofL q.min))).setCell ⟨W5.heap.size, 2, none⟩ (.string (ofL q.pat))).setCell ⟨W5.heap.size, 3, none⟩ (.slice a2 n2 c2)).setCell ⟨W5.heap.size, 4, none⟩ (.slice none 0 0)).setCell ⟨W5.heap.size, 5, none⟩ (.int .i64 (q.told : Int))) = V at *
    have HV := hide hV
    have FR := hide (fresh_mono fr2 (Nat.le_of_lt HL8.out))
    clear hV fr2 z2 k0 k1 k2 k3 k4 k5 o0 o1 o2 o3 o4 o5 ce7 cs7 ne1 ne2 ne3 ne4 ce8 cs8 hBe6 hBs6 hBe7 hBs7 hBe8 hBs8 bA NB8 HL8 ce5 cs5 hwr
    generalize W5.heap.size = B5 at hq ⊢
    have hBe9 := boxed_below hBe5 HV.out
    have hBs9 := boxed_below hBs5 HV.out
    have cs9 := hBs9.cell
    have m0 := cell_at 0 hq rfl
    have m1 := cell_at 1 hq rfl
    have m2 := cell_at 2 hq rfl
    have m3 := cell_at 3 hq rfl
    have m4 := cell_at 4 hq rfl
    have m5 := cell_at 5 hq rfl
    have hJ9 := hJ _ W5 V none hJ5 (grown_below HV.out) (fun r e => by cases e)
    have Y2 : YieldAt Fence.wide (n - 1) Tryz.prog l #[.agg #[.string (ofL q.maj), .string (ofL q.min), .string (ofL q.pat), .slice a2 n2 c2, .slice none 0 0, .int .i64 (q.told : Int), .func (.func 87) #[] #[], .int .i64 r], .int .i64 z] V _ := hY [(⟨p, 85, 0, (e : Int)⟩, .slice av nv cv)] (⟨q, 87, r, z⟩, .slice a2 n2 c2) W5 V hJ5 hJ9 HV.out ⟨HP2.out, tV, cp2, .inr FR.out, _, _, _, rfl⟩
    obtain ⟨fn2, tmps2, assign2, body2, hy2, hRd2⟩ := Y2
    try dsimp only
    gi_wp2
    refine hRd2.mono ?_
    rintro e7 W7 (⟨rfl, herr, hJ7, hT7⟩ | ⟨rfl, hJx7⟩)
    case inr =>
      gi_wp2
      refine bodyPost_ret (results_none rfl _ _ _) rfl ?_
      exact ⟨⟨_, rfl⟩, .inr ⟨[(⟨p, 85, 0, (e : Int)⟩, .slice av nv cv), (⟨q, 87, r, z⟩, .slice a2 n2 c2)], HP2.out, hJx7⟩⟩
    obtain ⟨e2, hz, hel⟩ := hok.out herr
    rw [len_data] at hel
    have hBs10 : Boxed W7 Bs 9 (.string s) := hT7.2.2.trans hBs9
    have cs10 := hBs10.cell
    have hle := blk_le (l := s.data.toList) (a := e2) (by rw [len_data]; exact hel)
    rw [len_data] at hle
    have R7 := hide (Run6 s e2 hs hel z hz)
    have CE := fun w => setEnds_any s (blk s.data.toList e2) w hle
    have HG1 := hide (HF1.out herr)
    have HG2 := hide (HF2.out herr)
    rw [show z.toNat = e2 by rw [hz]; exact Int.toNat_natCast _] at HG1 HG2
    have HZ := hide hz
    clear m0 m1 m2 m3 m4 m5 hy2 hRd2 cs9 hz
    generalize blk s.data.toList e2 = d at *
    cases hE : endsL s.data.toList d
    · rw [hE] at CE
      have CE := hide CE
      have HL := hide (HG2.out hE)
      have hJ7' := hide hJ7
      have Y3 : YieldAt Fence.wide (n - 1) Tryz.prog l #[.agg #[.string ⟨#[]⟩, .string ⟨#[]⟩, .string ⟨#[]⟩, .slice none 0 0, .slice none 0 0, .int .i64 0, .nilFunc, .int .i64 10], .int .i64 (d : Int)] W7 _ := hY [(⟨p, 85, 0, (e : Int)⟩, .slice av nv cv), (⟨q, 87, r, z⟩, .slice a2 n2 c2)] (⟨partN, 0, 10, (d : Int)⟩, .slice none 0 0) W7 W7 hJ7 hJ7 (Below.refl _ _) ⟨by rw [HL.out]; exact List.prefix_refl _, txt_nil _, capN (txt_nil W7), .inr (by rintro a i c h; cases h), _, _, _, rfl⟩
      obtain ⟨fn3, tmps3, assign3, body3, hy3, hRd3⟩ := Y3
      clear hE
      gi_wp2
      refine ⟨trivial, (callsIn_wide.2 (R7.out _)).mono ?_⟩
      rintro e9 w9 ⟨rfl, hw9⟩
      rw [hw9]; clear hw9 w9
      gi_wp2
      refine ⟨trivial, (callsIn_wide.2 (CE.out _)).mono ?_⟩
      rintro e9 w9 ⟨rfl, hw9⟩
      rw [hw9]; clear hw9 w9
      gi_wp2
      refine hRd3.mono ?_
      rintro e8 W8 (⟨rfl, h10, _⟩ | ⟨rfl, hJx8⟩)
      · cases h10
      · gi_wp2
        refine bodyPost_end (results_none rfl _ _ _) rfl ?_
        exact ⟨⟨_, rfl⟩, .inr ⟨[(⟨p, 85, 0, (e : Int)⟩, .slice av nv cv), (⟨q, 87, r, z⟩, .slice a2 n2 c2), (⟨partN, 0, 10, (d : Int)⟩, .slice none 0 0)], by rw [HL.out]; exact List.prefix_refl _, hJx8⟩⟩
    · rw [hE] at CE
      have CE := hide CE
      have HL := hide (HG1.out hE)
      clear hE
      gi_wp2
      refine ⟨trivial, (callsIn_wide.2 (R7.out _)).mono ?_⟩
      rintro e9 w9 ⟨rfl, hw9⟩
      rw [hw9]; clear hw9 w9
      gi_wp2
      refine ⟨trivial, (callsIn_wide.2 (CE.out _)).mono ?_⟩
      rintro e9 w9 ⟨rfl, hw9⟩
      rw [hw9]; clear hw9 w9
      gi_wp2
      refine bodyPost_end (results_none rfl _ _ _) rfl ?_
      exact ⟨⟨_, rfl⟩, .inl ⟨[(⟨p, 85, 0, (e : Int)⟩, .slice av nv cv), (⟨q, 87, r, z⟩, .slice a2 n2 c2)], HL.out.symm, hJ7⟩⟩

end Go.Proofs.YtaflflelcdcanaaGreat

namespace Go.Proofs.YtaflflelcdcanaaGreat
open Go.RowKit Go.Shelf
set_option linter.unusedVariables false

theorem row_any (s : ByteArray) (z : Int) (w : World) :
    Calls Tryz.prog 53 #[.string s, .int .i64 z] w fun e w' => e = .returned (.func (.func 89) #[] #[.pointer (some ⟨w.heap.size + 1, 0, none⟩), .pointer (some ⟨w.heap.size, 0, none⟩)]) ∧ w' = (w.alloc (.cells #[.string s] 9)).alloc (.cells #[.int .i64 z] 3) := by
  go_enter Tryz.func53, Tryz.ntmps53
  go_wp2_with fail
  go_ret
  exact ⟨rfl, rfl⟩
theorem fromTo_any (s x y t : ByteArray) (a : Option Addr) (n c : Nat) (k z : Int) (w : World) :
    Calls Tryz.prog 52 #[.string s, .agg #[.string x, .string y, .string t, .slice a n c, .slice none 0 0, .int .i64 k], .int .i64 z] w fun e w' => e = .returned (.func (.func 84) #[] #[.pointer (some ⟨w.heap.size + 1, 0, none⟩), .pointer (some ⟨w.heap.size + 1 + 1, 0, none⟩), .pointer (some ⟨w.heap.size, 0, none⟩)]) ∧
      w' = ((w.alloc (.cells #[.string s] 9)).alloc (.cells #[.string x, .string y, .string t, .slice a n c, .slice none 0 0, .int .i64 k] 54)).alloc (.cells #[.int .i64 z] 3) := by
  go_enter Tryz.func52, Tryz.ntmps52
  go_wp2_with fail
  go_ret
  exact ⟨rfl, rfl⟩
theorem heap_a0 (w : World) (o1 o2 o3 : Obj) : (((w.alloc o1).alloc o2).alloc o3).heap[w.heap.size]? = some o1 :=
  (((Lies.cons (World.alloc_heap_new w o1) (Lies.nil _)).alloc o2).alloc o3).head
theorem heap_b0 (w : World) (o1 o2 : Obj) : ((w.alloc o1).alloc o2).heap[w.heap.size]? = some o1 :=
  ((Lies.cons (World.alloc_heap_new w o1) (Lies.nil _)).alloc o2).head

/-- The partial with which a set begins. -/
def headL (l : List UInt8) (a : Nat) : PartL × Int × Int := rpL l (blk l a)
/-- The parts of the set at a place. -/
def partsL (l : List UInt8) (a : Nat) : List Item := if isFrom l (headL l a) = true then ftL l (headL l a).1 (headL l a).2.1.toNat else rowL l (blk l a)
/-- What parts leaves: one of the two iterators, with what it reads. -/
def PartsP (l : List UInt8) (s : ByteArray) (a : Nat) (w : World) (e : Ending) (w' : World) : Prop :=
  Below w.heap.size w w' ∧
    ((isFrom l (headL l a) = true ∧ ∃ Bp Be Bs av nv cv, e = .returned (.func (.func 84) #[] #[.pointer (some ⟨Bp, 0, none⟩), .pointer (some ⟨Be, 0, none⟩), .pointer (some ⟨Bs, 0, none⟩)]) ∧ w.heap.size ≤ Bp ∧ w.heap.size ≤ Be ∧ w.heap.size ≤ Bs ∧
      w'.heap[Bp]? = some (.cells #[.string (ofL (headL l a).1.maj), .string (ofL (headL l a).1.min), .string (ofL (headL l a).1.pat), .slice av nv cv, .slice none 0 0, .int .i64 ((headL l a).1.told : Int)] 54 (0, 0)) ∧ Boxed w' Be 3 (.int .i64 (headL l a).2.1) ∧ Boxed w' Bs 9 (.string s) ∧ Txt w' (.slice av nv cv) (headL l a).1.pre ∧ Cap (.slice av nv cv) ∧ Fresh w.heap.size (.slice av nv cv)) ∨
     (isFrom l (headL l a) = false ∧ ∃ Ba Bs, e = .returned (.func (.func 89) #[] #[.pointer (some ⟨Ba, 0, none⟩), .pointer (some ⟨Bs, 0, none⟩)]) ∧ w.heap.size ≤ Ba ∧ w.heap.size ≤ Bs ∧ Boxed w' Ba 3 (.int .i64 (blk l a : Int)) ∧ Boxed w' Bs 9 (.string s)))

set_option maxRecDepth 100000 in
set_option maxHeartbeats 2000000 in
theorem parts_any (s : ByteArray) (a : Nat) (w : World) (hs : s.size ≤ 256) (ha : a ≤ s.size) :
    Calls Tryz.prog 27 #[.string s, .int .i64 (a : Int)] w (PartsP s.data.toList s a w) := by
  have R6 := hide (Run6 s a hs ha (a : Int) rfl)
  have hle := blk_le (l := s.data.toList) (a := a) (by rw [len_data]; exact ha)
  rw [len_data] at hle
  have RF := hide (fun W => readFrom_any s (blk s.data.toList a) W hs hle)
  change Hid (∀ W, Calls Tryz.prog 51 #[.string s, .int .i64 (blk s.data.toList a : Int)] W (FromP W (headL s.data.toList a) (isFrom s.data.toList (headL s.data.toList a)))) at RF
  unfold PartsP
  generalize headL s.data.toList a = X at *
  generalize isFrom s.data.toList X = g at *
  generalize blk s.data.toList a = b at *
  obtain ⟨p, z, r⟩ := X
  cases g
  · go_enter Tryz.func27, Tryz.ntmps27
    go_wp2_with fail
    refine (R6.out _).mono ?_
    rintro e w0 ⟨rfl, rfl⟩
    go_wp2_with fail
    refine (RF.out _).mono ?_
    rintro e w1 ⟨hb1, v, rfl, t1, fr, cp, av, nv, cv, rfl⟩
    unfold partW
    try dsimp only
    have hA := hide (hb1.alloc hb1.size (.cells #[.string (ofL p.maj), .string (ofL p.min), .string (ofL p.pat), .slice av nv cv, .slice none 0 0, .int .i64 (p.told : Int)] 54))
    clear hb1 t1 fr cp
    go_wp2_with fail
    generalize w1.alloc _ = V at *
    refine (row_any _ _ _).mono ?_
    rintro e w2 ⟨rfl, rfl⟩
    try dsimp only
    go_wp2_with fail
    go_ret
    refine ⟨hA.out.trans ((below_a2 V _ _).mono hA.out.size), .inr ⟨trivial, V.heap.size + 1, V.heap.size, rfl, by have := hA.out.size; omega, hA.out.size, heap_b1 V _ _, heap_b0 V _ _⟩⟩
  · go_enter Tryz.func27, Tryz.ntmps27
    go_wp2_with fail
    refine (R6.out _).mono ?_
    rintro e w0 ⟨rfl, rfl⟩
    go_wp2_with fail
    refine (RF.out _).mono ?_
    rintro e w1 ⟨hb1, v, rfl, t1, fr, cp, av, nv, cv, rfl⟩
    unfold partW
    try dsimp only
    have hA := hide (hb1.alloc hb1.size (.cells #[.string (ofL p.maj), .string (ofL p.min), .string (ofL p.pat), .slice av nv cv, .slice none 0 0, .int .i64 (p.told : Int)] 54))
    have T1 := hide (t1.below ((Below.refl _ w1).alloc (Nat.le_refl _) (.cells #[.string (ofL p.maj), .string (ofL p.min), .string (ofL p.pat), .slice av nv cv, .slice none 0 0, .int .i64 (p.told : Int)] 54)))
    have CP := hide cp
    have FR := hide fr
    clear hb1 t1 fr cp
    go_wp2_with fail
    generalize w1.alloc _ = V at *
    refine (fromTo_any _ _ _ _ _ _ _ _ _ _).mono ?_
    rintro e w2 ⟨rfl, rfl⟩
    try dsimp only
    go_wp2_with fail
    go_ret
    refine ⟨hA.out.trans ((below_a3 V _ _ _).mono hA.out.size), .inl ⟨trivial, V.heap.size + 1, V.heap.size + 1 + 1, V.heap.size, av, nv, cv, rfl, by have := hA.out.size; omega, by have := hA.out.size; omega, hA.out.size, heap_a1 V _ _ _, heap_a2 V _ _ _, heap_a0 V _ _ _, T1.out.below (below_a3' V _ _ _), CP.out, FR.out⟩⟩

end Go.Proofs.YtaflflelcdcanaaGreat
