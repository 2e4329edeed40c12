/-
  Walks: the iterator over two texts, segment by segment.
-/
import Derived.Test.YthojcidbhojlhaaDe
namespace Go.Proofs.Ythojcidbhojlhaa
open Go.RowKit Go.Shelf
set_option linter.unusedVariables false

attribute [local go_sem] Oper.semAt_some

/-- What is left of two parts, row by row. -/
def pairsN : Nat → List UInt8 → List UInt8 → List (List UInt8 × List UInt8)
  | 0, _, _ => []
  | n + 1, a, b => if a = [] ∧ b = [] then [] else (a, b) :: pairsN n (restL a) (restL b)
def pairsL (a b : List UInt8) : List (List UInt8 × List UInt8) := pairsN (a.length + b.length) a b
theorem pairsN_nil : ∀ n, pairsN n [] [] = []
  | 0 => rfl
  | n + 1 => by rw [pairsN, if_pos ⟨rfl, rfl⟩]
theorem pairs_lt (a b : List UInt8) (h0 : ¬ (a = [] ∧ b = [])) : (restL a).length + (restL b).length < a.length + b.length := by
  have r1 := rest_le a
  have r2 := rest_le b
  by_cases ha : a = []
  · have := restL_lt b (fun hb => h0 ⟨ha, hb⟩); omega
  · have := restL_lt a ha; omega
theorem pairsN_more : ∀ (n m : Nat) (a b : List UInt8), a.length + b.length ≤ n → a.length + b.length ≤ m → pairsN n a b = pairsN m a b
  | 0, m, a, b, h, _ => by
    have ha : a = [] := List.length_eq_zero_iff.1 (by omega)
    have hb : b = [] := List.length_eq_zero_iff.1 (by omega)
    subst ha hb
    rw [pairsN_nil, pairsN_nil]
  | n + 1, 0, a, b, _, h => by
    have ha : a = [] := List.length_eq_zero_iff.1 (by omega)
    have hb : b = [] := List.length_eq_zero_iff.1 (by omega)
    subst ha hb
    rw [pairsN_nil, pairsN_nil]
  | n + 1, m + 1, a, b, h1, h2 => by
    rw [pairsN, pairsN]
    by_cases h0 : a = [] ∧ b = []
    · rw [if_pos h0, if_pos h0]
    · have := pairs_lt a b h0
      rw [if_neg h0, if_neg h0, pairsN_more n m (restL a) (restL b) (by omega) (by omega)]
theorem pairsL_step (a b : List UInt8) (h0 : ¬ (a = [] ∧ b = [])) : pairsL a b = (a, b) :: pairsL (restL a) (restL b) := by
  have := pairs_lt a b h0
  unfold pairsL
  rw [pairsN_more (a.length + b.length) (a.length + b.length + 1) a b (by omega) (by omega), pairsN, if_neg h0]
  rw [pairsN_more (a.length + b.length) ((restL a).length + (restL b).length) (restL a) (restL b) (by omega) (by omega)]
theorem pairsL_nil : pairsL [] [] = [] := rfl
/-- The first row that differs decides. -/
def signP : List (List UInt8 × List UInt8) → Int
  | [] => 0
  | p :: r => if rowO p.1 p.2 = 0 then signP r else rowO p.1 p.2
theorem signP_part : ∀ (n : Nat) (a b : List UInt8), a.length + b.length ≤ n → signP (pairsL a b) = partO a b
  | 0, a, b, h => by
    have ha : a = [] := List.length_eq_zero_iff.1 (by omega)
    have hb : b = [] := List.length_eq_zero_iff.1 (by omega)
    subst ha hb
    rfl
  | n + 1, a, b, h => by
    by_cases h0 : a = [] ∧ b = []
    · obtain ⟨rfl, rfl⟩ := h0
      rfl
    · have := pairs_lt a b h0
      rw [pairsL_step a b h0, signP, partO_step, signP_part n (restL a) (restL b) (by omega)]
theorem signP_zero : ∀ ps : List (List UInt8 × List UInt8), (∀ p ∈ ps, rowO p.1 p.2 = 0) → signP ps = 0
  | [], _ => rfl
  | p :: r, h => by rw [signP, if_pos (h p List.mem_cons_self)]; exact signP_zero r (fun q hq => h q (List.mem_cons_of_mem _ hq))
theorem signP_at : ∀ (pre : List (List UInt8 × List UInt8)) (p : List UInt8 × List UInt8) (r : List (List UInt8 × List UInt8)), (∀ q ∈ pre, rowO q.1 q.2 = 0) → rowO p.1 p.2 ≠ 0 → signP (pre ++ p :: r) = rowO p.1 p.2
  | [], p, r, _, h => by rw [List.nil_append, signP, if_neg h]
  | q :: pre, p, r, h, hp => by rw [List.cons_append, signP, if_pos (h q List.mem_cons_self)]; exact signP_at pre p r (fun q hq => h q (List.mem_cons_of_mem _ hq)) hp

theorem below_grown {W W' : World} (h : Below W.heap.size W W') : W.grownBy W' none := ⟨h.os, h.tape, h.output, h.size, fun k hk _ => h.block k hk⟩

/-- Two rests that are short enough. -/
def BP : Type := { p : List UInt8 × List UInt8 // p.1.length ≤ 9223372036854775000 ∧ p.2.length ≤ 9223372036854775000 }
def BP.un (x : BP) : List UInt8 × List UInt8 := x.val

theorem twoT {W : World} {B : Nat} {x0 x1 : Value} (a b : Value) (h : W.heap[B]? = some (.cells #[x0, x1] 57 (0, 0))) :
    ((W.setCell ⟨B, 0, none⟩ a).setCell ⟨B, 1, none⟩ b).heap[B]? = some (.cells #[a, b] 57 (0, 0)) := by
  have h0 : (W.setCell ⟨B, 0, none⟩ a).heap[B]? = some (.cells #[a, x1] 57 (0, 0)) := set_lies 0 a h
  exact set_lies 1 b h0
/-- What a round keeps of what the iterator reads between rounds: one block. -/
def One (b : Nat) (W W' : World) : Prop := W'.heap[b]? = W.heap[b]?
theorem One.trans {b : Nat} {A B C : World} (h : One b A B) (k : One b B C) : One b A C := Eq.trans k h
theorem one_b {b : Nat} {w : World} (hb : b < w.heap.size) : ∀ (W : World) (l : Nat) (o o' : Obj), w.heap.size ≤ l → W.heap[l]? = some o → o.isCells = false → o.isWalk = false → One b W (W.putObj l o') :=
  fun W l o o' hl _ _ _ => World.putObj_heap_other (by omega)
theorem grown_drewN (W : World) (m : Nat) : W.grownBy (W.drewN m) none := ⟨rfl, rfl, rfl, Nat.le_refl _, fun _ _ _ => rfl⟩
theorem boxed_drewN {W : World} {B : Nat} {t : TypeId} {v : Value} (h : Boxed W B t v) (m : Nat) : Boxed (W.drewN m) B t v := h.kept (grown_drewN W m) (by simp)
/-- The cut as a value. -/
def cutF : Value := .func (.func 40) #[] #[]
theorem neE (l : List UInt8) (h : l ≠ []) : ((ofL l).toList == []) = false := by
  rw [toL, ofL_data]; cases l with
  | nil => exact absurd rfl h
  | cons c r => rfl
theorem isE : ((ofL []).toList == []) = true := by rw [toL, ofL_data]; rfl

/-- Two rows in their cells, behind what was there. -/
structure XY (w W : World) (a b c d : Value) : Prop where
  bel : Below w.heap.size w W
  ex : W.heap[w.heap.size]? = some (.cells #[a, b] 57 (0, 0))
  ey : W.heap[w.heap.size + 1]? = some (.cells #[c, d] 57 (0, 0))
theorem XY.start (w : World) (a b c d : Value) : XY w ((w.alloc (.cells #[a, b] 57)).alloc (.cells #[c, d] 57)) a b c d := by
  refine ⟨((Below.refl _ w).alloc (Nat.le_refl _) _).alloc (by simp) _, ?_, ?_⟩
  · rw [Below.heap_alloc _ _ _ (by simp)]
    exact World.alloc_heap_new w _
  · have := World.alloc_heap_new (w.alloc (.cells #[a, b] 57)) (.cells #[c, d] 57)
    rwa [World.size_alloc] at this
theorem XY.next {w W W' : World} {a b c d : Value} (h : XY w W a b c d) (hb : Below W.heap.size W W') : XY w W' a b c d := by
  have l1 := (Array.getElem?_eq_some_iff.1 h.ex).1
  have l2 := (Array.getElem?_eq_some_iff.1 h.ey).1
  exact ⟨h.bel.trans (hb.mono h.bel.size), (hb.block _ l1).trans h.ex, (hb.block _ l2).trans h.ey⟩
theorem XY.setX {w W : World} {a b c d : Value} (h : XY w W a b c d) (x y : Value) : ∃ W', W' = (W.setCell ⟨w.heap.size, 0, none⟩ x).setCell ⟨w.heap.size, 1, none⟩ y ∧ XY w W' x y c d := by
  refine ⟨_, rfl, h.bel.trans (((Below.refl _ W).setCell (p := ⟨w.heap.size, 0, none⟩) (Nat.le_refl _) x).setCell (p := ⟨w.heap.size, 1, none⟩) (Nat.le_refl _) y), twoT x y h.ex, ?_⟩
  rw [Below.heap_setCell _ _ _ _ (by simp), Below.heap_setCell _ _ _ _ (by simp)]
  exact h.ey
theorem XY.setY {w W : World} {a b c d : Value} (h : XY w W a b c d) (x y : Value) : ∃ W', W' = (W.setCell ⟨w.heap.size + 1, 0, none⟩ x).setCell ⟨w.heap.size + 1, 1, none⟩ y ∧ XY w W' a b x y := by
  refine ⟨_, rfl, h.bel.trans (((Below.refl _ W).setCell (p := ⟨w.heap.size + 1, 0, none⟩) (Nat.le_succ _) x).setCell (p := ⟨w.heap.size + 1, 1, none⟩) (Nat.le_succ _) y), ?_, twoT x y h.ey⟩
  rw [Below.heap_setCell _ _ _ _ (by simp), Below.heap_setCell _ _ _ _ (by simp)]
  exact h.ex
theorem XY.cells {w W : World} {a b c d : Value} (h : XY w W a b c d) : W.cell? ⟨w.heap.size, 0, none⟩ = some a ∧ W.cell? ⟨w.heap.size, 1, none⟩ = some b ∧ W.cell? ⟨w.heap.size + 1, 0, none⟩ = some c ∧ W.cell? ⟨w.heap.size + 1, 1, none⟩ = some d :=
  ⟨cell_at 0 h.ex rfl, cell_at 1 h.ex rfl, cell_at 0 h.ey rfl, cell_at 1 h.ey rfl⟩
theorem XY.frees {w W : World} {a b c d : Value} (h : XY w W a b c d) : W.frozen? ⟨w.heap.size, 0, none⟩ = false ∧ W.frozen? ⟨w.heap.size, 1, none⟩ = false ∧ W.frozen? ⟨w.heap.size + 1, 0, none⟩ = false ∧ W.frozen? ⟨w.heap.size + 1, 1, none⟩ = false :=
  ⟨one_free 0 h.ex, one_free 1 h.ex, one_free 0 h.ey, one_free 1 h.ey⟩

set_option maxRecDepth 100000 in
set_option maxHeartbeats 2000000 in
theorem side1_in (n : Nat) (hn : 1 ≤ n) (l Ba Bb Bc : Nat) (a b : List UInt8) (ha : a.length ≤ 9223372036854775000) (hb : b.length ≤ 9223372036854775000) (J Jx : List BP → World → Prop) (B0 : Nat) (hJ : AbidesFrom B0 J)
    (hY : ∀ pre x W, J pre W → pre.length < (pairsL a b).length → YieldAt Fence.wide (n - 1) Try.prog l #[rowV x.un.1, rowV x.un.2] W fun e W' =>
      (e = .returned (.bool true) ∧ J (pre ++ [x]) W' ∧ One Bc W W') ∨ (e = .returned (.bool false) ∧ Jx (pre ++ [x]) W'))
    (W : World) (hBa : Boxed W Ba 9 (.string (ofL a))) (hBb : Boxed W Bb 9 (.string (ofL b))) (hBc : Boxed W Bc 58 (.func (.func 40) #[] #[])) (h0 : J [] W) :
    CallsIn Fence.wide n Try.prog 56 #[.func (.yield l) #[] #[], .pointer (some ⟨Ba, 0, none⟩), .pointer (some ⟨Bb, 0, none⟩), .pointer (some ⟨Bc, 0, none⟩)] W fun e W' => (∃ v, e = .returned v) ∧
      ((∃ ys : List BP, ys.map BP.un = pairsL a b ∧ J ys W') ∨ (∃ pre : List BP, pre.map BP.un <+: pairsL a b ∧ Jx pre W')) := by
  have cA := hBa.cell
  have cB := hBb.cell
  refine callsIn_of_wp Try.func56 rfl trivial ?_ rfl
  simp only [Try.ntmps56, List.size_toArray, List.length_cons, List.length_nil, Nat.reduceAdd, Nat.reduceSub, Array.replicate_succ, Array.replicate_zero, List.push_toArray, List.append_toArray, List.nil_append, List.cons_append]
  gi_wp2
  gi_quiet (fail)
  have hJ0 : J [] (W.drewN nq) := hJ [] W (W.drewN nq) none h0 (below_grown (below_drewN _ _ _)) (fun r e => by cases e)
  have hBc := boxed_drewN hBc nq
  clear cA cB
  generalize W.drewN nq = W1 at *
  gi_wp2
  gi_loopw [5, 6] (fun x y wr => ∃ (ra rb : List UInt8) (pre : List BP), ra.length ≤ a.length ∧ rb.length ≤ b.length ∧ x = .string (ofL ra) ∧ y = .string (ofL rb) ∧ J pre wr ∧ Boxed wr Bc 58 (.func (.func 40) #[] #[]) ∧ Hid (pairsL a b = pre.map BP.un ++ pairsL ra rb))
    (fun x y _ => (match x with | .string s => s.size | _ => 0) + (match y with | .string s => s.size | _ => 0))
  case atStart => exact ⟨a, b, [], Nat.le_refl _, Nat.le_refl _, rfl, rfl, hJ0, hBc, rfl⟩
  case round =>
    obtain ⟨ra, rb, pre, hra, hrb, rfl, rfl, hJs, bC, HR⟩ := hrel
    by_cases h00 : ra = [] ∧ rb = []
    · obtain ⟨rfl, rfl⟩ := h00
      have e1 := isE
      gi_wp2
      go_end0
      exact ⟨⟨_, rfl⟩, .inl ⟨pre, by rw [HR.out, pairsL_nil, List.append_nil], hJs⟩⟩
    · by_cases hA : ra = []
      · have HNE := h00
        have e1 : ((ofL ra).toList == []) = true := by rw [hA]; exact isE
        have e2 : ((ofL rb).toList == []) = false := neE rb (fun hb => h00 ⟨hA, hb⟩)
        clear h00 hA
        have HS := hide (pairsL_step ra rb HNE)
        have hpl := pairs_lt ra rb HNE
        have C1 := fun w => cutTurn_row ra w (by unfold maxLen; omega)
        have C2 := fun w => cutTurn_row rb w (by unfold maxLen; omega)
        obtain ⟨xx, hxx⟩ : ∃ xx : BP, xx.un = (ra, rb) := ⟨⟨(ra, rb), by dsimp only; omega, by dsimp only; omega⟩, rfl⟩
        have HXX := hide hxx
        have Y0 := hY pre xx
        rw [hxx] at Y0
        unfold rowV at C1 C2 Y0
        dsimp only at Y0
        clear hxx
        have C1 := hide C1
        have C2 := hide C2
        have Y0 := hide Y0
        have HLT : Hid (pre.length < (pairsL a b).length) := by show _ < _; rw [HR.out, HS.out]; simp
        have Hra := hide (rest_le ra)
        have Hrb := hide (rest_le rb)
        have HMS : Hid ((restL ra).length + (restL rb).length < ra.length + rb.length) := hpl
        clear hpl HNE
        generalize wordL ra = x1 at *
        generalize digsL ra = x2 at *
        generalize wordL rb = y1 at *
        generalize digsL rb = y2 at *
        have cC := bC.cell
        have lC := bC.lt
        have lC1 : Bc < wr.heap.size + 1 := by omega
        gi_wp2
        refine ⟨trivial, (callsIn_wide.2 (C1.out _)).mono ?_⟩
        rintro e w1 ⟨rfl, b1⟩
        have xy := (XY.start wr (.string ⟨#[]⟩) (.string ⟨#[]⟩) (.string ⟨#[]⟩) (.string ⟨#[]⟩)).next b1
        clear b1
        obtain ⟨c0, c1, c2, c3⟩ := xy.cells
        obtain ⟨f0, f1, f2, f3⟩ := xy.frees
        obtain ⟨W2, hW2, xy2⟩ := xy.setX (.string (ofL x1)) (.string (ofL x2))
        have cC2 := (show Boxed W2 Bc 58 _ from (xy2.bel.block Bc lC).trans bC).cell
        subst hW2
        gi_wp2
        clear c0 c1 c2 c3 f0 f1 f2 f3 xy cC2
        generalize (w1.setCell ⟨wr.heap.size, 0, none⟩ (.string (ofL x1))).setCell ⟨wr.heap.size, 1, none⟩ (.string (ofL x2)) = W2 at *
        refine ⟨trivial, (callsIn_wide.2 (C2.out _)).mono ?_⟩
        rintro e w3 ⟨rfl, b3⟩
        have xy3 := xy2.next b3
        clear b3 xy2
        obtain ⟨c0, c1, c2, c3⟩ := xy3.cells
        obtain ⟨f0, f1, f2, f3⟩ := xy3.frees
        obtain ⟨W4, hW4, xy4⟩ := xy3.setY (.string (ofL y1)) (.string (ofL y2))
        have hJ4 : J pre W4 := hJ pre wr W4 none hJs (below_grown xy4.bel) (fun r e => by cases e)
        have bC4 : Boxed W4 Bc 58 (.func (.func 40) #[] #[]) := (xy4.bel.block Bc lC).trans bC
        obtain ⟨fn, tmps, assign, body, hy, hR⟩ := Y0.out W4 hJ4 HLT.out
        subst hW4
        gi_wp2
        refine hR.mono ?_
        rintro e W5 (⟨rfl, hJ5, hO⟩ | ⟨rfl, hJx5⟩)
        · have bC5 : Boxed W5 Bc 58 (.func (.func 40) #[] #[]) := Eq.trans hO bC4
          gi_wp2
          go_roundw
          case rel => exact ⟨restL ra, restL rb, pre ++ [xx], Nat.le_trans Hra.out hra, Nat.le_trans Hrb.out hrb, rfl, rfl, hJ5, bC5, by show _ = _; rw [HR.out, HS.out]; simp [HXX.out]⟩
          case measure => simp only [ofL_size]; exact HMS.out
        · gi_wp2
          refine bodyPost_ret (results_none rfl _ _ _) rfl ?_
          exact ⟨⟨_, rfl⟩, .inr ⟨pre ++ [xx], by rw [HR.out, HS.out]; exact ⟨_, by simp [HXX.out]; rfl⟩, hJx5⟩⟩
      · have HNE := h00
        have e1 : ((ofL ra).toList == []) = false := neE ra hA
        clear h00 hA
        have HS := hide (pairsL_step ra rb HNE)
        have hpl := pairs_lt ra rb HNE
        have C1 := fun w => cutTurn_row ra w (by unfold maxLen; omega)
        have C2 := fun w => cutTurn_row rb w (by unfold maxLen; omega)
        obtain ⟨xx, hxx⟩ : ∃ xx : BP, xx.un = (ra, rb) := ⟨⟨(ra, rb), by dsimp only; omega, by dsimp only; omega⟩, rfl⟩
        have HXX := hide hxx
        have Y0 := hY pre xx
        rw [hxx] at Y0
        unfold rowV at C1 C2 Y0
        dsimp only at Y0
        clear hxx
        have C1 := hide C1
        have C2 := hide C2
        have Y0 := hide Y0
        have HLT : Hid (pre.length < (pairsL a b).length) := by show _ < _; rw [HR.out, HS.out]; simp
        have Hra := hide (rest_le ra)
        have Hrb := hide (rest_le rb)
        have HMS : Hid ((restL ra).length + (restL rb).length < ra.length + rb.length) := hpl
        clear hpl HNE
        generalize wordL ra = x1 at *
        generalize digsL ra = x2 at *
        generalize wordL rb = y1 at *
        generalize digsL rb = y2 at *
        have cC := bC.cell
        have lC := bC.lt
        have lC1 : Bc < wr.heap.size + 1 := by omega
        gi_wp2
        refine ⟨trivial, (callsIn_wide.2 (C1.out _)).mono ?_⟩
        rintro e w1 ⟨rfl, b1⟩
        have xy := (XY.start wr (.string ⟨#[]⟩) (.string ⟨#[]⟩) (.string ⟨#[]⟩) (.string ⟨#[]⟩)).next b1
        clear b1
        obtain ⟨c0, c1, c2, c3⟩ := xy.cells
        obtain ⟨f0, f1, f2, f3⟩ := xy.frees
        obtain ⟨W2, hW2, xy2⟩ := xy.setX (.string (ofL x1)) (.string (ofL x2))
        have cC2 := (show Boxed W2 Bc 58 _ from (xy2.bel.block Bc lC).trans bC).cell
        subst hW2
        gi_wp2
        clear c0 c1 c2 c3 f0 f1 f2 f3 xy cC2
        generalize (w1.setCell ⟨wr.heap.size, 0, none⟩ (.string (ofL x1))).setCell ⟨wr.heap.size, 1, none⟩ (.string (ofL x2)) = W2 at *
        refine ⟨trivial, (callsIn_wide.2 (C2.out _)).mono ?_⟩
        rintro e w3 ⟨rfl, b3⟩
        have xy3 := xy2.next b3
        clear b3 xy2
        obtain ⟨c0, c1, c2, c3⟩ := xy3.cells
        obtain ⟨f0, f1, f2, f3⟩ := xy3.frees
        obtain ⟨W4, hW4, xy4⟩ := xy3.setY (.string (ofL y1)) (.string (ofL y2))
        have hJ4 : J pre W4 := hJ pre wr W4 none hJs (below_grown xy4.bel) (fun r e => by cases e)
        have bC4 : Boxed W4 Bc 58 (.func (.func 40) #[] #[]) := (xy4.bel.block Bc lC).trans bC
        obtain ⟨fn, tmps, assign, body, hy, hR⟩ := Y0.out W4 hJ4 HLT.out
        subst hW4
        gi_wp2
        refine hR.mono ?_
        rintro e W5 (⟨rfl, hJ5, hO⟩ | ⟨rfl, hJx5⟩)
        · have bC5 : Boxed W5 Bc 58 (.func (.func 40) #[] #[]) := Eq.trans hO bC4
          gi_wp2
          go_roundw
          case rel => exact ⟨restL ra, restL rb, pre ++ [xx], Nat.le_trans Hra.out hra, Nat.le_trans Hrb.out hrb, rfl, rfl, hJ5, bC5, by show _ = _; rw [HR.out, HS.out]; simp [HXX.out]⟩
          case measure => simp only [ofL_size]; exact HMS.out
        · gi_wp2
          refine bodyPost_ret (results_none rfl _ _ _) rfl ?_
          exact ⟨⟨_, rfl⟩, .inr ⟨pre ++ [xx], by rw [HR.out, HS.out]; exact ⟨_, by simp [HXX.out]; rfl⟩, hJx5⟩⟩

theorem side_stops (n : Nat) (hn : 1 ≤ n) (Ba Bb Bc : Nat) (a b : List UInt8) (ha : a.length ≤ 9223372036854775000) (hb : b.length ≤ 9223372036854775000) (w : World) (hBa : Boxed w Ba 9 (.string (ofL a))) (hBb : Boxed w Bb 9 (.string (ofL b))) (hBc : Boxed w Bc 58 (.func (.func 40) #[] #[])) :
    SeqStopsK Fence.wide n Try.prog 56 #[.pointer (some ⟨Ba, 0, none⟩), .pointer (some ⟨Bb, 0, none⟩), .pointer (some ⟨Bc, 0, none⟩)] (fun x : BP => #[rowV x.un.1, rowV x.un.2]) (One Bc) (fun ys => ys.map BP.un = pairsL a b) (fun pre => pre.map BP.un <+: pairsL a b) (pairsL a b).length w := fun l J Jx W hW hJ _ hY h0 =>
  side1_in n hn l Ba Bb Bc a b ha hb J Jx W.heap.size hJ hY W ((hW.block Ba hBa.lt).trans hBa) ((hW.block Bb hBb.lt).trans hBb) ((hW.block Bc hBc.lt).trans hBc) h0

theorem side_any (a b : ByteArray) (w : World) :
    Calls Try.prog 39 #[.string a, .string b, .func (.func 40) #[] #[]] w fun e w' => e = .returned (.func (.func 56) #[] #[.pointer (some ⟨w.heap.size, 0, none⟩), .pointer (some ⟨w.heap.size + 1, 0, none⟩), .pointer (some ⟨w.heap.size + 1 + 1, 0, none⟩)]) ∧ w' = ((w.alloc (.cells #[.string a] 9)).alloc (.cells #[.string b] 9)).alloc (.cells #[.func (.func 40) #[] #[]] 58) := by
  go_enter Try.func39, Try.ntmps39
  go_wp2
  go_ret
  exact ⟨rfl, rfl⟩

end Go.Proofs.Ythojcidbhojlhaa
