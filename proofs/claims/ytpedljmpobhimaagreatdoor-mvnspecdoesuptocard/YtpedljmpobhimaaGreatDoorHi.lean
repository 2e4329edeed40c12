/-
  Rows of ranges in memory.
-/
import Derived.Test.YtpedljmpobhimaaGreatDoorHg
namespace Go.Proofs.YtpedljmpobhimaaGreatDoor
open Go.RowKit Go.Shelf
set_option linter.unusedVariables false

def rowM (m : Mr) : List Value := [.bool m.hasLo, .string (ofL m.lo), .bool m.loIn, .bool m.hasHi, .string (ofL m.hi), .bool m.hiIn]
def flatM (ms : List Mr) : List Value := ms.flatMap rowM
theorem flatM_cons (x : Mr) (xs : List Mr) : flatM (x :: xs) = rowM x ++ flatM xs := rfl
theorem flatM_snoc (x : Mr) (xs : List Mr) : flatM (xs ++ [x]) = flatM xs ++ rowM x := by simp [flatM]
theorem flatM_len : ∀ xs : List Mr, (flatM xs).length = xs.length * 6
  | [] => rfl
  | x :: xs => by rw [flatM_cons, List.length_append, flatM_len xs]; simp [rowM]; omega
theorem rowM_one (m : Mr) : ∀ u ∈ rowM m, u.oneCell' = true := by
  intro u hu
  simp only [rowM, List.mem_cons, List.not_mem_nil, or_false] at hu
  rcases hu with rfl | rfl | rfl | rfl | rfl | rfl <;> rfl
/-- The cells of a row of ranges. -/
def MRow (W : World) (b off : Nat) (ms : List Mr) : Prop := ∀ j u, (flatM ms)[j]? = some u → W.cell? ⟨b, off + j, none⟩ = some u
theorem MRow.of_block {W W' : World} {b off : Nat} {ms : List Mr} (h : MRow W b off ms) (hb : W'.heap[b]? = W.heap[b]?) : MRow W' b off ms := by
  intro j u hj
  have := h j u hj
  simp only [World.cell?] at this ⊢
  rw [hb]
  exact this
theorem flatM_at : ∀ (xs : List Mr) (i : Nat) (x : Mr), xs[i]? = some x → ∀ k u, (rowM x)[k]? = some u → (flatM xs)[i * 6 + k]? = some u
  | [], i, x, h, _, _, _ => by simp at h
  | y :: ys, 0, x, h, k, u, hu => by
    simp only [List.getElem?_cons_zero, Option.some.injEq] at h
    subst h
    have := (List.getElem?_eq_some_iff.1 hu).1
    rw [flatM_cons, Nat.zero_mul, Nat.zero_add, List.getElem?_append_left this]
    exact hu
  | y :: ys, i + 1, x, h, k, u, hu => by
    rw [List.getElem?_cons_succ] at h
    have ih := flatM_at ys i x h k u hu
    have hl : (rowM y).length = 6 := rfl
    rw [flatM_cons, List.getElem?_append_right (by omega), hl, show (i + 1) * 6 + k - 6 = i * 6 + k by omega]
    exact ih
/-- The six cells of one range of a row. -/
theorem MRow.six {W : World} {b off : Nat} {ms : List Mr} (h : MRow W b off ms) (i : Nat) (m : Mr) (hi : ms[i]? = some m) :
    W.cell? ⟨b, off + i * 6, none⟩ = some (.bool m.hasLo) ∧ W.cell? ⟨b, off + i * 6 + 1, none⟩ = some (.string (ofL m.lo)) ∧ W.cell? ⟨b, off + i * 6 + 2, none⟩ = some (.bool m.loIn) ∧
    W.cell? ⟨b, off + i * 6 + 3, none⟩ = some (.bool m.hasHi) ∧ W.cell? ⟨b, off + i * 6 + 4, none⟩ = some (.string (ofL m.hi)) ∧ W.cell? ⟨b, off + i * 6 + 5, none⟩ = some (.bool m.hiIn) := by
  have f := fun k u hu => h (i * 6 + k) u (flatM_at ms i m hi k u hu)
  simp only [← Nat.add_assoc] at f
  exact ⟨f 0 _ rfl, f 1 _ rfl, f 2 _ rfl, f 3 _ rfl, f 4 _ rfl, f 5 _ rfl⟩
/-- A slice of ranges in memory. -/
def Mrs (W : World) (v : Value) (ms : List Mr) : Prop :=
  ∃ a cap, v = .slice a ms.length cap ∧ (ms = [] ∨ ∃ b off, a = some ⟨b, off, none⟩ ∧ b < W.heap.size ∧ MRow W b off ms)
theorem Mrs.below {W W' : World} {v : Value} {ms : List Mr} (h : Mrs W v ms) (hb : Below W.heap.size W W') : Mrs W' v ms := by
  obtain ⟨a, cap, hv, h0 | ⟨b, off, ha, hlt, hc⟩⟩ := h
  · exact ⟨a, cap, hv, .inl h0⟩
  · exact ⟨a, cap, hv, .inr ⟨b, off, ha, Nat.lt_of_lt_of_le hlt hb.size, hc.of_block (hb.block b hlt)⟩⟩
theorem Mrs.nil (W : World) (cap : Nat) (a : Option Addr) : Mrs W (.slice a 0 cap) [] := ⟨a, cap, rfl, .inl rfl⟩
/-- A row of the call's own, in a block that came later. -/
def MrsN (n : Nat) (W : World) (v : Value) (ms : List Mr) : Prop := ∃ a cap, v = .slice a ms.length cap ∧ (ms = [] ∨ ∃ b sp, a = some ⟨b, 0, none⟩ ∧ n ≤ b ∧ W.heap[b]? = some (.cells (flatM ms ++ sp).toArray 54 (0, 0)))
theorem MrsN.mrs {n : Nat} {W : World} {v : Value} {ms : List Mr} (h : MrsN n W v ms) : Mrs W v ms := by
  obtain ⟨a, cap, hv, h0 | ⟨b, sp, ha, hn, hh⟩⟩ := h
  · exact ⟨a, cap, hv, .inl h0⟩
  · refine ⟨a, cap, hv, .inr ⟨b, 0, ha, (Array.getElem?_eq_some_iff.1 hh).1, ?_⟩⟩
    intro j u hj
    refine cell_at _ hh ?_
    rw [Nat.zero_add, List.getElem?_toArray, List.getElem?_append_left (List.getElem?_eq_some_iff.1 hj).1]
    exact hj
theorem MrsN.past {n n₀ : Nat} {W W' : World} {v : Value} {ms : List Mr} (h : MrsN n W v ms) (hp : Past n₀ W W') : MrsN n W' v ms := by
  obtain ⟨a, cap, hv, h0 | ⟨b, sp, ha, hn, hh⟩⟩ := h
  · exact ⟨a, cap, hv, .inl h0⟩
  · exact ⟨a, cap, hv, .inr ⟨b, sp, ha, hn, hp.2 _ _ hh rfl⟩⟩
theorem MrsN.other {n : Nat} {W : World} {v : Value} {ms : List Mr} (h : MrsN n W v ms) (B o : Nat) (u : Value) (hB : B < n) : MrsN n (W.setCell ⟨B, o, none⟩ u) v ms := by
  obtain ⟨a, cap, hv, h0 | ⟨b, sp, ha, hn, hh⟩⟩ := h
  · exact ⟨a, cap, hv, .inl h0⟩
  · exact ⟨a, cap, hv, .inr ⟨b, sp, ha, hn, (Below.heap_setCell _ _ _ _ (by simp only; omega)).trans hh⟩⟩
theorem own_mrs {W : World} {base : Nat} {v : Value} {ms : List Mr} (h : W.ownsRow base 54 6 v ms.length (flatM ms)) : MrsN base W v ms := by
  rcases h.2 with ⟨rfl, h0⟩ | ⟨g, cap, cur, rfl, hg, hh, _, _, hsz, ht⟩
  · exact ⟨none, 0, by rw [h0], .inl (List.length_eq_zero_iff.1 h0)⟩
  · have e : cur.toList = flatM ms ++ cur.toList.drop (ms.length * 6) := by rw [← ht, List.take_append_drop]
    exact ⟨_, cap, rfl, .inr ⟨g, cur.toList.drop (ms.length * 6), rfl, hg, by rw [← e]; simpa using hh⟩⟩
theorem cell_six_new (w : World) (e : TypeId) (x y z p q r : Value) : ∀ j u, [x, y, z, p, q, r][j]? = some u → (w.alloc (.cells #[x, y, z, p, q, r] e)).cell? ((⟨w.heap.size, 0, none⟩ : Addr).add j) = some u := by
  intro j u hj
  have h := fun j => World.cell?_alloc_mark w #[x, y, z, p, q, r] e (0, 0) j
  match j, hj with
  | 0, hj => simp at hj; subst hj; exact h 0
  | 1, hj => simp at hj; subst hj; exact h 1
  | 2, hj => simp at hj; subst hj; exact h 2
  | 3, hj => simp at hj; subst hj; exact h 3
  | 4, hj => simp at hj; subst hj; exact h 4
  | 5, hj => simp at hj; subst hj; exact h 5
theorem Tryz.info54 : (Tryz.prog.info? 54).map (fun i => (i.zero, i.size, i.bytes)) = some (some (.agg #[.bool false, .string .empty, .bool false, .bool false, .string .empty, .bool false]), 6, 56) := by kernel_rfl
theorem app_blocksM {W w1 : World} {B0 : Nat} {v : Value} {k : Nat} {xs : List Value} {tmp : Obj} (hr : W.ownsRow B0 54 6 v k xs) (hS : B0 ≤ W.heap.size) (hg : (W.alloc tmp).grownBy w1 v.ownBlock) : (∀ k, k < B0 → w1.heap[k]? = W.heap[k]?) ∧ KeepsOthers W w1 := by
  refine ⟨fun k hk => (hg.block k (by simp; omega) (fun e => ?_)).trans (Below.heap_alloc _ _ _ (by omega)), (KeepsOthers.alloc W tmp).trans (KeepsOthers.of_grownBy hg fun j o ej hj => ?_)⟩
  · rcases hr.2 with ⟨h1, _⟩ | ⟨g, cap', cur, h1, hg, _⟩
    · rw [h1] at e; cases e
    · rw [h1] at e
      simp only [Value.ownBlock, Option.some.injEq] at e
      omega
  · rcases (hr.alloc tmp).2 with ⟨h1, _⟩ | ⟨g, cap', cur, h1, _, hgb, _⟩
    · rw [h1] at ej; cases ej
    · rw [h1] at ej
      simp only [Value.ownBlock, Option.some.injEq] at ej
      subst ej
      rw [hgb] at hj; cases hj; rfl

end Go.Proofs.YtpedljmpobhimaaGreatDoor

/-
  Walks: the ranges of a text.
-/
namespace Go.Proofs.YtpedljmpobhimaaGreatDoor
open Go.RowKit Go.Shelf
set_option linter.unusedVariables false

attribute [local go_sem] Oper.semAt_some

/-- What stands behind the items so far. -/
structure RJ (w w1 : World) (f : Fo) (W : World) : Prop where
  row : ∃ v, Boxed W (w.heap.size + 1) 22 v ∧ W.ownsRow w1.heap.size 54 6 v f.ms.length (flatM f.ms) ∧ True
  flt : At W w.heap.size (.cells #[.int .i64 0, .int .i64 0] 27 (0, 0))
  pl : At W (w.heap.size + 1 + 1) (.cells #[.int .i64 (f.at' : Int)] 3 (0, 0))
  er : At W (w.heap.size + 1 + 1 + 1) (.cells #[.int .i64 f.err] 25 (0, 0))
  bel : Below w.heap.size w W
  sz : w1.heap.size ≤ W.heap.size
theorem RJ.own {w w1 : World} {f : Fo} (hz : w1.heap.size = w.heap.size + 1 + 1 + 1 + 1 + 1 + 1) : OwnFrom w1.heap.size (fun (_ : Unit) W => RJ w w1 f W) := by
  rintro u X Y row h hg hr
  exact ⟨(Own.from (holdsRow_own w1.heap.size (w.heap.size + 1) 22 54 6 (fun (_ : Unit) => f.ms.length) (fun _ => flatM f.ms) (fun _ _ => True)) w1.heap.size) () X Y row h.row hg hr, at_own (β := Unit) w1.heap.size _ _ (by omega) () X Y row h.flt hg hr, at_own (β := Unit) w1.heap.size _ _ (by omega) () X Y row h.pl hg hr, at_own (β := Unit) w1.heap.size _ _ (by omega) () X Y row h.er hg hr, (ownFrom_below (β := Unit) (Nat.le_refl _) (by omega)) () X Y row h.bel hg hr, Nat.le_trans h.sz hg.size⟩
theorem RJ.next {w w1 W W' : World} {f : Fo} (h : RJ w w1 f W) (hz : w1.heap.size = w.heap.size + 1 + 1 + 1 + 1 + 1 + 1) (hb : Below W.heap.size W W') : RJ w w1 f W' := by
  obtain ⟨v, h1, h2, h3⟩ := h.row
  have hs := h.sz
  exact ⟨⟨v, (hb.block _ h1.lt).trans h1, own_below h2 hb, h3⟩, (hb.block _ (by omega)).trans h.flt, (hb.block _ (by omega)).trans h.pl, (hb.block _ (by omega)).trans h.er, h.bel.trans (hb.mono h.bel.size), Nat.le_trans h.sz hb.size⟩
theorem set1 {W : World} {B : Nat} {t : TypeId} {u : Value} (v : Value) (h : At W B (.cells #[u] t (0, 0))) : At (W.setCell ⟨B, 0, none⟩ v) B (.cells #[v] t (0, 0)) := set_lies 0 v h
theorem set_size (W : World) (p : Addr) (v : Value) : (W.setCell p v).heap.size = W.heap.size := Array.size_modify
theorem RJ.place {w w1 W : World} {f : Fo} (h : RJ w w1 f W) (hz : w1.heap.size = w.heap.size + 1 + 1 + 1 + 1 + 1 + 1) (p : Nat) : RJ w w1 ⟨f.ms, p, f.err⟩ (W.setCell ⟨w.heap.size + 1 + 1, 0, none⟩ (.int .i64 (p : Int))) := by
  obtain ⟨v, h1, h2, h3⟩ := h.row
  exact ⟨⟨v, (Below.heap_setCell _ _ _ _ (by simp only; omega)).trans h1, ownsRow_setCell_below h2 (a := ⟨w.heap.size + 1 + 1, 0, none⟩) (by simp only; omega) _, h3⟩, (Below.heap_setCell _ _ _ _ (by simp only; omega)).trans h.flt, set1 _ h.pl, (Below.heap_setCell _ _ _ _ (by simp only; omega)).trans h.er, h.bel.setCell (p := ⟨w.heap.size + 1 + 1, 0, none⟩) (by simp only; omega) _, by rw [set_size]; exact h.sz⟩
theorem RJ.fault {w w1 W : World} {f : Fo} (h : RJ w w1 f W) (hz : w1.heap.size = w.heap.size + 1 + 1 + 1 + 1 + 1 + 1) (e : Int) : RJ w w1 ⟨f.ms, f.at', e⟩ (W.setCell ⟨w.heap.size + 1 + 1 + 1, 0, none⟩ (.int .i64 e)) := by
  obtain ⟨v, h1, h2, h3⟩ := h.row
  exact ⟨⟨v, (Below.heap_setCell _ _ _ _ (by simp only; omega)).trans h1, ownsRow_setCell_below h2 (a := ⟨w.heap.size + 1 + 1 + 1, 0, none⟩) (by simp only; omega) _, h3⟩, (Below.heap_setCell _ _ _ _ (by simp only; omega)).trans h.flt, (Below.heap_setCell _ _ _ _ (by simp only; omega)).trans h.pl, set1 _ h.er, h.bel.setCell (p := ⟨w.heap.size + 1 + 1 + 1, 0, none⟩) (by simp only; omega) _, by rw [set_size]; exact h.sz⟩
theorem kp2_below {b : Nat} {W W' : World} (h : Below W.heap.size W W') (hb : b < W.heap.size) (h1 : 1 < W.heap.size) : Kp2 b W W' := ⟨h.block _ hb, h.block _ h1, h.size⟩
theorem kp2_set {b B : Nat} (W : World) (v : Value) (hb : b ≠ B) (h1 : 1 ≠ B) : Kp2 b W (W.setCell ⟨B, 0, none⟩ v) := ⟨Below.heap_setCell _ _ _ _ (by simp only; omega), Below.heap_setCell _ _ _ _ (by simp only; omega), by rw [set_size]; exact Nat.le_refl _⟩
theorem keeps_below {W W' : World} (h : Below W.heap.size W W') : KeepsOthers W W' := KeepsOthers.of_grownBy (below_grown h) (fun j o ej _ => by cases ej)
theorem may_last {ms : List Mr} {i : Nat} {b m : Mr} (h1 : ms.length = i + 1) (h2 : ms[i]? = some b) : mayB ms m = partedL b m := by
  unfold mayB
  rw [List.getLast?_eq_getElem?, h1, Nat.add_sub_cancel, h2]
/-- The ranges so far, all items gone on. -/
structure Went (a : Nat) (pre : List It) (f : Fo) : Prop where
  e0 : f.err = 0
  len : f.ms.length ≤ pre.length
  fold : ∀ xs, foldF ⟨[], a, 0⟩ (pre ++ xs) = foldF f xs
theorem Went.go {a : Nat} {pre : List It} {f : Fo} {x : It} (h : Went a pre f) (hx : x.err = 0) (hm : mayB f.ms x.m = true) : Went a (pre ++ [x]) ⟨f.ms ++ [x.m], x.at', 0⟩ := by
  refine ⟨rfl, by have := h.len; simp; omega, fun xs => ?_⟩
  obtain ⟨m, p, e⟩ := x
  dsimp only at hx hm
  subst hx
  rw [List.append_assoc, h.fold]
  show foldF f (⟨m, p, 0⟩ :: xs) = _
  conv => lhs; unfold foldF
  rw [step_ok hm, if_pos rfl]
theorem Went.bad {a : Nat} {pre : List It} {f : Fo} {x : It} (h : Went a pre f) (hx : x.err ≠ 0) : ∀ xs, foldF ⟨[], a, 0⟩ (pre ++ [x] ++ xs) = ⟨f.ms, x.at', x.err⟩ := by
  intro xs
  have hs : stepF f x = (⟨f.ms, x.at', x.err⟩, false) := by unfold stepF; rw [if_pos hx]
  rw [List.append_assoc, h.fold]
  show foldF f (x :: xs) = _
  unfold foldF
  rw [hs]
  rfl
theorem Went.no {a : Nat} {pre : List It} {f : Fo} {x : It} (h : Went a pre f) (hx : x.err = 0) (hm : mayB f.ms x.m = false) : ∀ xs, foldF ⟨[], a, 0⟩ (pre ++ [x] ++ xs) = ⟨f.ms, x.at', 21⟩ := by
  intro xs
  have hs : stepF f x = (⟨f.ms, x.at', 21⟩, false) := by unfold stepF; rw [if_neg (by simpa using hx), if_pos hm]
  rw [List.append_assoc, h.fold]
  show foldF f (x :: xs) = _
  unfold foldF
  rw [hs]
  rfl
/-- How the loop is left. -/
structure Left9 (a : Nat) (w w1 : World) (c : Code) (pre : List It) (W : World) : Prop where
  code : c = .exit 0
  is : ∃ f, f.err ≠ 0 ∧ (∀ xs, foldF ⟨[], a, 0⟩ (pre ++ xs) = f) ∧ RJ w w1 f W
structure Goes9 (a : Nat) (w w1 : World) (pre : List It) (W : World) : Prop where
  is : ∃ f, Went a pre f ∧ RJ w w1 f W
/-- What readRanges leaves. -/
def RgPost (F : Fo) (w : World) (e : Ending) (w' : World) : Prop :=
  Below w.heap.size w w' ∧ ((F.err ≠ 0 ∧ e = .returned (.tuple #[.slice none 0 0, .agg #[.int .i64 F.err, .int .i64 (F.at' : Int)]])) ∨ (F.err = 0 ∧ ∃ v, e = .returned (.tuple #[v, .agg #[.int .i64 0, .int .i64 0]]) ∧ MrsN w.heap.size w' v F.ms))
theorem fin23 {R : Ending → World → Prop} (tmps : Array Value) (Ds : List Nat) (W : World) (n₀ B : Nat) (v e p : Value) (h1 : tmps.getD 4 undef = v) (h2 : tmps.getD 5 undef = .pointer (some ⟨B, 0, none⟩)) (e1 : W.heap[B]? = some (.cells #[e, p] 27 (0, 0)))
    (hnd : Ds.Nodup) (hD : ∀ D ∈ Ds, n₀ ≤ D ∧ W.heap[D]? = some (.deferred (some []))) (hR : ∀ W', Past n₀ W W' → R (.returned (.tuple #[v, .agg #[e, p]])) W') :
    bodyPostM Fence.wide 5 Tryz.prog Tryz.f23 R .ret { tmps := tmps, defers := marks Ds } W := by
  show LeavesInM _ _ _ _ _ _ _ _ _
  refine leaves_marks n₀ Ds W hnd hD ?_
  intro W' hW'
  have k := hW'.2 _ _ e1 rfl
  have r0 := cell_at 0 k rfl
  have r1 := cell_at 1 k rfl
  rw [Array.getD_eq_getD_getElem?] at h1 h2
  refine ⟨_, ?_, hR W' hW'⟩
  simp [results, Tryz.results23, go_sem, h1, h2, r0, r1]
  try rfl

theorem six_allocs (w : World) (o0 o1 o2 o3 o4 o5 : Obj) :
    ((((((w.alloc o0).alloc o1).alloc o2).alloc o3).alloc o4).alloc o5).heap[w.heap.size]? = some o0 ∧ ((((((w.alloc o0).alloc o1).alloc o2).alloc o3).alloc o4).alloc o5).heap[w.heap.size + 1]? = some o1 ∧
    ((((((w.alloc o0).alloc o1).alloc o2).alloc o3).alloc o4).alloc o5).heap[w.heap.size + 1 + 1]? = some o2 ∧ ((((((w.alloc o0).alloc o1).alloc o2).alloc o3).alloc o4).alloc o5).heap[w.heap.size + 1 + 1 + 1]? = some o3 ∧
    ((((((w.alloc o0).alloc o1).alloc o2).alloc o3).alloc o4).alloc o5).heap[w.heap.size + 1 + 1 + 1 + 1]? = some o4 ∧ ((((((w.alloc o0).alloc o1).alloc o2).alloc o3).alloc o4).alloc o5).heap[w.heap.size + 1 + 1 + 1 + 1 + 1]? = some o5 := by
  have k0 := World.alloc_heap_new w o0
  have k1 := World.alloc_heap_new (w.alloc o0) o1
  have k2 := World.alloc_heap_new ((w.alloc o0).alloc o1) o2
  have k3 := World.alloc_heap_new (((w.alloc o0).alloc o1).alloc o2) o3
  have k4 := World.alloc_heap_new ((((w.alloc o0).alloc o1).alloc o2).alloc o3) o4
  have k5 := World.alloc_heap_new (((((w.alloc o0).alloc o1).alloc o2).alloc o3).alloc o4) o5
  simp only [World.size_alloc] at k1 k2 k3 k4 k5
  have b1 := fun (W : World) o => (Below.refl _ W).alloc (Nat.le_refl _) o
  refine ⟨?_, ?_, ?_, ?_, ?_, k5⟩
  · exact ((b1 _ o5).block _ (by simp <;> omega)).trans (((b1 _ o4).block _ (by simp <;> omega)).trans (((b1 _ o3).block _ (by simp <;> omega)).trans (((b1 _ o2).block _ (by simp <;> omega)).trans (((b1 _ o1).block _ (by simp)).trans k0))))
  · exact ((b1 _ o5).block _ (by simp <;> omega)).trans (((b1 _ o4).block _ (by simp <;> omega)).trans (((b1 _ o3).block _ (by simp <;> omega)).trans (((b1 _ o2).block _ (by simp)).trans k1)))
  · exact ((b1 _ o5).block _ (by simp <;> omega)).trans (((b1 _ o4).block _ (by simp <;> omega)).trans (((b1 _ o3).block _ (by simp)).trans k2))
  · exact ((b1 _ o5).block _ (by simp <;> omega)).trans (((b1 _ o4).block _ (by simp)).trans k3)
  · exact ((b1 _ o5).block _ (by simp)).trans k4
theorem it_len : ∀ (n a : Nat) (r : List UInt8), (itL n a r).length ≤ n + 1
  | 0, a, r => by unfold itL; simp
  | n + 1, a, r => by
    unfold itL
    split
    · simp
    · rw [List.length_cons]
      split
      · simp
      · split
        · simp
        · have := it_len n (a + (rrR r).k + blN (r.drop (rrR r).k) + (coR (r.drop ((rrR r).k + blN (r.drop (rrR r).k)))).2) (r.drop ((rrR r).k + blN (r.drop (rrR r).k) + (coR (r.drop ((rrR r).k + blN (r.drop (rrR r).k)))).2))
          omega

set_option maxRecDepth 100000 in
set_option maxHeartbeats 6000000 in
theorem readRanges_in (s : ByteArray) (a : Nat) (w : World) (hs : s.size ≤ 256) (ha : a < s.size) (hk : Kn w) :
    CallsIn Fence.wide 5 Tryz.prog 23 #[.string s, .int .i64 (a : Int)] w (RgPost (foldF ⟨[], a, 0⟩ (itL 32 a (s.data.toList.drop a))) w) := by
  have HK := hide hk
  have hkp := hk.pos
  have hIL : (itL 32 a (s.data.toList.drop a)).length ≤ 33 := it_len 32 a _
  generalize hF : foldF ⟨[], a, 0⟩ (itL 32 a (s.data.toList.drop a)) = F
  have HF := hide hF
  clear hF
  obtain ⟨i0, hi, hz0, hz1, hz2⟩ := info_parts Tryz.info54
  refine callsIn_of_wp_marks Tryz.func23 rfl trivial (wpIn_wide.2 ?_) rfl
  simp only [Tryz.ntmps23, List.size_toArray, List.length_cons, List.length_nil, Nat.reduceAdd, Nat.reduceSub, Array.replicate_succ, Array.replicate_zero, List.push_toArray, List.append_toArray, List.nil_append, List.cons_append]
  go_wp2_with fail
  go_step3
  go_wp2_with fail
  go_step3
  go_wp2_with fail
  refine (ranges_any s a _).mono ?_
  rintro e w1 ⟨rfl, hw1⟩
  have B3 : Below w.heap.size w w1 := by rw [hw1]; exact ((((((Below.refl _ w).alloc (Nat.le_refl _) _).alloc (by simp) _).alloc (by simp; omega) _).alloc (by simp; omega) _).alloc (by simp; omega) _).alloc (by simp; omega) _
  have hz : w1.heap.size = w.heap.size + 1 + 1 + 1 + 1 + 1 + 1 := by rw [hw1]; simp
  have g := six_allocs w (.cells #[.int .i64 0, .int .i64 0] 27) (.cells #[.slice none 0 0] 22) (.cells #[.int .i64 (a : Int)] 3) (.cells #[.int .i64 0] 25) (.cells #[.string s] 9) (.cells #[.int .i64 (a : Int)] 3)
  rw [← hw1] at g
  obtain ⟨gf, g0, g2, g3, bS, bA⟩ := g
  have kn1 := hk.below hkp B3
  have EST := ranges_stops 4 (by omega) (w.heap.size + 1 + 1 + 1 + 1) (w.heap.size + 1 + 1 + 1 + 1 + 1) s a hs ha w1 bS bA kn1
  clear hw1 hk
  simp only [World.size_alloc]
  go_wp2_with fail
  refine (wpIn_wide (n := 5)).1 ?_
  obtain ⟨ACT, hACT⟩ : ∃ ACT : It → Nat → Act, ACT = fun x X => { tmps := #[.string s, .int .i64 (a : Int), undef, undef, .slice none 0 0, .pointer (some ⟨w.heap.size, 0, none⟩), .pointer (some ⟨w.heap.size + 1, 0, none⟩), .pointer (some ⟨w.heap.size + 1 + 1, 0, none⟩), .pointer (some ⟨w.heap.size + 1 + 1 + 1, 0, none⟩), .pointer (some ⟨X, 0, none⟩), .int .i64 (a : Int), .string s, .int .i64 (a : Int), .func (.func 70) #[] #[.pointer (some ⟨w.heap.size + 1 + 1 + 1 + 1 + 1, 0, none⟩), .pointer (some ⟨w.heap.size + 1 + 1 + 1 + 1, 0, none⟩)], .agg #[.bool x.m.hasLo, .string (ofL x.m.lo), .bool x.m.loIn, .bool x.m.hasHi, .string (ofL x.m.hi), .bool x.m.hiIn, .int .i64 (x.at' : Int), .int .i64 x.err], undef, undef, undef, undef, undef, undef, undef, undef, undef, undef, undef, undef, undef, undef, undef, undef, undef, undef, undef, undef, undef, undef, undef, undef, undef, undef, undef, undef, undef, undef, undef, undef, undef, undef, undef], defers := [] } := ⟨_, rfl⟩
  refine wpIn_rangeFunc_ownH rfl (by omega) (gf := 70) (lb := #[.pointer (some ⟨w.heap.size + 1 + 1 + 1 + 1 + 1, 0, none⟩), .pointer (some ⟨w.heap.size + 1 + 1 + 1 + 1, 0, none⟩)]) rfl trivial (enters_of Tryz.func70 (by kernel_rfl) rfl)
    EST Kp2.trans (kp2_b (by omega) (by omega)) (Below.refl _ _) (fun _ => rfl)
    (fun pre W => Goes9 a w w1 pre W) (fun c pre W => Left9 a w w1 c pre W)
    (fun pre X Y row h hg hr => by obtain ⟨f, h1, h2⟩ := h.is; exact ⟨f, h1, RJ.own hz () X Y row h2 hg hr⟩)
    (fun c pre X Y row h hg hr => by obtain ⟨f, h1, h2, h3⟩ := h.is; exact ⟨h.code, f, h1, h2, RJ.own hz () X Y row h3 hg hr⟩)
    ⟨⟨[], a, 0⟩, ⟨rfl, Nat.le_refl _, fun _ => rfl⟩, ⟨⟨_, g0, World.ownsRow_nil _ _ _ _, trivial⟩, gf, g2, g3, B3, Nat.le_refl _⟩⟩
    (fun x a' W => ∃ X, w1.heap.size ≤ X ∧ X < W.heap.size ∧ a' = ACT x X ∧ At W X (.cells #[.bool x.m.hasLo, .string (ofL x.m.lo), .bool x.m.loIn, .bool x.m.hasHi, .string (ofL x.m.hi), .bool x.m.hiIn, .int .i64 (x.at' : Int), .int .i64 x.err] 74 (0, 0)))
    (fun x a' u X Y row h hg hr => by
      obtain ⟨B, h1, h2, h3, h4⟩ := h
      exact ⟨B, h1, Nat.lt_of_lt_of_le h2 hg.size, h3, atc_own (β := Unit) w1.heap.size _ _ _ _ () X Y row h4 hg hr⟩) ?assign ?body ?done ?stop
  case assign =>
    rintro l pre x W K h hK
    obtain ⟨f, hW, hR⟩ := h.is
    have hsz := hR.sz
    unfold encI
    gi_wp2
    refine hK _ _ ((KeepsOthers.alloc _ _).from _) (kp2_below ((Below.refl _ W).alloc (Nat.le_refl _) _) (by omega) (by omega)) ⟨f, hW, hR.next hz ((Below.refl _ W).alloc (Nat.le_refl _) _)⟩ ⟨W.heap.size, hsz, by simp, ?_, World.alloc_heap_new W _⟩
    rw [hACT]
  case body =>
    rintro lx pre x a' Wi hlx _ h ⟨X, hX, hXW, rfl, eX⟩ hlen
    obtain ⟨f, hW, hR⟩ := h.is
    rw [hACT]
    clear hACT g0 g2 g3 gf bS bA EST kn1 B3
    dsimp only
    have hsz := hR.sz
    have HW := hide hW
    have hfl := hW.len
    obtain ⟨m, p, er⟩ := x
    dsimp only at eX ⊢
    have x6 : Wi.cell? ⟨X, 6, none⟩ = some (.int .i64 (p : Int)) := cell_at 6 eX rfl
    have x7 : Wi.cell? ⟨X, 7, none⟩ = some (.int .i64 er) := cell_at 7 eX rfl
    have q2 : Wi.cell? ⟨w.heap.size + 1 + 1, 0, none⟩ = some (.int .i64 (f.at' : Int)) := cell_at 0 hR.pl rfl
    have q3 : Wi.cell? ⟨w.heap.size + 1 + 1 + 1, 0, none⟩ = some (.int .i64 f.err) := cell_at 0 hR.er rfl
    have f2 : Wi.frozen? ⟨w.heap.size + 1 + 1, 0, none⟩ = false := one_free 0 hR.pl
    have f3 : Wi.frozen? ⟨w.heap.size + 1 + 1 + 1, 0, none⟩ = false := one_free 0 hR.er
    have hx2 : X ≠ w.heap.size + 1 + 1 := by omega
    have hx3 : X ≠ w.heap.size + 1 + 1 + 1 := by omega
    gi_wp2
    refine wpIn_mono (Q := fun e a' W => e = .normal ∧ a' = { tmps := #[.string s, .int .i64 (a : Int), undef, undef, .slice none 0 0, .pointer (some ⟨w.heap.size, 0, none⟩), .pointer (some ⟨w.heap.size + 1, 0, none⟩), .pointer (some ⟨w.heap.size + 1 + 1, 0, none⟩), .pointer (some ⟨w.heap.size + 1 + 1 + 1, 0, none⟩), .pointer (some ⟨X, 0, none⟩), .int .i64 (a : Int), .string s, .int .i64 (a : Int), .func (.func 70) #[] #[.pointer (some ⟨w.heap.size + 1 + 1 + 1 + 1 + 1, 0, none⟩), .pointer (some ⟨w.heap.size + 1 + 1 + 1 + 1, 0, none⟩)], .agg #[.bool m.hasLo, .string (ofL m.lo), .bool m.loIn, .bool m.hasHi, .string (ofL m.hi), .bool m.hiIn, .int .i64 (p : Int), .int .i64 er], .pointer (some ⟨X, 6, none⟩), .int .i64 (p : Int), .pointer (some ⟨X, 7, none⟩), .int .i64 er, undef, undef, undef, undef, undef, undef, undef, undef, undef, undef, undef, undef, undef, undef, undef, undef, undef, undef, undef, undef, undef, undef, undef, undef, undef, undef, undef, undef, undef, undef, undef], defers := [] } ∧ W = ((Wi.setCell ⟨w.heap.size + 1 + 1, 0, none⟩ (.int .i64 (p : Int))).setCell ⟨w.heap.size + 1 + 1 + 1, 0, none⟩ (.int .i64 er)).drew) ?reg5 ?rest5
    case reg5 =>
      refine wpIn_region_any (by kernel_rfl) ?_
      refine wpAnyIn_round (F := Fence.wide) rfl (noDefer_of (by kernel_rfl)) _ _ _ _ ?_
      change wpAnyIn _ _ _ _ _ _ _ _ _ (World.drew _)
      refine wpAnyIn_take (i := 0) (v := ?_) rfl rfl (by kernel_rfl) (by kernel_rfl) (by kernel_rfl) (fun _ _ _ h => nomatch h.1) ⟨Or.inl ⟨by rfl, ?_⟩, fun _ => rfl⟩ ?_
      rotate_left
      · intro w; go_simp
        try with_reducible rfl
      refine wpAnyIn_take (i := 2) (v := ?_) rfl rfl (by kernel_rfl) (by kernel_rfl) (by kernel_rfl) (fun _ _ _ h => nomatch h.1) ⟨Or.inl ⟨by rfl, ?_⟩, fun _ => rfl⟩ ?_
      rotate_left
      · intro w; go_simp
        try with_reducible rfl
      refine wpAnyIn_ready (rs := [1, 3]) (by kernel_rfl) (by simp) ?_
      refine AllReadyIn.cons rfl (fun K hK => ?_) ?_
      · go_simp
        refine hK _ _ ?_
        clear hK K
        refine wpAnyIn_ready (rs := [3, 4]) (by kernel_rfl) (by simp) ?_
        refine AllReadyIn.cons rfl (fun K hK => ?_) ?_
        · go_simp
          refine hK _ _ ?_
          clear hK K
          refine wpAnyIn_ready (rs := [4]) (by kernel_rfl) (by simp) ?_
          refine AllReadyIn.cons rfl (fun K hK => ?_) ?_
          · go_simp
            refine hK _ _ ?_
            clear hK K
            refine wpAnyIn_ready (rs := [5]) (by kernel_rfl) (by simp) ?_
            refine AllReadyIn.cons rfl (fun K hK => ?_) ?_
            · go_simp
              refine hK _ _ ?_
              clear hK K
              refine wpAnyIn_done (by kernel_rfl) ?_ _
              exact ⟨rfl, rfl, rfl⟩
            exact AllReadyIn.nil
          exact AllReadyIn.nil
        refine AllReadyIn.cons rfl (fun K hK => ?_) ?_
        · go_simp
          refine hK _ _ ?_
          clear hK K
          refine wpAnyIn_ready (rs := [3]) (by kernel_rfl) (by simp) ?_
          refine AllReadyIn.cons rfl (fun K hK => ?_) ?_
          · go_simp
            refine hK _ _ ?_
            clear hK K
            refine wpAnyIn_ready (rs := [5]) (by kernel_rfl) (by simp) ?_
            refine AllReadyIn.cons rfl (fun K hK => ?_) ?_
            · go_simp
              refine hK _ _ ?_
              clear hK K
              refine wpAnyIn_done (by kernel_rfl) ?_ _
              exact ⟨rfl, rfl, rfl⟩
            exact AllReadyIn.nil
          exact AllReadyIn.nil
        exact AllReadyIn.nil
      refine AllReadyIn.cons rfl (fun K hK => ?_) ?_
      · go_simp
        refine hK _ _ ?_
        clear hK K
        refine wpAnyIn_ready (rs := [1]) (by kernel_rfl) (by simp) ?_
        refine AllReadyIn.cons rfl (fun K hK => ?_) ?_
        · go_simp
          refine hK _ _ ?_
          clear hK K
          refine wpAnyIn_ready (rs := [4]) (by kernel_rfl) (by simp) ?_
          refine AllReadyIn.cons rfl (fun K hK => ?_) ?_
          · go_simp
            refine hK _ _ ?_
            clear hK K
            refine wpAnyIn_ready (rs := [5]) (by kernel_rfl) (by simp) ?_
            refine AllReadyIn.cons rfl (fun K hK => ?_) ?_
            · go_simp
              refine hK _ _ ?_
              clear hK K
              refine wpAnyIn_done (by kernel_rfl) ?_ _
              exact ⟨rfl, rfl, rfl⟩
            exact AllReadyIn.nil
          exact AllReadyIn.nil
        exact AllReadyIn.nil
      exact AllReadyIn.nil

    case rest5 =>
      rintro _ _ _ ⟨rfl, rfl, rfl⟩
      have R50 : RJ w w1 ⟨f.ms, p, er⟩ ((Wi.setCell ⟨w.heap.size + 1 + 1, 0, none⟩ (.int .i64 (p : Int))).setCell ⟨w.heap.size + 1 + 1 + 1, 0, none⟩ (.int .i64 er)) := (hR.place hz p).fault hz er
      have hBd : Below ((Wi.setCell ⟨w.heap.size + 1 + 1, 0, none⟩ (.int .i64 (p : Int))).setCell ⟨w.heap.size + 1 + 1 + 1, 0, none⟩ (.int .i64 er)).heap.size ((Wi.setCell ⟨w.heap.size + 1 + 1, 0, none⟩ (.int .i64 (p : Int))).setCell ⟨w.heap.size + 1 + 1 + 1, 0, none⟩ (.int .i64 er)) ((Wi.setCell ⟨w.heap.size + 1 + 1, 0, none⟩ (.int .i64 (p : Int))).setCell ⟨w.heap.size + 1 + 1 + 1, 0, none⟩ (.int .i64 er)).drew := below_drewN _ _ 1
      have R5 := R50.next hz hBd
      have K5 := ((kp2_set Wi (b := w.heap.size + 1 + 1 + 1 + 1) (B := w.heap.size + 1 + 1) (.int .i64 (p : Int)) (by omega) (by omega)).trans (kp2_set _ (B := w.heap.size + 1 + 1 + 1) (.int .i64 er) (by omega) (by omega))).trans (kp2_below hBd (by rw [set_size, set_size]; omega) (by rw [set_size, set_size]; omega))
      have O5 := ((KeepsOthers.setCell Wi ⟨w.heap.size + 1 + 1, 0, none⟩ (.int .i64 (p : Int))).trans (KeepsOthers.setCell _ ⟨w.heap.size + 1 + 1 + 1, 0, none⟩ (.int .i64 er))).trans (keeps_below hBd)
      have LX50 : X < ((Wi.setCell ⟨w.heap.size + 1 + 1, 0, none⟩ (.int .i64 (p : Int))).setCell ⟨w.heap.size + 1 + 1 + 1, 0, none⟩ (.int .i64 er)).heap.size := by rw [set_size, set_size]; exact hXW
      have LX5 := Nat.lt_of_lt_of_le LX50 hBd.size
      have eX5 : At ((Wi.setCell ⟨w.heap.size + 1 + 1, 0, none⟩ (.int .i64 (p : Int))).setCell ⟨w.heap.size + 1 + 1 + 1, 0, none⟩ (.int .i64 er)).drew X _ := (hBd.block _ LX50).trans ((Below.heap_setCell _ _ _ _ (by simp only; omega)).trans ((Below.heap_setCell _ _ _ _ (by simp only; omega)).trans eX))
      clear x6 x7 q2 q3 f2 f3 hR eX hXW R50 hBd LX50
      generalize ((Wi.setCell ⟨w.heap.size + 1 + 1, 0, none⟩ (.int .i64 (p : Int))).setCell ⟨w.heap.size + 1 + 1 + 1, 0, none⟩ (.int .i64 er)).drew = W5 at *
      have q3 : W5.cell? ⟨w.heap.size + 1 + 1 + 1, 0, none⟩ = some (.int .i64 er) := cell_at 0 R5.er rfl
      by_cases hx : er = 0
      · subst hx
        gi_wp2
        have B6 : Below W5.heap.size W5 W5.drew := below_drewN _ W5 1
        have R6 := R5.next hz B6
        have kn6 : Kn W5.drew := HK.out.below HK.out.pos R6.bel
        have eX6 : At W5.drew X _ := (B6.block _ LX5).trans eX5
        have K6 := K5.trans (kp2_below (b := w.heap.size + 1 + 1 + 1 + 1) B6 (by have := R5.sz; omega) (by have := R5.sz; omega))
        generalize hY : (!mayB f.ms m) = Y
        refine wpIn_mono (Q := fun e a' W => ∃ y23 y24 y25 y26 y27 y28 y29 y30 y31 y32 y33 y34 y35 y36 y37, e = .normal ∧ a' = { tmps := #[.string s, .int .i64 (a : Int), undef, undef, .slice none 0 0, .pointer (some ⟨w.heap.size, 0, none⟩), .pointer (some ⟨w.heap.size + 1, 0, none⟩), .pointer (some ⟨w.heap.size + 1 + 1, 0, none⟩), .pointer (some ⟨w.heap.size + 1 + 1 + 1, 0, none⟩), .pointer (some ⟨X, 0, none⟩), .int .i64 (a : Int), .string s, .int .i64 (a : Int), .func (.func 70) #[] #[.pointer (some ⟨w.heap.size + 1 + 1 + 1 + 1 + 1, 0, none⟩), .pointer (some ⟨w.heap.size + 1 + 1 + 1 + 1, 0, none⟩)], .agg #[.bool m.hasLo, .string (ofL m.lo), .bool m.loIn, .bool m.hasHi, .string (ofL m.hi), .bool m.hiIn, .int .i64 (p : Int), .int .i64 0], .pointer (some ⟨X, 6, none⟩), .int .i64 (p : Int), .pointer (some ⟨X, 7, none⟩), .int .i64 0, .bool false, .int .i64 0, .bool false, .bool Y, y23, y24, y25, y26, y27, y28, y29, y30, y31, y32, y33, y34, y35, y36, y37, undef, undef, undef, undef, undef, undef, undef, undef, undef, undef, undef, undef], defers := [] } ∧ Below W5.heap.size W5 W) ?reg7 ?rest7
        case reg7 =>
          obtain ⟨v, hv, hr, _⟩ := R5.row
          dsimp only at hr
          obtain ⟨ao, cv, rfl⟩ : ∃ ao cv, v = .slice ao f.ms.length cv := by
            rcases hr.2 with ⟨h, h0⟩ | ⟨g, cap, cur, h1, _⟩
            · exact ⟨none, 0, by rw [h]; exact congrArg (fun k => Value.slice none k 0) h0.symm⟩
            · exact ⟨_, _, h1⟩
          have cV := hv.cell
          cases hl : f.ms.length with
          | zero =>
            have hms : f.ms = [] := List.length_eq_zero_iff.1 hl
            rw [hms] at hY
            have hY' : Y = false := by rw [← hY]; rfl
            subst hY'
            rw [hl] at cV
            clear hv hr hY hms R6
            refine wpIn_region_any (by kernel_rfl) ?_
            refine wpAnyIn_round (F := Fence.wide) rfl (noDefer_of (by kernel_rfl)) _ _ _ _ ?_
            change wpAnyIn _ _ _ _ _ _ _ _ _ (World.drew _)
            refine wpAnyIn_ready (rs := [0]) (by kernel_rfl) (by simp) ?_
            refine AllReadyIn.cons rfl (fun K hK => ?_) ?_
            · go_simp
              refine hK _ _ ?_
              clear hK K
              refine wpAnyIn_ready (rs := [1]) (by kernel_rfl) (by simp) ?_
              refine AllReadyIn.cons rfl (fun K hK => ?_) ?_
              · go_simp
                refine hK _ _ ?_
                clear hK K
                refine wpAnyIn_ready (rs := [2]) (by kernel_rfl) (by simp) ?_
                refine AllReadyIn.cons rfl (fun K hK => ?_) ?_
                · go_simp
                  refine hK _ _ ?_
                  clear hK K
                  refine wpAnyIn_ready (rs := [3]) (by kernel_rfl) (by simp) ?_
                  refine AllReadyIn.cons rfl (fun K hK => ?_) ?_
                  · go_simp
                    refine hK _ _ ?_
                    clear hK K
                    refine wpAnyIn_take (i := 10) (v := undef) rfl rfl (by kernel_rfl) (by kernel_rfl) (by kernel_rfl) (fun _ _ _ h => (by obtain ⟨_, _, _, _, _, _, _, _, _, _, _, _, _, _, _, h, _⟩ := h; cases h)) ⟨Or.inr ⟨by rfl, rfl⟩, fun _ => rfl⟩ ?_
                    refine wpAnyIn_take (i := 11) (v := undef) rfl rfl (by kernel_rfl) (by kernel_rfl) (by kernel_rfl) (fun _ _ _ h => (by obtain ⟨_, _, _, _, _, _, _, _, _, _, _, _, _, _, _, h, _⟩ := h; cases h)) ⟨Or.inr ⟨by rfl, rfl⟩, fun _ => rfl⟩ ?_
                    refine wpAnyIn_take (i := 4) (v := undef) rfl rfl (by kernel_rfl) (by kernel_rfl) (by kernel_rfl) (fun _ _ _ h => (by obtain ⟨_, _, _, _, _, _, _, _, _, _, _, _, _, _, _, h, _⟩ := h; cases h)) ⟨Or.inr ⟨by rfl, rfl⟩, fun _ => rfl⟩ ?_
                    refine wpAnyIn_ready (rs := [5]) (by kernel_rfl) (by simp) ?_
                    refine AllReadyIn.cons rfl (fun K hK => ?_) ?_
                    · go_simp
                      refine hK _ _ ?_
                      clear hK K
                      refine wpAnyIn_ready (rs := [6]) (by kernel_rfl) (by simp) ?_
                      refine AllReadyIn.cons rfl (fun K hK => ?_) ?_
                      · go_simp
                        refine hK _ _ ?_
                        clear hK K
                        refine wpAnyIn_ready (rs := [7]) (by kernel_rfl) (by simp) ?_
                        refine AllReadyIn.cons rfl (fun K hK => ?_) ?_
                        · go_simp
                          refine hK _ _ ?_
                          clear hK K
                          refine wpAnyIn_ready (rs := [8]) (by kernel_rfl) (by simp) ?_
                          refine AllReadyIn.cons rfl (fun K hK => ?_) ?_
                          · go_simp
                            refine hK _ _ ?_
                            clear hK K
                            refine wpAnyIn_ready (rs := [9]) (by kernel_rfl) (by simp) ?_
                            refine AllReadyIn.cons rfl (fun K hK => ?_) ?_
                            · go_simp
                              refine hK _ _ ?_
                              clear hK K
                              refine wpAnyIn_ready (rs := [12]) (by kernel_rfl) (by simp) ?_
                              refine AllReadyIn.cons rfl (fun K hK => ?_) ?_
                              · go_simp
                                refine ⟨trivial, ?_⟩
                                refine hK _ _ ?_
                                clear hK K
                                refine wpAnyIn_ready (rs := [13]) (by kernel_rfl) (by simp) ?_
                                refine AllReadyIn.cons rfl (fun K hK => ?_) ?_
                                · go_simp
                                  refine hK _ _ ?_
                                  clear hK K
                                  refine wpAnyIn_ready (rs := [14]) (by kernel_rfl) (by simp) ?_
                                  refine AllReadyIn.cons rfl (fun K hK => ?_) ?_
                                  · go_simp
                                    refine hK _ _ ?_
                                    clear hK K
                                    refine wpAnyIn_ready (rs := [15]) (by kernel_rfl) (by simp) ?_
                                    refine AllReadyIn.cons rfl (fun K hK => ?_) ?_
                                    · go_simp
                                      refine hK _ _ ?_
                                      clear hK K
                                      refine wpAnyIn_done (by kernel_rfl) ?_ _
                                      exact ⟨_, _, _, _, _, _, _, _, _, _, _, _, _, _, _, rfl, rfl, B6⟩
                                    exact AllReadyIn.nil
                                  exact AllReadyIn.nil
                                exact AllReadyIn.nil
                              exact AllReadyIn.nil
                            exact AllReadyIn.nil
                          exact AllReadyIn.nil
                        exact AllReadyIn.nil
                      exact AllReadyIn.nil
                    exact AllReadyIn.nil
                  exact AllReadyIn.nil
                exact AllReadyIn.nil
              exact AllReadyIn.nil
            exact AllReadyIn.nil
          | succ i =>
            obtain ⟨b0, hb0⟩ : ∃ b0, f.ms[i]? = some b0 := ⟨_, List.getElem?_eq_getElem (by omega)⟩
            have hY' : Y = !partedL b0 m := by rw [← hY, may_last hl hb0]
            have PT : Hid (∀ W, Kn W → Calls Tryz.prog 47 #[.agg #[.bool b0.hasLo, .string (ofL b0.lo), .bool b0.loIn, .bool b0.hasHi, .string (ofL b0.hi), .bool b0.hiIn], .agg #[.bool m.hasLo, .string (ofL m.lo), .bool m.loIn, .bool m.hasHi, .string (ofL m.hi), .bool m.hiIn]] W fun e w' => e = .returned (.bool (partedL b0 m)) ∧ Below W.heap.size W w') := fun W hW => parted_any b0 m W hW
            generalize partedL b0 m = pt at *
            subst hY'
            obtain ⟨ao', cap, hv', h0 | ⟨gb, sp, rfl, hgb, hh⟩⟩ := own_mrs hr
            · rw [h0] at hl; cases hl
            · obtain ⟨_, _, h1, h2 | ⟨gb', off', h2, h3, h4⟩⟩ := (own_mrs hr).mrs
              · rw [h2] at hl; cases hl
              · cases hv'
                cases h1
                cases h2
                obtain ⟨r0, r1, r2, r3, r4, r5⟩ := h4.six i b0 hb0
                rw [Nat.zero_add] at r0 r1 r2 r3 r4 r5
                rw [hl] at cV
                have hi33 : i ≤ 33 := by omega
                have hii : (i : Int) < (i : Int) + 1 := by omega
                have hwr : IntKind.i64.wrap (i : Int) = (i : Int) := by rw [IntKind.wrap_i64]; omega
                have c0 : W5.cell? ⟨X, 0, none⟩ = some (.bool m.hasLo) := cell_at 0 eX5 rfl
                have c1 : W5.cell? ⟨X, 1, none⟩ = some (.string (ofL m.lo)) := cell_at 1 eX5 rfl
                have c2 : W5.cell? ⟨X, 2, none⟩ = some (.bool m.loIn) := cell_at 2 eX5 rfl
                have c3 : W5.cell? ⟨X, 3, none⟩ = some (.bool m.hasHi) := cell_at 3 eX5 rfl
                have c4 : W5.cell? ⟨X, 4, none⟩ = some (.string (ofL m.hi)) := cell_at 4 eX5 rfl
                have c5 : W5.cell? ⟨X, 5, none⟩ = some (.bool m.hiIn) := cell_at 5 eX5 rfl
                clear hr hv hh h3 h4 R6 hY
                refine wpIn_region_any (by kernel_rfl) ?_
                refine wpAnyIn_round (F := Fence.wide) rfl (noDefer_of (by kernel_rfl)) _ _ _ _ ?_
                change wpAnyIn _ _ _ _ _ _ _ _ _ (World.drew _)
                refine wpAnyIn_ready (rs := [0]) (by kernel_rfl) (by simp) ?_
                refine AllReadyIn.cons rfl (fun K hK => ?_) ?_
                · go_simp
                  refine hK _ _ ?_
                  clear hK K
                  refine wpAnyIn_ready (rs := [1]) (by kernel_rfl) (by simp) ?_
                  refine AllReadyIn.cons rfl (fun K hK => ?_) ?_
                  · go_simp
                    refine hK _ _ ?_
                    clear hK K
                    refine wpAnyIn_ready (rs := [2]) (by kernel_rfl) (by simp) ?_
                    refine AllReadyIn.cons rfl (fun K hK => ?_) ?_
                    · go_simp
                      refine hK _ _ ?_
                      clear hK K
                      refine wpAnyIn_ready (rs := [3]) (by kernel_rfl) (by simp) ?_
                      refine AllReadyIn.cons rfl (fun K hK => ?_) ?_
                      · go_simp
                        refine hK _ _ ?_
                        clear hK K
                        refine wpAnyIn_take (i := 10) (v := ?_) rfl rfl (by kernel_rfl) (by kernel_rfl) (by kernel_rfl) (fun _ _ _ h => (by obtain ⟨_, _, _, _, _, _, _, _, _, _, _, _, _, _, _, h, _⟩ := h; cases h)) ⟨Or.inl ⟨by rfl, ?_⟩, fun _ => rfl⟩ ?_
                        rotate_left
                        · intro w; go_simp
                          try with_reducible rfl
                        refine wpAnyIn_ready (rs := [4, 5, 11]) (by kernel_rfl) (by simp) ?_
                        refine AllReadyIn.cons rfl (fun K hK => ?_) ?_
                        · go_simp
                          refine hK _ _ ?_
                          clear hK K
                          refine wpAnyIn_ready (rs := [5, 11]) (by kernel_rfl) (by simp) ?_
                          refine AllReadyIn.cons rfl (fun K hK => ?_) ?_
                          · go_simp
                            refine hK _ _ ?_
                            clear hK K
                            refine wpAnyIn_take (i := 6) (v := ?_) rfl rfl (by kernel_rfl) (by kernel_rfl) (by kernel_rfl) (fun _ _ _ h => (by obtain ⟨_, _, _, _, _, _, _, _, _, _, _, _, _, _, _, h, _⟩ := h; cases h)) ⟨Or.inl ⟨by rfl, ?_⟩, fun _ => rfl⟩ ?_
                            rotate_left
                            · intro w; go_simp
                              try with_reducible rfl
                            refine wpAnyIn_take (i := 7) (v := ?_) rfl rfl (by kernel_rfl) (by kernel_rfl) (by kernel_rfl) (fun _ _ _ h => (by obtain ⟨_, _, _, _, _, _, _, _, _, _, _, _, _, _, _, h, _⟩ := h; cases h)) ⟨Or.inl ⟨by rfl, ?_⟩, fun _ => rfl⟩ ?_
                            rotate_left
                            · intro w; go_simp
                              try with_reducible rfl
                            refine wpAnyIn_take (i := 8) (v := ?_) rfl rfl (by kernel_rfl) (by kernel_rfl) (by kernel_rfl) (fun _ _ _ h => (by obtain ⟨_, _, _, _, _, _, _, _, _, _, _, _, _, _, _, h, _⟩ := h; cases h)) ⟨Or.inl ⟨by rfl, ?_⟩, fun _ => rfl⟩ ?_
                            rotate_left
                            · intro w; go_simp
                              try with_reducible rfl
                            refine wpAnyIn_ready (rs := [9, 11]) (by kernel_rfl) (by simp) ?_
                            refine AllReadyIn.cons rfl (fun K hK => ?_) ?_
                            · go_simp
                              refine hK _ _ ?_
                              clear hK K
                              refine wpAnyIn_ready (rs := [11]) (by kernel_rfl) (by simp) ?_
                              refine AllReadyIn.cons rfl (fun K hK => ?_) ?_
                              · go_simp
                                refine hK _ _ ?_
                                clear hK K
                                refine wpAnyIn_ready (rs := [12]) (by kernel_rfl) (by simp) ?_
                                refine AllReadyIn.cons rfl (fun K hK => ?_) ?_
                                · go_simp
                                  refine ⟨trivial, (callsIn_wide.2 (PT.out _ kn6)).mono ?_⟩
                                  rintro e w2 ⟨rfl, b2⟩
                                  have hB2 := B6.trans (b2.mono B6.size)
                                  refine hK _ _ ?_
                                  clear hK K
                                  refine wpAnyIn_ready (rs := [13]) (by kernel_rfl) (by simp) ?_
                                  refine AllReadyIn.cons rfl (fun K hK => ?_) ?_
                                  · go_simp
                                    refine hK _ _ ?_
                                    clear hK K
                                    refine wpAnyIn_ready (rs := [14]) (by kernel_rfl) (by simp) ?_
                                    refine AllReadyIn.cons rfl (fun K hK => ?_) ?_
                                    · go_simp
                                      refine hK _ _ ?_
                                      clear hK K
                                      refine wpAnyIn_ready (rs := [15]) (by kernel_rfl) (by simp) ?_
                                      refine AllReadyIn.cons rfl (fun K hK => ?_) ?_
                                      · go_simp
                                        refine hK _ _ ?_
                                        clear hK K
                                        refine wpAnyIn_done (by kernel_rfl) ?_ _
                                        exact ⟨_, _, _, _, _, _, _, _, _, _, _, _, _, _, _, rfl, rfl, hB2⟩
                                      exact AllReadyIn.nil
                                    exact AllReadyIn.nil
                                  exact AllReadyIn.nil
                                exact AllReadyIn.nil
                              exact AllReadyIn.nil
                            refine AllReadyIn.cons rfl (fun K hK => ?_) ?_
                            · go_simp
                              refine hK _ _ ?_
                              clear hK K
                              refine wpAnyIn_ready (rs := [9]) (by kernel_rfl) (by simp) ?_
                              refine AllReadyIn.cons rfl (fun K hK => ?_) ?_
                              · go_simp
                                refine hK _ _ ?_
                                clear hK K
                                refine wpAnyIn_ready (rs := [12]) (by kernel_rfl) (by simp) ?_
                                refine AllReadyIn.cons rfl (fun K hK => ?_) ?_
                                · go_simp
                                  refine ⟨trivial, (callsIn_wide.2 (PT.out _ kn6)).mono ?_⟩
                                  rintro e w2 ⟨rfl, b2⟩
                                  have hB2 := B6.trans (b2.mono B6.size)
                                  refine hK _ _ ?_
                                  clear hK K
                                  refine wpAnyIn_ready (rs := [13]) (by kernel_rfl) (by simp) ?_
                                  refine AllReadyIn.cons rfl (fun K hK => ?_) ?_
                                  · go_simp
                                    refine hK _ _ ?_
                                    clear hK K
                                    refine wpAnyIn_ready (rs := [14]) (by kernel_rfl) (by simp) ?_
                                    refine AllReadyIn.cons rfl (fun K hK => ?_) ?_
                                    · go_simp
                                      refine hK _ _ ?_
                                      clear hK K
                                      refine wpAnyIn_ready (rs := [15]) (by kernel_rfl) (by simp) ?_
                                      refine AllReadyIn.cons rfl (fun K hK => ?_) ?_
                                      · go_simp
                                        refine hK _ _ ?_
                                        clear hK K
                                        refine wpAnyIn_done (by kernel_rfl) ?_ _
                                        exact ⟨_, _, _, _, _, _, _, _, _, _, _, _, _, _, _, rfl, rfl, hB2⟩
                                      exact AllReadyIn.nil
                                    exact AllReadyIn.nil
                                  exact AllReadyIn.nil
                                exact AllReadyIn.nil
                              exact AllReadyIn.nil
                            exact AllReadyIn.nil
                          refine AllReadyIn.cons rfl (fun K hK => ?_) ?_
                          · go_simp
                            refine hK _ _ ?_
                            clear hK K
                            refine wpAnyIn_ready (rs := [5]) (by kernel_rfl) (by simp) ?_
                            refine AllReadyIn.cons rfl (fun K hK => ?_) ?_
                            · go_simp
                              refine hK _ _ ?_
                              clear hK K
                              refine wpAnyIn_ready (rs := [6]) (by kernel_rfl) (by simp) ?_
                              refine AllReadyIn.cons rfl (fun K hK => ?_) ?_
                              · go_simp
                                refine hK _ _ ?_
                                clear hK K
                                refine wpAnyIn_ready (rs := [7]) (by kernel_rfl) (by simp) ?_
                                refine AllReadyIn.cons rfl (fun K hK => ?_) ?_
                                · go_simp
                                  refine hK _ _ ?_
                                  clear hK K
                                  refine wpAnyIn_ready (rs := [8]) (by kernel_rfl) (by simp) ?_
                                  refine AllReadyIn.cons rfl (fun K hK => ?_) ?_
                                  · go_simp
                                    refine hK _ _ ?_
                                    clear hK K
                                    refine wpAnyIn_ready (rs := [9]) (by kernel_rfl) (by simp) ?_
                                    refine AllReadyIn.cons rfl (fun K hK => ?_) ?_
                                    · go_simp
                                      refine hK _ _ ?_
                                      clear hK K
                                      refine wpAnyIn_ready (rs := [12]) (by kernel_rfl) (by simp) ?_
                                      refine AllReadyIn.cons rfl (fun K hK => ?_) ?_
                                      · go_simp
                                        refine ⟨trivial, (callsIn_wide.2 (PT.out _ kn6)).mono ?_⟩
                                        rintro e w2 ⟨rfl, b2⟩
                                        have hB2 := B6.trans (b2.mono B6.size)
                                        refine hK _ _ ?_
                                        clear hK K
                                        refine wpAnyIn_ready (rs := [13]) (by kernel_rfl) (by simp) ?_
                                        refine AllReadyIn.cons rfl (fun K hK => ?_) ?_
                                        · go_simp
                                          refine hK _ _ ?_
                                          clear hK K
                                          refine wpAnyIn_ready (rs := [14]) (by kernel_rfl) (by simp) ?_
                                          refine AllReadyIn.cons rfl (fun K hK => ?_) ?_
                                          · go_simp
                                            refine hK _ _ ?_
                                            clear hK K
                                            refine wpAnyIn_ready (rs := [15]) (by kernel_rfl) (by simp) ?_
                                            refine AllReadyIn.cons rfl (fun K hK => ?_) ?_
                                            · go_simp
                                              refine hK _ _ ?_
                                              clear hK K
                                              refine wpAnyIn_done (by kernel_rfl) ?_ _
                                              exact ⟨_, _, _, _, _, _, _, _, _, _, _, _, _, _, _, rfl, rfl, hB2⟩
                                            exact AllReadyIn.nil
                                          exact AllReadyIn.nil
                                        exact AllReadyIn.nil
                                      exact AllReadyIn.nil
                                    exact AllReadyIn.nil
                                  exact AllReadyIn.nil
                                exact AllReadyIn.nil
                              exact AllReadyIn.nil
                            exact AllReadyIn.nil
                          exact AllReadyIn.nil
                        refine AllReadyIn.cons rfl (fun K hK => ?_) ?_
                        · go_simp
                          refine hK _ _ ?_
                          clear hK K
                          refine wpAnyIn_take (i := 6) (v := ?_) rfl rfl (by kernel_rfl) (by kernel_rfl) (by kernel_rfl) (fun _ _ _ h => (by obtain ⟨_, _, _, _, _, _, _, _, _, _, _, _, _, _, _, h, _⟩ := h; cases h)) ⟨Or.inl ⟨by rfl, ?_⟩, fun _ => rfl⟩ ?_
                          rotate_left
                          · intro w; go_simp
                            try with_reducible rfl
                          refine wpAnyIn_take (i := 7) (v := ?_) rfl rfl (by kernel_rfl) (by kernel_rfl) (by kernel_rfl) (fun _ _ _ h => (by obtain ⟨_, _, _, _, _, _, _, _, _, _, _, _, _, _, _, h, _⟩ := h; cases h)) ⟨Or.inl ⟨by rfl, ?_⟩, fun _ => rfl⟩ ?_
                          rotate_left
                          · intro w; go_simp
                            try with_reducible rfl
                          refine wpAnyIn_ready (rs := [4, 11]) (by kernel_rfl) (by simp) ?_
                          refine AllReadyIn.cons rfl (fun K hK => ?_) ?_
                          · go_simp
                            refine hK _ _ ?_
                            clear hK K
                            refine wpAnyIn_take (i := 8) (v := ?_) rfl rfl (by kernel_rfl) (by kernel_rfl) (by kernel_rfl) (fun _ _ _ h => (by obtain ⟨_, _, _, _, _, _, _, _, _, _, _, _, _, _, _, h, _⟩ := h; cases h)) ⟨Or.inl ⟨by rfl, ?_⟩, fun _ => rfl⟩ ?_
                            rotate_left
                            · intro w; go_simp
                              try with_reducible rfl
                            refine wpAnyIn_ready (rs := [9, 11]) (by kernel_rfl) (by simp) ?_
                            refine AllReadyIn.cons rfl (fun K hK => ?_) ?_
                            · go_simp
                              refine hK _ _ ?_
                              clear hK K
                              refine wpAnyIn_ready (rs := [11]) (by kernel_rfl) (by simp) ?_
                              refine AllReadyIn.cons rfl (fun K hK => ?_) ?_
                              · go_simp
                                refine hK _ _ ?_
                                clear hK K
                                refine wpAnyIn_ready (rs := [12]) (by kernel_rfl) (by simp) ?_
                                refine AllReadyIn.cons rfl (fun K hK => ?_) ?_
                                · go_simp
                                  refine ⟨trivial, (callsIn_wide.2 (PT.out _ kn6)).mono ?_⟩
                                  rintro e w2 ⟨rfl, b2⟩
                                  have hB2 := B6.trans (b2.mono B6.size)
                                  refine hK _ _ ?_
                                  clear hK K
                                  refine wpAnyIn_ready (rs := [13]) (by kernel_rfl) (by simp) ?_
                                  refine AllReadyIn.cons rfl (fun K hK => ?_) ?_
                                  · go_simp
                                    refine hK _ _ ?_
                                    clear hK K
                                    refine wpAnyIn_ready (rs := [14]) (by kernel_rfl) (by simp) ?_
                                    refine AllReadyIn.cons rfl (fun K hK => ?_) ?_
                                    · go_simp
                                      refine hK _ _ ?_
                                      clear hK K
                                      refine wpAnyIn_ready (rs := [15]) (by kernel_rfl) (by simp) ?_
                                      refine AllReadyIn.cons rfl (fun K hK => ?_) ?_
                                      · go_simp
                                        refine hK _ _ ?_
                                        clear hK K
                                        refine wpAnyIn_done (by kernel_rfl) ?_ _
                                        exact ⟨_, _, _, _, _, _, _, _, _, _, _, _, _, _, _, rfl, rfl, hB2⟩
                                      exact AllReadyIn.nil
                                    exact AllReadyIn.nil
                                  exact AllReadyIn.nil
                                exact AllReadyIn.nil
                              exact AllReadyIn.nil
                            refine AllReadyIn.cons rfl (fun K hK => ?_) ?_
                            · go_simp
                              refine hK _ _ ?_
                              clear hK K
                              refine wpAnyIn_ready (rs := [9]) (by kernel_rfl) (by simp) ?_
                              refine AllReadyIn.cons rfl (fun K hK => ?_) ?_
                              · go_simp
                                refine hK _ _ ?_
                                clear hK K
                                refine wpAnyIn_ready (rs := [12]) (by kernel_rfl) (by simp) ?_
                                refine AllReadyIn.cons rfl (fun K hK => ?_) ?_
                                · go_simp
                                  refine ⟨trivial, (callsIn_wide.2 (PT.out _ kn6)).mono ?_⟩
                                  rintro e w2 ⟨rfl, b2⟩
                                  have hB2 := B6.trans (b2.mono B6.size)
                                  refine hK _ _ ?_
                                  clear hK K
                                  refine wpAnyIn_ready (rs := [13]) (by kernel_rfl) (by simp) ?_
                                  refine AllReadyIn.cons rfl (fun K hK => ?_) ?_
                                  · go_simp
                                    refine hK _ _ ?_
                                    clear hK K
                                    refine wpAnyIn_ready (rs := [14]) (by kernel_rfl) (by simp) ?_
                                    refine AllReadyIn.cons rfl (fun K hK => ?_) ?_
                                    · go_simp
                                      refine hK _ _ ?_
                                      clear hK K
                                      refine wpAnyIn_ready (rs := [15]) (by kernel_rfl) (by simp) ?_
                                      refine AllReadyIn.cons rfl (fun K hK => ?_) ?_
                                      · go_simp
                                        refine hK _ _ ?_
                                        clear hK K
                                        refine wpAnyIn_done (by kernel_rfl) ?_ _
                                        exact ⟨_, _, _, _, _, _, _, _, _, _, _, _, _, _, _, rfl, rfl, hB2⟩
                                      exact AllReadyIn.nil
                                    exact AllReadyIn.nil
                                  exact AllReadyIn.nil
                                exact AllReadyIn.nil
                              exact AllReadyIn.nil
                            exact AllReadyIn.nil
                          refine AllReadyIn.cons rfl (fun K hK => ?_) ?_
                          · go_simp
                            refine hK _ _ ?_
                            clear hK K
                            refine wpAnyIn_ready (rs := [4]) (by kernel_rfl) (by simp) ?_
                            refine AllReadyIn.cons rfl (fun K hK => ?_) ?_
                            · go_simp
                              refine hK _ _ ?_
                              clear hK K
                              refine wpAnyIn_ready (rs := [8]) (by kernel_rfl) (by simp) ?_
                              refine AllReadyIn.cons rfl (fun K hK => ?_) ?_
                              · go_simp
                                refine hK _ _ ?_
                                clear hK K
                                refine wpAnyIn_ready (rs := [9]) (by kernel_rfl) (by simp) ?_
                                refine AllReadyIn.cons rfl (fun K hK => ?_) ?_
                                · go_simp
                                  refine hK _ _ ?_
                                  clear hK K
                                  refine wpAnyIn_ready (rs := [12]) (by kernel_rfl) (by simp) ?_
                                  refine AllReadyIn.cons rfl (fun K hK => ?_) ?_
                                  · go_simp
                                    refine ⟨trivial, (callsIn_wide.2 (PT.out _ kn6)).mono ?_⟩
                                    rintro e w2 ⟨rfl, b2⟩
                                    have hB2 := B6.trans (b2.mono B6.size)
                                    refine hK _ _ ?_
                                    clear hK K
                                    refine wpAnyIn_ready (rs := [13]) (by kernel_rfl) (by simp) ?_
                                    refine AllReadyIn.cons rfl (fun K hK => ?_) ?_
                                    · go_simp
                                      refine hK _ _ ?_
                                      clear hK K
                                      refine wpAnyIn_ready (rs := [14]) (by kernel_rfl) (by simp) ?_
                                      refine AllReadyIn.cons rfl (fun K hK => ?_) ?_
                                      · go_simp
                                        refine hK _ _ ?_
                                        clear hK K
                                        refine wpAnyIn_ready (rs := [15]) (by kernel_rfl) (by simp) ?_
                                        refine AllReadyIn.cons rfl (fun K hK => ?_) ?_
                                        · go_simp
                                          refine hK _ _ ?_
                                          clear hK K
                                          refine wpAnyIn_done (by kernel_rfl) ?_ _
                                          exact ⟨_, _, _, _, _, _, _, _, _, _, _, _, _, _, _, rfl, rfl, hB2⟩
                                        exact AllReadyIn.nil
                                      exact AllReadyIn.nil
                                    exact AllReadyIn.nil
                                  exact AllReadyIn.nil
                                exact AllReadyIn.nil
                              exact AllReadyIn.nil
                            exact AllReadyIn.nil
                          exact AllReadyIn.nil
                        refine AllReadyIn.cons rfl (fun K hK => ?_) ?_
                        · go_simp
                          refine hK _ _ ?_
                          clear hK K
                          refine wpAnyIn_ready (rs := [4, 5]) (by kernel_rfl) (by simp) ?_
                          refine AllReadyIn.cons rfl (fun K hK => ?_) ?_
                          · go_simp
                            refine hK _ _ ?_
                            clear hK K
                            refine wpAnyIn_ready (rs := [5]) (by kernel_rfl) (by simp) ?_
                            refine AllReadyIn.cons rfl (fun K hK => ?_) ?_
                            · go_simp
                              refine hK _ _ ?_
                              clear hK K
                              refine wpAnyIn_ready (rs := [6]) (by kernel_rfl) (by simp) ?_
                              refine AllReadyIn.cons rfl (fun K hK => ?_) ?_
                              · go_simp
                                refine hK _ _ ?_
                                clear hK K
                                refine wpAnyIn_ready (rs := [7]) (by kernel_rfl) (by simp) ?_
                                refine AllReadyIn.cons rfl (fun K hK => ?_) ?_
                                · go_simp
                                  refine hK _ _ ?_
                                  clear hK K
                                  refine wpAnyIn_ready (rs := [8]) (by kernel_rfl) (by simp) ?_
                                  refine AllReadyIn.cons rfl (fun K hK => ?_) ?_
                                  · go_simp
                                    refine hK _ _ ?_
                                    clear hK K
                                    refine wpAnyIn_ready (rs := [9]) (by kernel_rfl) (by simp) ?_
                                    refine AllReadyIn.cons rfl (fun K hK => ?_) ?_
                                    · go_simp
                                      refine hK _ _ ?_
                                      clear hK K
                                      refine wpAnyIn_ready (rs := [12]) (by kernel_rfl) (by simp) ?_
                                      refine AllReadyIn.cons rfl (fun K hK => ?_) ?_
                                      · go_simp
                                        refine ⟨trivial, (callsIn_wide.2 (PT.out _ kn6)).mono ?_⟩
                                        rintro e w2 ⟨rfl, b2⟩
                                        have hB2 := B6.trans (b2.mono B6.size)
                                        refine hK _ _ ?_
                                        clear hK K
                                        refine wpAnyIn_ready (rs := [13]) (by kernel_rfl) (by simp) ?_
                                        refine AllReadyIn.cons rfl (fun K hK => ?_) ?_
                                        · go_simp
                                          refine hK _ _ ?_
                                          clear hK K
                                          refine wpAnyIn_ready (rs := [14]) (by kernel_rfl) (by simp) ?_
                                          refine AllReadyIn.cons rfl (fun K hK => ?_) ?_
                                          · go_simp
                                            refine hK _ _ ?_
                                            clear hK K
                                            refine wpAnyIn_ready (rs := [15]) (by kernel_rfl) (by simp) ?_
                                            refine AllReadyIn.cons rfl (fun K hK => ?_) ?_
                                            · go_simp
                                              refine hK _ _ ?_
                                              clear hK K
                                              refine wpAnyIn_done (by kernel_rfl) ?_ _
                                              exact ⟨_, _, _, _, _, _, _, _, _, _, _, _, _, _, _, rfl, rfl, hB2⟩
                                            exact AllReadyIn.nil
                                          exact AllReadyIn.nil
                                        exact AllReadyIn.nil
                                      exact AllReadyIn.nil
                                    exact AllReadyIn.nil
                                  exact AllReadyIn.nil
                                exact AllReadyIn.nil
                              exact AllReadyIn.nil
                            exact AllReadyIn.nil
                          refine AllReadyIn.cons rfl (fun K hK => ?_) ?_
                          · go_simp
                            refine hK _ _ ?_
                            clear hK K
                            refine wpAnyIn_take (i := 6) (v := ?_) rfl rfl (by kernel_rfl) (by kernel_rfl) (by kernel_rfl) (fun _ _ _ h => (by obtain ⟨_, _, _, _, _, _, _, _, _, _, _, _, _, _, _, h, _⟩ := h; cases h)) ⟨Or.inl ⟨by rfl, ?_⟩, fun _ => rfl⟩ ?_
                            rotate_left
                            · intro w; go_simp
                              try with_reducible rfl
                            refine wpAnyIn_take (i := 7) (v := ?_) rfl rfl (by kernel_rfl) (by kernel_rfl) (by kernel_rfl) (fun _ _ _ h => (by obtain ⟨_, _, _, _, _, _, _, _, _, _, _, _, _, _, _, h, _⟩ := h; cases h)) ⟨Or.inl ⟨by rfl, ?_⟩, fun _ => rfl⟩ ?_
                            rotate_left
                            · intro w; go_simp
                              try with_reducible rfl
                            refine wpAnyIn_ready (rs := [4]) (by kernel_rfl) (by simp) ?_
                            refine AllReadyIn.cons rfl (fun K hK => ?_) ?_
                            · go_simp
                              refine hK _ _ ?_
                              clear hK K
                              refine wpAnyIn_ready (rs := [8]) (by kernel_rfl) (by simp) ?_
                              refine AllReadyIn.cons rfl (fun K hK => ?_) ?_
                              · go_simp
                                refine hK _ _ ?_
                                clear hK K
                                refine wpAnyIn_ready (rs := [9]) (by kernel_rfl) (by simp) ?_
                                refine AllReadyIn.cons rfl (fun K hK => ?_) ?_
                                · go_simp
                                  refine hK _ _ ?_
                                  clear hK K
                                  refine wpAnyIn_ready (rs := [12]) (by kernel_rfl) (by simp) ?_
                                  refine AllReadyIn.cons rfl (fun K hK => ?_) ?_
                                  · go_simp
                                    refine ⟨trivial, (callsIn_wide.2 (PT.out _ kn6)).mono ?_⟩
                                    rintro e w2 ⟨rfl, b2⟩
                                    have hB2 := B6.trans (b2.mono B6.size)
                                    refine hK _ _ ?_
                                    clear hK K
                                    refine wpAnyIn_ready (rs := [13]) (by kernel_rfl) (by simp) ?_
                                    refine AllReadyIn.cons rfl (fun K hK => ?_) ?_
                                    · go_simp
                                      refine hK _ _ ?_
                                      clear hK K
                                      refine wpAnyIn_ready (rs := [14]) (by kernel_rfl) (by simp) ?_
                                      refine AllReadyIn.cons rfl (fun K hK => ?_) ?_
                                      · go_simp
                                        refine hK _ _ ?_
                                        clear hK K
                                        refine wpAnyIn_ready (rs := [15]) (by kernel_rfl) (by simp) ?_
                                        refine AllReadyIn.cons rfl (fun K hK => ?_) ?_
                                        · go_simp
                                          refine hK _ _ ?_
                                          clear hK K
                                          refine wpAnyIn_done (by kernel_rfl) ?_ _
                                          exact ⟨_, _, _, _, _, _, _, _, _, _, _, _, _, _, _, rfl, rfl, hB2⟩
                                        exact AllReadyIn.nil
                                      exact AllReadyIn.nil
                                    exact AllReadyIn.nil
                                  exact AllReadyIn.nil
                                exact AllReadyIn.nil
                              exact AllReadyIn.nil
                            exact AllReadyIn.nil
                          exact AllReadyIn.nil
                        exact AllReadyIn.nil
                      exact AllReadyIn.nil
                    exact AllReadyIn.nil
                  exact AllReadyIn.nil
                exact AllReadyIn.nil
        case rest7 =>
          rintro _ _ W7 ⟨y23, y24, y25, y26, y27, y28, y29, y30, y31, y32, y33, y34, y35, y36, y37, rfl, rfl, b7⟩
          have R7 := R5.next hz b7
          have eX7 : At W7 X _ := (b7.block _ LX5).trans eX5
          have K7 := K5.trans (kp2_below (b := w.heap.size + 1 + 1 + 1 + 1) b7 (by have := R5.sz; omega) (by have := R5.sz; omega))
          have O7 := O5.trans (keeps_below b7)
          clear R6 kn6 eX6 K6 B6 R5 eX5 K5 O5 LX5 b7 q3
          have q3 : W7.cell? ⟨w.heap.size + 1 + 1 + 1, 0, none⟩ = some (.int .i64 0) := cell_at 0 R7.er rfl
          have f3 : W7.frozen? ⟨w.heap.size + 1 + 1 + 1, 0, none⟩ = false := one_free 0 R7.er
          cases Y with
          | true =>
            have hm : mayB f.ms m = false := by simpa using hY
            have HM := hide hm
            clear hY hm
            gi_wp2
            exact ⟨(O7.trans (KeepsOthers.setCell _ _ _)).from _, ⟨rfl, _, (by decide : (21 : Int) ≠ 0), HW.out.no rfl HM.out, R7.fault hz 21⟩⟩
          | false =>
            have hm : mayB f.ms m = true := by simpa using hY
            have HM := hide hm
            clear hY hm
            obtain ⟨v, hv, hr, _⟩ := R7.row
            have hc := hv.cell
            have hS := R7.sz
            have c0 : W7.cell? ⟨X, 0, none⟩ = some (.bool m.hasLo) := cell_at 0 eX7 rfl
            have c1 : W7.cell? ⟨X, 1, none⟩ = some (.string (ofL m.lo)) := cell_at 1 eX7 rfl
            have c2 : W7.cell? ⟨X, 2, none⟩ = some (.bool m.loIn) := cell_at 2 eX7 rfl
            have c3 : W7.cell? ⟨X, 3, none⟩ = some (.bool m.hasHi) := cell_at 3 eX7 rfl
            have c4 : W7.cell? ⟨X, 4, none⟩ = some (.string (ofL m.hi)) := cell_at 4 eX7 rfl
            have c5 : W7.cell? ⟨X, 5, none⟩ = some (.bool m.hiIn) := cell_at 5 eX7 rfl
            dsimp only at hr
            have hfb : f.ms.length ≤ 33 := by omega
            gi_wp2_with (gi_at_builtin; refine wpListIn_append_own _ rfl _ _ 22 rfl w1.heap.size 54 i0 (.agg #[.bool false, .string .empty, .bool false, .bool false, .string .empty, .bool false]) 6 56 Tryz.underlying22 hi hz0 hz1 hz2 rfl (by decide) _ _ _ rfl (hr.alloc _) ⟨W7.heap.size, 0, none⟩ 1 1 (rowM m) rfl rfl (cell_six_new _ _ _ _ _ _ _ _) (rowM_one _) (by unfold maxLen; omega) (by omega) (by simp; omega) ?_; intro v' w3 hown' hgrow _; obtain ⟨g', cap', rfl⟩ := ownsRow_succ hown'; obtain ⟨hk', hbx⟩ := app_blocksM hr hS hgrow; have hv3 : Boxed w3 (w.heap.size + 1) 22 v := (hk' _ (by omega)).trans hv; have hc1 := hv3.cell; have hf1 := hv3.frozen)
            have hsz3 : W7.heap.size ≤ w3.heap.size := hbx.size
            refine ⟨(O7.trans (hbx.trans (KeepsOthers.setCell _ _ _))).from _, K7.trans ⟨(Below.heap_setCell _ _ _ _ (by simp only; omega)).trans (hk' _ (by omega)), (Below.heap_setCell _ _ _ _ (by simp only; omega)).trans (hk' _ (by omega)), by rw [set_size]; exact hsz3⟩, ⟨_, HW.out.go rfl HM.out, ⟨⟨_, set_lies 0 _ hv3, ?_, trivial⟩, ?_, ?_, ?_, ?_, ?_⟩⟩⟩
            · dsimp only
              rw [List.length_append, flatM_snoc]
              exact ownsRow_setCell_below hown' (a := ⟨w.heap.size + 1, 0, none⟩) (by simp only; omega) _
            · exact (Below.heap_setCell _ _ _ _ (by simp only; omega)).trans ((hk' _ (by omega)).trans R7.flt)
            · exact (Below.heap_setCell _ _ _ _ (by simp only; omega)).trans ((hk' _ (by omega)).trans R7.pl)
            · exact (Below.heap_setCell _ _ _ _ (by simp only; omega)).trans ((hk' _ (by omega)).trans R7.er)
            · refine ⟨hgrow.os.trans R7.bel.os, hgrow.tape.trans R7.bel.tape, hgrow.output.trans R7.bel.output, ?_, ?_⟩
              · rw [set_size]; have := R7.bel.size; omega
              · intro k hk''
                exact (Below.heap_setCell _ _ _ _ (by simp only; omega)).trans ((hk' k (by omega)).trans (R7.bel.block k hk''))
            · rw [set_size]; omega
      · have hxb : (er == 0) = false := by simpa using hx
        gi_wp2
        exact ⟨O5.from _, ⟨rfl, _, hx, HW.out.bad hx, R5⟩⟩
  case done =>
    rintro D ys W hD rfl h hK
    obtain ⟨f, hW, hR⟩ := h.is
    obtain ⟨v, hv, hr, _⟩ := hR.row
    have hFf : F = f := by rw [← HF.out]; have := hW.fold []; rw [List.append_nil] at this; exact this
    subst hFf
    have cV := hv.cell
    have h0 := hW.e0
    have hER := hR.er
    rw [h0] at hER
    have H0 := hide h0
    have HR := hide hr
    have HB := hide hR.bel
    have q3 : W.cell? ⟨w.heap.size + 1 + 1 + 1, 0, none⟩ = some (.int .i64 0) := cell_at 0 hER rfl
    have hA : W.heap[w.heap.size]? = some (.cells #[.int .i64 0, .int .i64 0] 27 (0, 0)) := hR.flt
    have a0 := cell_at 0 hA rfl
    have a1 := cell_at 1 hA rfl
    have f0 := one_free 0 hA
    have f1 := one_free 1 hA
    clear hACT g0 g2 g3 gf bS bA EST kn1 B3 h0 hW hR hr h
    gi_wp2
    go_wp2_with fail
    have e5 : ((W.setCell ⟨w.heap.size, 0, none⟩ (.int .i64 0)).setCell ⟨w.heap.size, 1, none⟩ (.int .i64 0)).heap[w.heap.size]? = some (.cells #[.int .i64 0, .int .i64 0] 27 (0, 0)) := set_lies 1 _ (set_lies 0 _ hA)
    refine fin23 _ [D] _ w.heap.size w.heap.size v _ _ rfl rfl e5 (by simp) (by
      intro E hE
      rw [List.mem_singleton.1 hE]
      exact ⟨by omega, (Below.heap_setCell _ _ _ _ (by simp only; omega)).trans ((Below.heap_setCell _ _ _ _ (by simp only; omega)).trans hK)⟩) ?_
    intro W' hp
    have hb5 : Below w.heap.size w ((W.setCell ⟨w.heap.size, 0, none⟩ (.int .i64 0)).setCell ⟨w.heap.size, 1, none⟩ (.int .i64 0)) := (HB.out.setCell (p := ⟨w.heap.size, 0, none⟩) (Nat.le_refl _) _).setCell (p := ⟨w.heap.size, 1, none⟩) (Nat.le_refl _) _
    have hmm := ((own_mrs HR.out).other w.heap.size 0 (.int .i64 0) (by omega)).other w.heap.size 1 (.int .i64 0) (by omega)
    refine ⟨hb5.trans hp.1, .inr ⟨H0.out, v, rfl, ?_⟩⟩
    obtain ⟨a', cap', h1, h2 | ⟨b', sp', h2, h3, h4⟩⟩ := hmm.past hp
    · exact ⟨a', cap', h1, .inl h2⟩
    · exact ⟨a', cap', h1, .inr ⟨b', sp', h2, by omega, h4⟩⟩
  case stop =>
    rintro D c ys W hD hp h hK
    obtain ⟨f, hf, hfold, hR⟩ := h.is
    obtain rfl := h.code
    obtain ⟨rest, hrest⟩ := hp
    have hFf : F = f := by rw [← HF.out, ← hrest]; exact hfold rest
    subst hFf
    have HNE := hide hf
    have hfb : (F.err == 0) = false := by simpa using hf
    have HB := hide hR.bel
    have q2 : W.cell? ⟨w.heap.size + 1 + 1, 0, none⟩ = some (.int .i64 (F.at' : Int)) := cell_at 0 hR.pl rfl
    have q3 : W.cell? ⟨w.heap.size + 1 + 1 + 1, 0, none⟩ = some (.int .i64 F.err) := cell_at 0 hR.er rfl
    have hA : W.heap[w.heap.size]? = some (.cells #[.int .i64 0, .int .i64 0] 27 (0, 0)) := hR.flt
    have a0 := cell_at 0 hA rfl
    have a1 := cell_at 1 hA rfl
    have f0 := one_free 0 hA
    have f1 := one_free 1 hA
    clear hACT g0 g2 g3 gf bS bA EST kn1 B3 hR h hfold hrest hf
    gi_wp2
    go_wp2_with fail
    go_region
    all_goals
      go_wp2_with fail
      have e5 : ((W.setCell ⟨w.heap.size, 0, none⟩ (.int .i64 F.err)).setCell ⟨w.heap.size, 1, none⟩ (.int .i64 (F.at' : Int))).drew.heap[w.heap.size]? = some (.cells #[.int .i64 F.err, .int .i64 (F.at' : Int)] 27 (0, 0)) := set_lies 1 _ (set_lies 0 _ hA)
      have hb5 : Below w.heap.size w ((W.setCell ⟨w.heap.size, 0, none⟩ (.int .i64 F.err)).setCell ⟨w.heap.size, 1, none⟩ (.int .i64 (F.at' : Int))).drew := ((HB.out.setCell (p := ⟨w.heap.size, 0, none⟩) (Nat.le_refl _) _).setCell (p := ⟨w.heap.size, 1, none⟩) (Nat.le_refl _) _).trans (drew_below _ _)
      have hKD : ((W.setCell ⟨w.heap.size, 0, none⟩ (.int .i64 F.err)).setCell ⟨w.heap.size, 1, none⟩ (.int .i64 (F.at' : Int))).drew.heap[D]? = some (.deferred (some [])) := (Below.heap_setCell _ _ _ _ (by simp only; omega)).trans ((Below.heap_setCell _ _ _ _ (by simp only; omega)).trans hK)
      refine fin23 _ [D] _ w.heap.size w.heap.size (.slice none 0 0) _ _ rfl rfl e5 (by simp) (by
        intro E hE
        rw [List.mem_singleton.1 hE]
        exact ⟨by omega, hKD⟩) ?_
      intro W' hp
      exact ⟨hb5.trans hp.1, .inl ⟨HNE.out, rfl⟩⟩

theorem readRanges_any (s : ByteArray) (a : Nat) (w : World) (hs : s.size ≤ 256) (ha : a < s.size) (hk : Kn w) :
    Calls Tryz.prog 23 #[.string s, .int .i64 (a : Int)] w (RgPost (foldF ⟨[], a, 0⟩ (itL 32 a (s.data.toList.drop a))) w) := (callsIn_wide (n := 5)).1 (readRanges_in s a w hs ha hk)

end Go.Proofs.YtpedljmpobhimaaGreatDoor
