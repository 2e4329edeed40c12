/-
  Sets of comparators that a call has made, in memory: they stay as they are while nothing turns their blocks. · What Parse holds while it reads: the place, what is wrong, the set under way, the sets.
-/
import Derived.Test.YtaflflelcdcanaaGreatZEx
import Derived.Test.YtaflflelcdcanaaGreatZEzb
import Derived.Test.YtaflflelcdcanaaGreatZEzj
namespace Go.Proofs.YtaflflelcdcanaaGreat
open Go.RowKit Go.Shelf
set_option linter.unusedVariables false
variable {A A' : Nat → Prop}

/-- Cells in such blocks lie as they lay. -/
def Keep (A : Nat → Prop) (W W' : World) : Prop :=
  W.heap.size ≤ W'.heap.size ∧ ∀ (b : Nat) (cs : Array Value) (t : TypeId) (m : Nat × Nat), A b → W.heap[b]? = some (.cells cs t m) → W'.heap[b]? = some (.cells cs t m)
theorem cell_keep {W W' : World} {b o : Nat} {u : Value} (h : W.cell? ⟨b, o, none⟩ = some u) (hk : Keep A W W') (hA : A b) : W'.cell? ⟨b, o, none⟩ = some u := by
  unfold World.cell? at h ⊢
  cases hb : W.heap[b]? with
  | none => simp only [hb] at h; cases h
  | some ob =>
    cases ob with
    | cells cs t m =>
      simp only [hb] at h
      simp only [hk.2 b cs t m hA hb]
      exact h
    | _ => simp only [hb] at h; cases h
theorem cap_block {W : World} {v : Value} {ts : List (List UInt8)} (h : Txt W v ts) (hc : CapA A v) : ts = [] ∨ ∃ cap b off, v = .slice (some ⟨b, off, none⟩) ts.length cap ∧ b < W.heap.size ∧ A b ∧ ∀ i (h : i < ts.length), W.cell? ⟨b, off + i, none⟩ = some (.string (ofL ts[i])) := by
  obtain ⟨a, cap, hv, h0 | ⟨b, off, ha, hlt, hcl⟩⟩ := h
  · exact .inl h0
  · rcases hc.2 _ _ _ (by rw [hv, ha]) with h | h
    · exact .inl (List.length_eq_zero_iff.1 h)
    · exact .inr ⟨cap, b, off, by rw [hv, ha], hlt, h, hcl⟩
theorem txt_keep {W W' : World} {v : Value} {ts : List (List UInt8)} (h : Txt W v ts) (hc : CapA A v) (hk : Keep A W W') : Txt W' v ts := by
  rcases cap_block h hc with rfl | ⟨cap, b, off, rfl, hlt, hA, hcl⟩
  · exact txt_nil' h
  · exact ⟨_, cap, rfl, .inr ⟨b, off, rfl, Nat.lt_of_lt_of_le hlt hk.1, fun i hi => cell_keep (hcl i hi) hk hA⟩⟩
theorem cap_to {W : World} {v : Value} {ts : List (List UInt8)} (h : Txt W v ts) (hc : CapA A v) (hA : ∀ b, A b → b < W.heap.size → A' b) : CapA A' v := by
  rcases cap_block h hc with rfl | ⟨cap, b, off, rfl, hlt, hb, hcl⟩
  · exact capZ h
  · exact ⟨hc.1, fun p n c e => by cases e; exact .inr (hA b hb hlt)⟩
theorem CompsC.keep {W W' : World} (hk : Keep A W W') (hA : ∀ b, A b → b < W.heap.size → A' b) : ∀ {cs : List Comp} {xs : List Value}, CompsC A W cs xs → CompsC A' W' cs xs
  | [], _, h => h
  | c :: cs, xs, h => by
    obtain ⟨ys, zs, h1, ⟨vp, vb, h2, t1, t2, c1, c2⟩, h3⟩ := h
    exact ⟨ys, zs, h1, ⟨vp, vb, h2, txt_keep t1 c1 hk, txt_keep t2 c2 hk, cap_to t1 c1 hA, cap_to t2 c2 hA⟩, CompsC.keep hk hA h3⟩
theorem CompsC.at_ {W : World} {g : Nat} : ∀ {cs : List Comp} {xs : List Value} (o : Nat), CompsC A W cs xs → (∀ j u, xs[j]? = some u → W.cell? ⟨g, o + j, none⟩ = some u) → ∀ i (h : i < cs.length), CompAt W g (o + i * 6) cs[i]
  | [], _, _, _, _, i, h => by cases h
  | c :: cs, xs, o, h, hx, i, hi => by
    obtain ⟨ys, zs, rfl, ⟨vp, vb, rfl, t1, t2, c1, c2⟩, h3⟩ := h
    match i with
    | 0 =>
      refine ⟨vp, vb, ?_, ?_, ?_, ?_, ?_, ?_, t1, t2, c1.1, c2.1⟩
      · exact hx 0 _ rfl
      · exact hx 1 _ rfl
      · exact hx 2 _ rfl
      · exact hx 3 _ rfl
      · exact hx 4 _ rfl
      · exact hx 5 _ rfl
    | i + 1 =>
      have := CompsC.at_ (o + 6) h3 (fun j u hj => by
        have := hx (6 + j) u (by rw [List.getElem?_append_right (by simp)]; simpa using hj)
        rwa [← Nat.add_assoc] at this) i (by simpa using hi)
      rw [show o + (i + 1) * 6 = o + 6 + i * 6 by omega]
      exact this

/-- A set that a call has made. -/
def SetO (A : Nat → Prop) (W : World) (u : Value) (cs : List Comp) : Prop := ∃ xs, W.ownsRow 0 35 6 u cs.length xs ∧ (∀ g, u.ownBlock = some g → A g) ∧ CompsC A W cs xs
theorem own_keep {W W' : World} {base : Nat} {e : TypeId} {size : Nat} {v : Value} {n : Nat} {xs : List Value} (h : W.ownsRow base e size v n xs) (hk : Keep A W W') (hA : ∀ g, v.ownBlock = some g → A g) : W'.ownsRow base e size v n xs := by
  refine ⟨h.1, ?_⟩
  rcases h.2 with h2 | ⟨g, cap, cur, hv, hg, hh, r⟩
  · exact .inl h2
  · exact .inr ⟨g, cap, cur, hv, hg, hk.2 g _ _ _ (hA g (by rw [hv]; rfl)) hh, r⟩
theorem own_lt {W : World} {base : Nat} {e : TypeId} {size : Nat} {v : Value} {n : Nat} {xs : List Value} (h : W.ownsRow base e size v n xs) : ∀ g, v.ownBlock = some g → base ≤ g ∧ g < W.heap.size := by
  intro g hg
  rcases h.2 with ⟨rfl, _⟩ | ⟨g', cap, cur, rfl, hb, hh, r⟩
  · cases hg
  · simp only [Value.ownBlock, Option.some.injEq] at hg
    subst hg
    exact ⟨hb, (Array.getElem?_eq_some_iff.1 hh).1⟩
theorem own_cells {W : World} {base : Nat} {e : TypeId} {size : Nat} {v : Value} {n : Nat} {xs : List Value} (h : W.ownsRow base e size v n xs) :
    ∃ a c, v = .slice a n c ∧ (n = 0 ∨ ∃ g, a = some ⟨g, 0, none⟩ ∧ g < W.heap.size ∧ ∀ j u, xs[j]? = some u → W.cell? ⟨g, 0 + j, none⟩ = some u) := by
  rcases h.2 with ⟨rfl, h0⟩ | ⟨g, cap, cur, rfl, hb, hh, _, _, _, ht⟩
  · exact ⟨none, 0, by rw [h0], .inl h0⟩
  · refine ⟨_, cap, rfl, .inr ⟨g, rfl, (Array.getElem?_eq_some_iff.1 hh).1, fun j u hj => ?_⟩⟩
    rw [← ht] at hj
    rw [List.getElem?_take] at hj
    split at hj
    · exact cell_at (0 + j) hh (by rw [Nat.zero_add]; simpa using hj)
    · cases hj
theorem SetO.keep {W W' : World} {u : Value} {cs : List Comp} (h : SetO A W u cs) (hk : Keep A W W') (hA : ∀ b, A b → b < W.heap.size → A' b) : SetO A' W' u cs := by
  obtain ⟨xs, h1, h2, h3⟩ := h
  exact ⟨xs, own_keep h1 hk h2, fun g hg => hA g (h2 g hg) (own_lt h1 g hg).2, h3.keep hk hA⟩
theorem SetO.at_ {W : World} {u : Value} {cs : List Comp} (h : SetO A W u cs) : CompsAt W u cs := by
  obtain ⟨xs, h1, _, h3⟩ := h
  obtain ⟨a, c, rfl, h0 | ⟨g, rfl, hg, hc⟩⟩ := own_cells h1
  · exact ⟨a, c, rfl, .inl (List.length_eq_zero_iff.1 h0)⟩
  · exact ⟨_, c, rfl, .inr ⟨g, 0, rfl, hg, h3.at_ 0 hc⟩⟩
/-- Sets that a call has made, in a row of the call's own. -/
def SetsO (lo : Nat) (W : World) (v : Value) (l : List (List Comp)) : Prop :=
  ∃ us, W.ownsRow lo 39 1 v l.length us ∧ ∀ i (h : i < l.length), ∃ u, us[i]? = some u ∧ SetO (fun b => lo ≤ b ∧ v.ownBlock ≠ some b) W u l[i]
theorem SetsO.keep {lo : Nat} {W W' : World} {v : Value} {l : List (List Comp)} (h : SetsO lo W v l) (hk : Keep (fun b => lo ≤ b) W W') : SetsO lo W' v l := by
  obtain ⟨us, h1, h2⟩ := h
  refine ⟨us, own_keep h1 hk (fun g hg => (own_lt h1 g hg).1), fun i hi => ?_⟩
  obtain ⟨u, h3, h4⟩ := h2 i hi
  exact ⟨u, h3, h4.keep ⟨hk.1, fun b cs t m hb => hk.2 b cs t m hb.1⟩ (fun b hb _ => hb)⟩
theorem SetsO.at_ {lo : Nat} {W : World} {v : Value} {l : List (List Comp)} (h : SetsO lo W v l) : SetsAt W v l := by
  obtain ⟨us, h1, h2⟩ := h
  obtain ⟨a, c, rfl, h0 | ⟨g, rfl, hg, hc⟩⟩ := own_cells h1
  · exact ⟨a, c, rfl, .inl (List.length_eq_zero_iff.1 h0)⟩
  · refine ⟨_, c, rfl, .inr ⟨g, 0, rfl, hg, fun i hi => ?_⟩⟩
    obtain ⟨u, h3, h4⟩ := h2 i hi
    exact ⟨u, hc i u h3, h4.at_⟩
/-- One set more. -/
theorem SetsO.snoc {lo : Nat} {W W' : World} {v v' u : Value} {l : List (List Comp)} {cs : List Comp} {us : List Value} (h1 : W.ownsRow lo 39 1 v l.length us)
    (h2 : ∀ i (h : i < l.length), ∃ u, us[i]? = some u ∧ SetO (fun b => lo ≤ b ∧ v.ownBlock ≠ some b) W u l[i]) (hu : SetO (fun b => lo ≤ b ∧ v.ownBlock ≠ some b) W u cs)
    (h3 : W'.ownsRow lo 39 1 v' (l.length + 1) (us ++ [u])) (hg : W.grownBy W' v.ownBlock) (hp : v'.ownBlock = v.ownBlock ∨ v'.ownBlock = some W.heap.size) : SetsO lo W' v' (l ++ [cs]) := by
  have hk : Keep (fun b => lo ≤ b ∧ v.ownBlock ≠ some b) W W' := ⟨hg.size, fun b cs t m hb hh => (hg.block b (Array.getElem?_eq_some_iff.1 hh).1 hb.2.symm).trans hh⟩
  have hA : ∀ b, (lo ≤ b ∧ v.ownBlock ≠ some b) → b < W.heap.size → (lo ≤ b ∧ v'.ownBlock ≠ some b) := by
    rintro b ⟨hb1, hb2⟩ hb3
    refine ⟨hb1, ?_⟩
    rcases hp with hp | hp
    · rw [hp]; exact hb2
    · rw [hp]; intro e; simp only [Option.some.injEq] at e; omega
  have hul : us.length = l.length := by have := h1.1; omega
  refine ⟨us ++ [u], by rw [List.length_append]; exact h3, fun i hi => ?_⟩
  by_cases hil : i < l.length
  · obtain ⟨x, h4, h5⟩ := h2 i hil
    refine ⟨x, by rw [List.getElem?_append_left (by omega)]; exact h4, ?_⟩
    rw [List.getElem_append_left hil]
    exact h5.keep hk hA
  · have hi' : i = l.length := by simp at hi; omega
    subst hi'
    refine ⟨u, by rw [List.getElem?_append_right (by omega), hul, Nat.sub_self]; rfl, ?_⟩
    rw [List.getElem_append_right (Nat.le_refl _)]
    simp only [Nat.sub_self, List.getElem_cons_zero]
    exact hu.keep hk hA

section
variable {F : Fence} {n : Nat} {P : Program} {ops : Array Oper} {Q : Exit → Act → World → Prop}
/-- append, told by its run, as one step of a region that draws. -/
theorem stepIn_append_run {o : Oper} {a : Act} {w w' : World} {K : Act → World → Prop} {E : Prop} (hg : o.guard = none) (s x : Operand) (t : TypeId)
    (hop : o.op = Op.call { callee := Callee.builtin Builtin.append, args := #[s, x], argTypes := #[t, t] }) (v u v' : Value) (hs : a.eval s = v) (hx : a.eval x = u)
    (hrun : (Builtin.append_ #[t, t] o.type #[v, u]).run P w = .ok v' w') (hK : K (a.put o.dst v') w') :
    if Region.wanted o (yielded ops a.tmps) = true then Oper.wpIn F n P o a w K Q else E := by
  have hw : Region.wanted o (yielded ops a.tmps) = true := by simp [Region.wanted, hg]
  rw [if_pos hw]
  unfold Oper.wpIn
  refine ⟨?_, ?_⟩
  · simp [Oper.about, hop, resolve, Target.leads, Sem.run_pure]
  · rw [Oper.semAt_plain F _ _ (by rw [hop]; intro c hc'; cases hc')]
    simp [execOp, hop, resolve, invoke, builtin, hs, hx, hrun, Result.andThen]
    exact hK
end

/-- How many comparators a part means. -/
theorem mean_len (f : Nat) (p : PartL) : (meanL f p).length ≤ 2 := by
  unfold meanL equalL lessL upToL moreL fromL tildeL caretL withL noneL
  repeat' split
  all_goals simp
theorem row_len (l : List UInt8) : ∀ (n k a : Nat), (rowG l n k a).length ≤ n
  | 0, _, _ => Nat.le_refl _
  | n + 1, k, a => by
    unfold rowG
    split
    · simp
    · split
      · simp
      · split
        · simp
        · have := row_len l n (k + 1) (blk l (itemL l a).pos.toNat)
          simp; omega
theorem parts_len (l : List UInt8) (a : Nat) : (partsL l a).length ≤ 33 := by
  unfold partsL
  split
  · unfold ftL
    split <;> simp
  · exact row_len l 33 0 _

end Go.Proofs.YtaflflelcdcanaaGreat

namespace Go.Proofs.YtaflflelcdcanaaGreat
open Go.RowKit Go.Shelf
set_option linter.unusedVariables false

/-- One block lies so. -/
def At (W : World) (B : Nat) (o : Obj) : Prop := W.heap[B]? = some o
theorem At.lt {W : World} {B : Nat} {o : Obj} (h : At W B o) : B < W.heap.size := (Array.getElem?_eq_some_iff.1 h).1
theorem set_size (W : World) (p : Addr) (v : Value) : (W.setCell p v).heap.size = W.heap.size := Array.size_modify
theorem set1 {W : World} {B : Nat} {t : TypeId} {u : Value} (v : Value) (h : At W B (.cells #[u] t (0, 0))) : At (W.setCell ⟨B, 0, none⟩ v) B (.cells #[v] t (0, 0)) := set_lies 0 v h
theorem keeps_below {W W' : World} (h : Below W.heap.size W W') : KeepsOthers W W' := KeepsOthers.of_grownBy (grown_below h) (fun j o ej _ => by cases ej)
theorem keep_below {A : Nat → Prop} {W W' : World} (h : Below W.heap.size W W') : Keep A W W' := ⟨h.size, fun b cs t m _ hh => (h.block b (Array.getElem?_eq_some_iff.1 hh).1).trans hh⟩
theorem keep_set {A : Nat → Prop} (W : World) (B : Nat) (v : Value) (h : ∀ b, A b → b ≠ B) : Keep A W (W.setCell ⟨B, 0, none⟩ v) := ⟨by rw [set_size]; exact Nat.le_refl _, fun b cs t m hb hh => (Below.heap_setCell _ _ _ b (h b hb)).trans hh⟩
theorem keep_own {A : Nat → Prop} {B0 : Nat} {W W' : World} {row : Option Nat} (hg : W.grownBy W' row) (hr : ∀ r, row = some r → B0 ≤ r ∧ ∃ o : Obj, W.heap[r]? = some o ∧ o.isCells = false) : Keep A W W' := by
  refine ⟨hg.size, fun b cs t m _ hh => (hg.block b (Array.getElem?_eq_some_iff.1 hh).1 (fun e => ?_)).trans hh⟩
  obtain ⟨_, o, ho, hc⟩ := hr b e.symm
  rw [hh] at ho
  cases ho
  cases hc
theorem Keep.at_ {A : Nat → Prop} {W W' : World} {B : Nat} {cs : Array Value} {t : TypeId} {m : Nat × Nat} (hk : Keep A W W') (hA : A B) (h : At W B (.cells cs t m)) : At W' B (.cells cs t m) := hk.2 _ _ _ _ hA h
theorem Keep.trans {A : Nat → Prop} {X Y Z : World} (h : Keep A X Y) (k : Keep A Y Z) : Keep A X Z := ⟨Nat.le_trans h.1 k.1, fun b cs t m hb hh => k.2 b cs t m hb (h.2 b cs t m hb hh)⟩

/-- The set under way. -/
structure PJ (w W1 : World) (X : Nat) (cs : List Comp) (z e : Int) (W : World) : Prop where
  pl : At W (w.heap.size + 1) (.cells #[.int .i64 z] 3 (0, 0))
  er : At W (w.heap.size + 1 + 1) (.cells #[.int .i64 e] 23 (0, 0))
  row : ∃ v xs, Boxed W X 39 v ∧ W.ownsRow W1.heap.size 35 6 v cs.length xs ∧ CompsC (fun b => X < b ∧ v.ownBlock ≠ some b) W cs xs
  kp : ∀ k, k < W1.heap.size → k ≠ w.heap.size + 1 → k ≠ w.heap.size + 1 + 1 → k ≠ X → W.heap[k]? = W1.heap[k]?
  bel : Below w.heap.size w W
  sz : W1.heap.size ≤ W.heap.size
theorem PJ.own {w W1 : World} {X : Nat} {cs : List Comp} {z e : Int} (hX : X < W1.heap.size) (hN : w.heap.size + 1 + 1 < X) : OwnFrom W1.heap.size (fun (_ : Unit) W => PJ w W1 X cs z e W) := by
  rintro u P Q row h hg hr
  have K : Keep (fun _ => True) P Q := keep_own hg hr
  obtain ⟨v, xs, h1, h2, h3⟩ := h.row
  refine ⟨K.at_ trivial h.pl, K.at_ trivial h.er, ⟨v, xs, K.at_ trivial h1, own_keep h2 K (fun _ _ => trivial), h3.keep ⟨K.1, fun b cs t m _ => K.2 b cs t m trivial⟩ (fun _ hb _ => hb)⟩, ?_, (ownFrom_below (β := Unit) (Nat.le_refl _) (by omega)) () P Q row h.bel hg hr, Nat.le_trans h.sz hg.size⟩
  intro k hk n1 n2 n3
  exact (hg.block k (Nat.lt_of_lt_of_le hk h.sz) (fun e => by have := (hr k e.symm).1; omega)).trans (h.kp k hk n1 n2 n3)
theorem PJ.next {w W1 W W' : World} {X : Nat} {cs : List Comp} {z e : Int} (h : PJ w W1 X cs z e W) (hb : Below W.heap.size W W') : PJ w W1 X cs z e W' := by
  have K : Keep (fun _ => True) W W' := keep_below hb
  obtain ⟨v, xs, h1, h2, h3⟩ := h.row
  exact ⟨K.at_ trivial h.pl, K.at_ trivial h.er, ⟨v, xs, K.at_ trivial h1, own_keep h2 K (fun _ _ => trivial), h3.keep ⟨K.1, fun b cs t m _ => K.2 b cs t m trivial⟩ (fun _ hb _ => hb)⟩,
    fun k hk n1 n2 n3 => (hb.block k (Nat.lt_of_lt_of_le hk h.sz)).trans (h.kp k hk n1 n2 n3), h.bel.trans (hb.mono h.bel.size), Nat.le_trans h.sz hb.size⟩
theorem PJ.place {w W1 W : World} {X : Nat} {cs : List Comp} {z e : Int} (h : PJ w W1 X cs z e W) (hX : X < W1.heap.size) (hN : w.heap.size + 1 + 1 < X) (p : Int) : PJ w W1 X cs p e (W.setCell ⟨w.heap.size + 1, 0, none⟩ (.int .i64 p)) := by
  obtain ⟨v, xs, h1, h2, h3⟩ := h.row
  exact ⟨set1 _ h.pl, (Below.heap_setCell _ _ _ _ (by simp only; omega)).trans h.er, ⟨v, xs, (Below.heap_setCell _ _ _ _ (by simp only; omega)).trans h1, ownsRow_setCell_below h2 (a := ⟨w.heap.size + 1, 0, none⟩) (by simp only; omega) _, h3.keep (keep_set W _ _ (fun b hb => by have := hb.1; omega)) (fun _ hb _ => hb)⟩,
    fun k hk n1 n2 n3 => (Below.heap_setCell _ _ _ _ (by simp only; omega)).trans (h.kp k hk n1 n2 n3), h.bel.setCell (p := ⟨w.heap.size + 1, 0, none⟩) (by simp only; omega) _, by rw [set_size]; exact h.sz⟩
theorem PJ.fault {w W1 W : World} {X : Nat} {cs : List Comp} {z e : Int} (h : PJ w W1 X cs z e W) (hX : X < W1.heap.size) (hN : w.heap.size + 1 + 1 < X) (p : Int) : PJ w W1 X cs z p (W.setCell ⟨w.heap.size + 1 + 1, 0, none⟩ (.int .i64 p)) := by
  obtain ⟨v, xs, h1, h2, h3⟩ := h.row
  exact ⟨(Below.heap_setCell _ _ _ _ (by simp only; omega)).trans h.pl, set1 _ h.er, ⟨v, xs, (Below.heap_setCell _ _ _ _ (by simp only; omega)).trans h1, ownsRow_setCell_below h2 (a := ⟨w.heap.size + 1 + 1, 0, none⟩) (by simp only; omega) _, h3.keep (keep_set W _ _ (fun b hb => by have := hb.1; omega)) (fun _ hb _ => hb)⟩,
    fun k hk n1 n2 n3 => (Below.heap_setCell _ _ _ _ (by simp only; omega)).trans (h.kp k hk n1 n2 n3), h.bel.setCell (p := ⟨w.heap.size + 1 + 1, 0, none⟩) (by simp only; omega) _, by rw [set_size]; exact h.sz⟩
/-- Comparators appended. -/
theorem PJ.app {w W1 W Wc w3 : World} {X : Nat} {cs ds : List Comp} {z e : Int} {v v' : Value} {ys : List Value} (h : PJ w W1 X cs z e W) (hX : X < W1.heap.size) (hN : w.heap.size + 1 + 1 < X) (b2 : Below W.heap.size W Wc) (hv : Boxed W X 39 v)
    (hlt : ∀ g, v.ownBlock = some g → W1.heap.size ≤ g ∧ g < Wc.heap.size)
    (hown : w3.ownsRow W1.heap.size 35 6 v' (cs ++ ds).length ys) (hcs : CompsC (fun b => X < b ∧ v.ownBlock ≠ some b) Wc (cs ++ ds) ys) (hg : Wc.grownBy w3 v.ownBlock) (hp : v'.ownBlock = v.ownBlock ∨ v'.ownBlock = some Wc.heap.size) :
    PJ w W1 X (cs ++ ds) z e (w3.setCell ⟨X, 0, none⟩ v') ∧ KeepsOthers W w3 ∧ Boxed w3 X 39 v := by
  have h' := h.next b2
  have hnb : ∀ k, k < W1.heap.size → w3.heap[k]? = Wc.heap[k]? := fun k hk => hg.block k (Nat.lt_of_lt_of_le hk h'.sz) (fun e => by have := (hlt k e.symm).1; omega)
  have hvc : Boxed Wc X 39 v := (b2.block X hv.lt).trans hv
  have hv3 : Boxed w3 X 39 v := (hnb X hX).trans hvc
  have hko : KeepsOthers Wc w3 := by
    obtain ⟨v0, xs0, q1, q2, _⟩ := h'.row
    have : v0 = v := by
      have e1 := (show Wc.heap[X]? = _ from q1).symm.trans (show Wc.heap[X]? = _ from hvc)
      simp only [Option.some.injEq, Obj.cells.injEq, and_true] at e1
      simpa using e1
    subst this
    refine KeepsOthers.of_grownBy hg fun j o ej hj => ?_
    rcases q2.2 with ⟨h1, _⟩ | ⟨g, cap', cur, h1, _, hgb, _⟩
    · rw [h1] at ej; cases ej
    · rw [h1] at ej
      simp only [Value.ownBlock, Option.some.injEq] at ej
      subst ej
      rw [hgb] at hj; cases hj; rfl
  refine ⟨⟨?_, ?_, ⟨v', ys, ?_, ?_, ?_⟩, ?_, ?_, ?_⟩, (keeps_below b2).trans hko, hv3⟩
  · exact (Below.heap_setCell _ _ _ _ (by simp only; omega)).trans ((hnb _ (by omega)).trans h'.pl)
  · exact (Below.heap_setCell _ _ _ _ (by simp only; omega)).trans ((hnb _ (by omega)).trans h'.er)
  · exact set_lies 0 v' hv3
  · exact ownsRow_setCell_below hown (a := ⟨X, 0, none⟩) hX _
  · have k1 : Keep (fun b => X < b ∧ v.ownBlock ≠ some b) Wc w3 := ⟨hg.size, fun b cs t m hb hh => (hg.block b (Array.getElem?_eq_some_iff.1 hh).1 hb.2.symm).trans hh⟩
    refine hcs.keep (k1.trans (keep_set w3 X _ (fun b hb => by have := hb.1; omega))) ?_
    rintro b ⟨hb1, hb2⟩ hb3
    refine ⟨hb1, ?_⟩
    rcases hp with hp | hp
    · rw [hp]; exact hb2
    · rw [hp]; intro e; simp only [Option.some.injEq] at e; omega
  · intro k hk n1 n2 n3
    exact (Below.heap_setCell _ _ _ _ (by simp only; omega)).trans ((hnb k hk).trans (h'.kp k hk n1 n2 n3))
  · have hb3 : Below w.heap.size w w3 := by
      refine ⟨hg.os.trans h'.bel.os, hg.tape.trans h'.bel.tape, hg.output.trans h'.bel.output, Nat.le_trans h'.bel.size hg.size, fun k hk => (hnb k (by omega)).trans (h'.bel.block k hk)⟩
    exact hb3.setCell (p := ⟨X, 0, none⟩) (by simp only; omega) _
  · rw [set_size]; exact Nat.le_trans h'.sz hg.size

/-- What the loop over a set's parts goes on with. -/
structure Goes8 (c : Int) (w W1 : World) (X : Nat) (pre : List Item) (W : World) : Prop where
  ok : ∀ x ∈ pre, x.err = 0
  pj : PJ w W1 X (pre.flatMap (fun x => meanL x.f x.p)) (lastP c pre) 0 W
/-- How it is left. -/
structure Left8 (c : Int) (w W1 : World) (X : Nat) (k : Code) (pre : List Item) (W : World) : Prop where
  code : k = .exit 0
  is : ∃ pre0 x, pre = pre0 ++ [x] ∧ (∀ x ∈ pre0, x.err = 0) ∧ x.err ≠ 0 ∧ PJ w W1 X (pre0.flatMap (fun x => meanL x.f x.p)) x.pos x.err W
theorem last_snoc (c : Int) : ∀ (pre : List Item) (x : Item), lastP c (pre ++ [x]) = x.pos
  | [], x => rfl
  | y :: ys, x => last_snoc y.pos ys x
theorem Left8.set {c : Int} {w W1 : World} {X : Nat} {k : Code} {pre rest : List Item} {W : World} (h : Left8 c w W1 X k pre W) : ∃ z e cs, foldI c [] (pre ++ rest) = (e, z, cs) ∧ e ≠ 0 ∧ PJ w W1 X cs z e W := by
  obtain ⟨pre0, x, rfl, h1, h2, h3⟩ := h.is
  refine ⟨x.pos, x.err, _, ?_, h2, h3⟩
  rw [List.append_assoc, fold_split pre0 c [] ([x] ++ rest) h1]
  show foldI _ _ (x :: rest) = _
  unfold foldI
  rw [if_pos h2, List.nil_append]
theorem Goes8.set {c : Int} {w W1 : World} {X : Nat} {pre : List Item} {W : World} (h : Goes8 c w W1 X pre W) : foldI c [] pre = (0, lastP c pre, pre.flatMap (fun x => meanL x.f x.p)) := by
  have := fold_split pre c [] [] h.ok
  rw [List.append_nil, List.nil_append] at this
  rw [this]
  rfl
/-- The place behind parts that are good. -/
theorem last_le {l : List UInt8} {c : Nat} (hc : c ≤ l.length) : ∀ (pre : List Item), (∀ x ∈ pre, ∃ e : Nat, x.pos = (e : Int) ∧ e ≤ l.length) → ∃ e : Nat, lastP (c : Int) pre = (e : Int) ∧ e ≤ l.length
  | [], _ => ⟨c, rfl, hc⟩
  | [x], h => h x List.mem_cons_self
  | x :: y :: ys, h => by
    obtain ⟨e, h1, h2⟩ := h x List.mem_cons_self
    have := last_le (c := e) h2 (y :: ys) (fun z hz => h z (List.mem_cons_of_mem _ hz))
    show ∃ e : Nat, lastP x.pos (y :: ys) = _ ∧ _
    rw [h1]
    exact this

/-- What Parse holds. -/
structure PK (w : World) (Ds : List Nat) (sets : List (List Comp)) (sv : Value) (z e : Int) (W : World) : Prop where
  flt : At W w.heap.size (.cells #[.int .i64 0, .int .i64 0] 25 (0, 0))
  pl : At W (w.heap.size + 1) (.cells #[.int .i64 z] 3 (0, 0))
  er : At W (w.heap.size + 1 + 1) (.cells #[.int .i64 e] 23 (0, 0))
  bel : Below w.heap.size w W
  nd : Ds.Nodup
  ds : ∀ D ∈ Ds, w.heap.size ≤ D ∧ W.heap[D]? = some (.deferred (some []))
  st : SetsO (w.heap.size + 1 + 1 + 1) W sv sets
theorem PK.next {w W W' : World} {Ds : List Nat} {sets : List (List Comp)} {sv : Value} {z e : Int} (h : PK w Ds sets sv z e W) (hb : Below W.heap.size W W') : PK w Ds sets sv z e W' :=
  ⟨(hb.block _ h.flt.lt).trans h.flt, (hb.block _ h.pl.lt).trans h.pl, (hb.block _ h.er.lt).trans h.er, h.bel.trans (hb.mono h.bel.size), h.nd, fun D hD => ⟨(h.ds D hD).1, (hb.block D (Array.getElem?_eq_some_iff.1 (h.ds D hD).2).1).trans (h.ds D hD).2⟩, h.st.keep (keep_below hb)⟩
theorem mark_ne {W : World} {D B : Nat} {cs : Array Value} {t : TypeId} {m : Nat × Nat} (h1 : W.heap[D]? = some (.deferred (some []))) (h2 : At W B (.cells cs t m)) : D ≠ B := by
  rintro rfl
  rw [show W.heap[D]? = _ from h2] at h1
  cases h1
theorem PK.place {w W : World} {Ds : List Nat} {sets : List (List Comp)} {sv : Value} {z e : Int} (h : PK w Ds sets sv z e W) (p : Int) : PK w Ds sets sv p e (W.setCell ⟨w.heap.size + 1, 0, none⟩ (.int .i64 p)) :=
  ⟨(Below.heap_setCell _ _ _ _ (by simp only; omega)).trans h.flt, set1 _ h.pl, (Below.heap_setCell _ _ _ _ (by simp only; omega)).trans h.er, h.bel.setCell (p := ⟨w.heap.size + 1, 0, none⟩) (by simp only; omega) _, h.nd,
    fun D hD => ⟨(h.ds D hD).1, (Below.heap_setCell _ _ _ _ (mark_ne (h.ds D hD).2 h.pl)).trans (h.ds D hD).2⟩, h.st.keep (keep_set W _ _ (fun b hb => by omega))⟩
theorem PK.fault {w W : World} {Ds : List Nat} {sets : List (List Comp)} {sv : Value} {z e : Int} (h : PK w Ds sets sv z e W) (p : Int) : PK w Ds sets sv z p (W.setCell ⟨w.heap.size + 1 + 1, 0, none⟩ (.int .i64 p)) :=
  ⟨(Below.heap_setCell _ _ _ _ (by simp only; omega)).trans h.flt, (Below.heap_setCell _ _ _ _ (by simp only; omega)).trans h.pl, set1 _ h.er, h.bel.setCell (p := ⟨w.heap.size + 1 + 1, 0, none⟩) (by simp only; omega) _, h.nd,
    fun D hD => ⟨(h.ds D hD).1, (Below.heap_setCell _ _ _ _ (mark_ne (h.ds D hD).2 h.er)).trans (h.ds D hD).2⟩, h.st.keep (keep_set W _ _ (fun b hb => by omega))⟩
/-- Behind the loop over a set's parts. -/
theorem PK.range {w W W1 V : World} {Ds : List Nat} {sets : List (List Comp)} {sv : Value} {z z' e e' : Int} {cs : List Comp} {D : Nat} (h : PK w Ds sets sv z e W) (hb : Below W.heap.size W W1) (hX : W.heap.size < W1.heap.size) (hj : PJ w W1 W.heap.size cs z' e' V)
    (hD : W1.heap.size ≤ D) (hd : V.heap[D]? = some (.deferred (some []))) : PK w (D :: Ds) sets sv z' e' V := by
  have hk : ∀ k, k < W.heap.size → k ≠ w.heap.size + 1 → k ≠ w.heap.size + 1 + 1 → V.heap[k]? = W.heap[k]? := fun k h1 h2 h3 => (hj.kp k (by omega) h2 h3 (by omega)).trans (hb.block k h1)
  refine ⟨(hk _ h.flt.lt (by omega) (by omega)).trans h.flt, hj.pl, hj.er, hj.bel, List.nodup_cons.2 ⟨fun hm => ?_, h.nd⟩, ?_, ?_⟩
  · have := (Array.getElem?_eq_some_iff.1 (h.ds D hm).2).1
    omega
  · intro E hE
    rcases List.mem_cons.1 hE with rfl | hE
    · exact ⟨by have := h.bel.size; omega, hd⟩
    · obtain ⟨h1, h2⟩ := h.ds E hE
      exact ⟨h1, (hk E (Array.getElem?_eq_some_iff.1 h2).1 (mark_ne h2 h.pl) (mark_ne h2 h.er)).trans h2⟩
  · exact h.st.keep ⟨Nat.le_trans (Nat.le_of_lt hX) hj.sz, fun b cs t m hb' hh => (hk b (Array.getElem?_eq_some_iff.1 hh).1 (by omega) (by omega)).trans hh⟩
/-- The set under way, as a set. -/
theorem PK.set {w W W1 V : World} {Ds : List Nat} {sets : List (List Comp)} {sv : Value} {z z' e e' : Int} {cs : List Comp} (h : PK w Ds sets sv z e W) (hX : W.heap.size < W1.heap.size) (hj : PJ w W1 W.heap.size cs z' e' V) :
    ∃ v, Boxed V W.heap.size 39 v ∧ (∃ a c, v = .slice a cs.length c) ∧ SetO (fun b => w.heap.size + 1 + 1 + 1 ≤ b ∧ sv.ownBlock ≠ some b) V v cs := by
  obtain ⟨v, xs, h1, h2, h3⟩ := hj.row
  obtain ⟨us, h4, _⟩ := h.st
  have hs := h.er.lt
  have hA : ∀ b, W.heap.size < b → (w.heap.size + 1 + 1 + 1 ≤ b ∧ sv.ownBlock ≠ some b) := fun b hb => ⟨by omega, fun e => by have := (own_lt h4 b e).2; omega⟩
  obtain ⟨a, c, hv, _⟩ := own_cells h2
  refine ⟨v, h1, ⟨a, c, hv⟩, xs, ⟨h2.1, ?_⟩, fun g hg => hA g (by have := (own_lt h2 g hg).1; omega), h3.keep (A' := fun b => w.heap.size + 1 + 1 + 1 ≤ b ∧ sv.ownBlock ≠ some b) ⟨Nat.le_refl _, fun _ _ _ _ _ hh => hh⟩ (fun b hb _ => hA b hb.1)⟩
  rcases h2.2 with h5 | ⟨g, cap, cur, hv, hg, r⟩
  · exact .inl h5
  · exact .inr ⟨g, cap, cur, hv, Nat.zero_le _, r⟩
/-- One set more. -/
theorem PK.app {w V w3 : World} {Ds : List Nat} {sets : List (List Comp)} {sv v v' : Value} {z e : Int} {cs : List Comp} {us : List Value} (h : PK w Ds sets sv z e V) (tmp : Obj) (hu : SetO (fun b => w.heap.size + 1 + 1 + 1 ≤ b ∧ sv.ownBlock ≠ some b) V v cs)
    (h1 : V.ownsRow (w.heap.size + 1 + 1 + 1) 39 1 sv sets.length us) (h2 : ∀ i (h : i < sets.length), ∃ u, us[i]? = some u ∧ SetO (fun b => w.heap.size + 1 + 1 + 1 ≤ b ∧ sv.ownBlock ≠ some b) V u sets[i])
    (h3 : w3.ownsRow (w.heap.size + 1 + 1 + 1) 39 1 v' (sets.length + 1) (us ++ [v])) (hg : (V.alloc tmp).grownBy w3 sv.ownBlock) (hp : v'.ownBlock = sv.ownBlock ∨ v'.ownBlock = some (V.alloc tmp).heap.size) : PK w Ds (sets ++ [cs]) v' z e w3 := by
  have hb : Below V.heap.size V (V.alloc tmp) := (Below.refl _ V).alloc (Nat.le_refl _) _
  have h' := h.next hb
  have hkb : ∀ {A : Nat → Prop}, Keep A V (V.alloc tmp) := keep_below hb
  have h1' := own_keep (A := fun _ => True) h1 hkb (fun _ _ => trivial)
  have hlt := own_lt h1'
  have hks : ∀ k, k < (V.alloc tmp).heap.size → k < w.heap.size + 1 + 1 + 1 → w3.heap[k]? = (V.alloc tmp).heap[k]? := fun k hk1 hk2 => hg.block k hk1 (fun e => by have := (hlt k e.symm).1; omega)
  refine ⟨(hks _ h'.flt.lt (by omega)).trans h'.flt, (hks _ h'.pl.lt (by omega)).trans h'.pl, (hks _ h'.er.lt (by omega)).trans h'.er, ?_, h.nd, ?_, ?_⟩
  · exact ⟨hg.os.trans h'.bel.os, hg.tape.trans h'.bel.tape, hg.output.trans h'.bel.output, Nat.le_trans h'.bel.size hg.size, fun k hk => (hks k (Nat.lt_of_lt_of_le hk h'.bel.size) (by omega)).trans (h'.bel.block k hk)⟩
  · intro D hD
    obtain ⟨q1, q2⟩ := h'.ds D hD
    refine ⟨q1, (hg.block D (Array.getElem?_eq_some_iff.1 q2).1 (fun e => ?_)).trans q2⟩
    rcases h1'.2 with ⟨h5, _⟩ | ⟨g, cap, cur, hv, _, hh, _⟩
    · rw [h5] at e; cases e
    · rw [hv] at e
      simp only [Value.ownBlock, Option.some.injEq] at e
      subst e
      rw [hh] at q2
      cases q2
  · refine SetsO.snoc h1' (fun i hi => ?_) (hu.keep hkb (fun _ hb _ => hb)) h3 hg hp
    obtain ⟨u, q1, q2⟩ := h2 i hi
    exact ⟨u, q1, q2.keep hkb (fun _ hb _ => hb)⟩
/-- What Parse holds ahead of a set. -/
structure PIn (l : List UInt8) (w : World) (Ds : List Nat) (sets : List (List Comp)) (sv : Value) (c n : Nat) (W : World) : Prop where
  pk : PK w Ds sets sv (c : Int) 0 W
  cl : c ≤ l.length
  eq : npGo l 33 0 [] = npGo l n c sets
  num : n + sets.length = 33
  sl : sets.length ≤ 31
theorem cap_fresh {W : World} {v : Value} {ts : List (List UInt8)} {R : Nat} (h : Txt W v ts) (hc : Cap v) (hf : Fresh R v) : CapA (fun b => R ≤ b ∧ b < W.heap.size) v := by
  refine ⟨hc, fun p n c e => ?_⟩
  obtain ⟨a, cap, hv, h0 | ⟨b, off, ha, hlt, _⟩⟩ := h
  · rw [e] at hv
    cases hv
    exact .inl (by rw [h0]; rfl)
  · refine .inr ⟨hf p n c e, ?_⟩
    rw [e] at hv
    cases hv
    cases ha
    exact hlt

theorem Tri.trans {b c d : Nat} {A B C : World} (h : Tri b c d A B) (k : Tri b c d B C) : Tri b c d A C := ⟨k.1.trans h.1, k.2.1.trans h.2.1, k.2.2.trans h.2.2⟩
/-- What parts leaves is an iterator over the set's parts. -/
theorem seq_of_parts (s : ByteArray) (c : Nat) (W0 W1 : World) (hs : s.size ≤ 256) (hc : c ≤ s.size) (e : Ending) (h : PartsP s.data.toList s c W0 e W1) :
    ∃ gf lb Kp, e = .returned (.func (.func gf) #[] lb) ∧ (∀ args w, (callFunc gf args).run Tryz.prog w = .ok (.enter gf args) w) ∧
      SeqC Fence.wide 4 Tryz.prog gf lb encI (CX W0.heap.size W1.heap.size (partsL s.data.toList c)) (fun x => x.1.err = 0) Kp (fun xs => xs.map Prod.fst = partsL s.data.toList c) (fun pre => pre.map Prod.fst <+: partsL s.data.toList c) W1 ∧
      (∀ A B D : World, Kp A B → Kp B D → Kp A D) ∧ (∀ W W' : World, (∀ k, W0.heap.size ≤ k → k < W1.heap.size → W'.heap[k]? = W.heap[k]?) → Kp W W') := by
  obtain ⟨hb, ⟨hf, Bp, Be, Bs, av, nv, cv, rfl, h1, h2, h3, q1, q2, q3, q4, q5, q6⟩ | ⟨hf, Ba, Bs, rfl, h1, h2, q1, q2⟩⟩ := h
  · have hf' := hf
    unfold isFrom at hf'
    rw [Bool.and_eq_true] at hf'
    have hr : (headL s.data.toList c).2.2 = 0 := by simpa using hf'.1
    obtain ⟨e, k1, _, k2⟩ := rp_ok (blk_le (by rw [len_data]; exact hc)) hr
    have k1' : (headL s.data.toList c).2.1 = (e : Int) := k1
    have h45 := hf'.2
    rw [k1', Int.toNat_natCast] at h45
    have h45 : s.data.toList[blk s.data.toList e]? = some 45 := by simpa using h45
    have hd := (List.getElem?_eq_some_iff.1 h45).1
    rw [len_data] at k2 hd
    have hP : partsL s.data.toList c = ftL s.data.toList (headL s.data.toList c).1 e := by unfold partsL; rw [if_pos hf, k1', Int.toNat_natCast]
    rw [k1'] at q2
    rw [hP]
    refine ⟨84, _, Tri Bp Be Bs, rfl, enters_of Tryz.func84 (by kernel_rfl) rfl, ?_, fun A B D h k => h.trans k, fun W W' h => ⟨h _ h1 (Array.getElem?_eq_some_iff.1 q1).1, h _ h2 q2.lt, h _ h3 q3.lt⟩⟩
    intro l J Jx W hW hJ hJx hY h0
    exact from1_in 4 (by omega) l Bp Be Bs s (headL s.data.toList c).1 e av nv cv k2 hs (by omega) J Jx W.heap.size hJ W0.heap.size W1.heap.size (cap_fresh q4 q5 q6) hY W ((hW.block _ (Array.getElem?_eq_some_iff.1 q1).1).trans q1) (boxed_below q2 hW) (boxed_below q3 hW) (q4.below hW) q5 h0
  · have hP : partsL s.data.toList c = rowL s.data.toList (blk s.data.toList c) := by unfold partsL; rw [if_neg (by rw [hf]; decide)]
    rw [hP]
    have hle := blk_le (l := s.data.toList) (a := c) (by rw [len_data]; exact hc)
    rw [len_data] at hle
    refine ⟨89, _, Two Ba Bs, rfl, enters_of Tryz.func89 (by kernel_rfl) rfl, ?_, fun A B D h k => h.trans k, fun W W' h => ⟨h _ h1 q1.lt, h _ h2 q2.lt⟩⟩
    intro l J Jx W hW hJ hJx hY h0
    exact row1_in 4 (by omega) l Ba Bs s (blk s.data.toList c) hle hs J Jx W.heap.size hJ W0.heap.size W1.heap.size hY W (boxed_below q1 hW) (boxed_below q2 hW) h0

end Go.Proofs.YtaflflelcdcanaaGreat
