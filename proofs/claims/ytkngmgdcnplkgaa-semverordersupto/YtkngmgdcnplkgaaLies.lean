/-
  Blocks that lie in memory, told as a list; what keeps them.
-/
import Derived.Test.YtkngmgdcnplkgaaSc
namespace Go.Proofs.Ytkngmgdcnplkgaa
open Go.RowKit Go.Shelf
set_option linter.unusedVariables false

/-- These blocks lie so. -/
def Lies (W : World) (ps : List (Nat × Obj)) : Prop := ∀ p ∈ ps, W.heap[p.1]? = some p.2
theorem Lies.nil (W : World) : Lies W [] := by intro p hp; cases hp
theorem Lies.cons {W : World} {B : Nat} {o : Obj} {ps : List (Nat × Obj)} (h : W.heap[B]? = some o) (hs : Lies W ps) : Lies W ((B, o) :: ps) := by
  intro p hp
  rcases List.mem_cons.1 hp with rfl | hp
  · exact h
  · exact hs p hp
theorem Lies.head {W : World} {B : Nat} {o : Obj} {ps : List (Nat × Obj)} (h : Lies W ((B, o) :: ps)) : W.heap[B]? = some o := h (B, o) List.mem_cons_self
theorem Lies.tail {W : World} {p : Nat × Obj} {ps : List (Nat × Obj)} (h : Lies W (p :: ps)) : Lies W ps := fun q hq => h q (List.mem_cons_of_mem _ hq)
theorem Lies.lt {W : World} {ps : List (Nat × Obj)} (h : Lies W ps) (p : Nat × Obj) (hp : p ∈ ps) : p.1 < W.heap.size := (Array.getElem?_eq_some_iff.1 (h p hp)).1
theorem Lies.kept {W W' : World} {row : Option Nat} {ps : List (Nat × Obj)} (h : Lies W ps) (hg : W.grownBy W' row) (hne : ∀ p ∈ ps, some p.1 ≠ row) : Lies W' ps :=
  fun p hp => (hg.block p.1 (h.lt p hp) (hne p hp)).trans (h p hp)
theorem Lies.alloc {W : World} {ps : List (Nat × Obj)} (h : Lies W ps) (o : Obj) : Lies (W.alloc o) ps := h.kept (World.grownBy_alloc W o none) (by simp)
theorem grownBy_set (W : World) (b o : Nat) (v : Value) : W.grownBy (W.setCell ⟨b, o, none⟩ v) (some b) :=
  ⟨rfl, rfl, rfl, (KeepsWalks.setCell W _ v).size, fun k _ hk => Below.heap_setCell _ _ _ k (fun e => hk (by rw [e]))⟩
theorem Lies.other {W : World} {ps : List (Nat × Obj)} (h : Lies W ps) (b o : Nat) (v : Value) (hne : ∀ p ∈ ps, p.1 ≠ b) : Lies (W.setCell ⟨b, o, none⟩ v) ps :=
  h.kept (grownBy_set W b o v) (fun p hp e => hne p hp (by simpa using e))
theorem Lies.below {W W' : World} {n : Nat} {ps : List (Nat × Obj)} (h : Lies W ps) (hb : Below n W W') (hn : ∀ p ∈ ps, p.1 < n) : Lies W' ps :=
  fun p hp => (hb.block p.1 (hn p hp)).trans (h p hp)
theorem lies_own {β : Type} (B0 : Nat) (ps : List (Nat × Obj)) (hps : ∀ p ∈ ps, p.1 < B0) : OwnFrom B0 (fun (_ : β) W => Lies W ps) := by
  rintro s X Y row h hg hrow
  exact h.kept hg (fun p hp e => by have := (hrow p.1 e.symm).1; have := hps p hp; omega)
theorem one_cell {W : World} {B : Nat} {t : TypeId} {v : Value} {m : Nat × Nat} (h : W.heap[B]? = some (.cells #[v] t m)) : W.cell? ⟨B, 0, none⟩ = some v := by simp [World.cell?, h]
theorem one_free {W : World} {B : Nat} {t : TypeId} {cs : Array Value} (o : Nat) (h : W.heap[B]? = some (.cells cs t (0, 0))) : W.frozen? ⟨B, o, none⟩ = false := by simp [World.frozen?, h]
theorem cell_at {W : World} {B : Nat} {t : TypeId} {cs : Array Value} {m : Nat × Nat} (o : Nat) {v : Value} (h : W.heap[B]? = some (.cells cs t m)) (hv : cs[o]? = some v) : W.cell? ⟨B, o, none⟩ = some v := by simp [World.cell?, h, hv]
theorem set_lies {W : World} {B : Nat} {t : TypeId} {cs : Array Value} {m : Nat × Nat} (o : Nat) (v : Value) (h : W.heap[B]? = some (.cells cs t m)) : (W.setCell ⟨B, o, none⟩ v).heap[B]? = some (.cells (cs.setIfInBounds o v) t m) := by
  obtain ⟨hlt, hk⟩ := Array.getElem?_eq_some_iff.1 h
  show (W.heap.modify B _)[B]? = _
  rw [Array.getElem?_eq_getElem (by rw [Array.size_modify]; exact hlt), Array.getElem_modify_self, hk]
  rfl

/-! ### A region that draws its order, in a round of a loop over an iterator: as outside of one, where nothing is deferred -/

section
variable {F : Fence} {n l : Nat} {P : Program} {ops : Array Oper} {Q : Exit → Act → World → Prop} {md : Region.Mode}

theorem oper_round {o : Oper} (hro : F.round = none) (hd : ∀ c, o.op ≠ .defer c) {a : Act} {w : World} {K : Act → World → Prop} (h : Oper.wpIn F n P o a w K Q) : Oper.wpIn (F.inRound l) n P o a w K Q := by
  unfold Oper.wpIn at *
  refine ⟨h.1, ?_⟩
  have h2 := h.2
  rw [Oper.semAt_plain F _ _ hd] at h2
  rw [Oper.semAt_plain (F.inRound l) _ _ hd]
  exact h2

theorem wpOpIn_round (hro : F.round = none) (hd : ∀ (i : Nat) (o : Oper), ops[i]? = some o → ∀ c, o.op ≠ .defer c) {i : Nat} {K : Act → World → Prop} {a : Act} {w : World} (h : wpOpIn F n P ops Q i K a w) : wpOpIn (F.inRound l) n P ops Q i K a w := by
  unfold wpOpIn at *
  cases ho : ops[i]? with
  | none => simpa [ho] using h
  | some o =>
    simp only [ho] at h ⊢
    split
    · rename_i hw; simp only [hw, if_true] at h; exact oper_round hro (hd i o ho) h
    · rename_i hw; simp only [hw] at h; exact h

theorem wpAnyIn_round (hro : F.round = none) (hd : ∀ (i : Nat) (o : Oper), ops[i]? = some o → ∀ c, o.op ≠ .defer c) :
    ∀ (fuel : Nat) (listed : Array Bool) (a : Act) (w : World), wpAnyIn F n P md ops Q fuel listed a w → wpAnyIn (F.inRound l) n P md ops Q fuel listed a w
  | 0, _, _, _, h => h
  | fuel + 1, listed, a, w, h => ⟨h.1, fun i hi => wpOpIn_mono (fun a' w' h' => wpAnyIn_round hro hd fuel _ a' w' h') (wpOpIn_round hro hd (h.2 i hi))⟩

/-- append onto a row of the call's own, as one step of a region that draws. -/
theorem stepIn_append_own {o : Oper} {a : Act} {w : World} {K : Act → World → Prop} {E : Prop}
    (hg : o.guard = none) (s x : Operand) (t : TypeId) (hop : o.op = Op.call { callee := Callee.builtin Builtin.append, args := #[s, x], argTypes := #[t, t] })
    (base : Nat) (e : TypeId) (i : TypeInfo) (z : Value) (size bytes : Nat) (h1 : P.underlying t = some (.slice e)) (h2 : P.info? e = some i) (h3 : i.zero = some z) (h4 : i.size = size) (h5 : i.bytes = bytes) (h6 : z.cells.size = size) (h7 : 0 < size)
    (v : Value) (k : Nat) (xs : List Value) (hs : a.eval s = v) (hown : w.ownsRow base e size v k xs) (ad : Addr) (m c : Nat) (news : List Value) (hx : a.eval x = .slice (some ad) m c) (hn : news.length = m * size)
    (hc : ∀ j u, news[j]? = some u → w.cell? (ad.add j) = some u) (h1c : ∀ u ∈ news, u.oneCell' = true) (b1 : k + m ≤ maxLen) (b2 : (k + m) * bytes ≤ 140737488355328) (b3 : base ≤ w.heap.size)
    (hK : ∀ v' w', w'.ownsRow base e size v' (k + m) (xs ++ news) → w.grownBy w' v.ownBlock → (v' = .slice none 0 0 ↔ v = .slice none 0 0 ∧ m = 0) → K (a.put o.dst v') w') :
    if Region.wanted o (yielded ops a.tmps) = true then Oper.wpIn F n P o a w K Q else E := by
  have hw : Region.wanted o (yielded ops a.tmps) = true := by simp [Region.wanted, hg]
  rw [if_pos hw]
  obtain ⟨v', w', hrun, r1, r2, r3⟩ := run_append_own (P := P) w base t o.type e i z size bytes h1 h2 h3 h4 h5 h6 h7 v k xs hown ad m c news hn hc h1c b1 b2 b3
  unfold Oper.wpIn
  refine ⟨?_, ?_⟩
  · simp [Oper.about, hop, resolve, Target.leads, Sem.run_pure]
  · rw [Oper.semAt_plain F _ _ (by rw [hop]; intro c hc'; cases hc')]
    simp [execOp, hop, resolve, invoke, builtin, hs, hx, hrun, Result.andThen]
    exact hK v' w' r1 r2 r3
end


end Go.Proofs.Ytkngmgdcnplkgaa
