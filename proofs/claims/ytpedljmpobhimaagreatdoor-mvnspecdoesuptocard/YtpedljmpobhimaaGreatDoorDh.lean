/-
  What walks of rows of tokens share; trimming as a fold.
-/
import Derived.Test.YtpedljmpobhimaaGreatDoorDg
import Derived.RangeFuncBox
namespace Go.Proofs.YtpedljmpobhimaaGreatDoor
open Go.RowKit Go.Shelf
set_option linter.unusedVariables false

attribute [local go_sem] Oper.semAt_some

/-! ### A region that draws its order, in a round of a loop over an iterator: as outside of one, where nothing is deferred -/

section
variable {F : Fence} {n l : Nat} {P : Program} {ops : Array Oper} {Q : Exit → Act → World → Prop} {md : Region.Mode}

theorem oper_round {o : Oper} (hro : F.round = none) (hd : ∀ c, o.op ≠ .defer c) {a : Act} {w : World} {K : Act → World → Prop} (h : Oper.wpIn F n P o a w K Q) : Oper.wpIn (F.inRound l) n P o a w K Q := by
  unfold Oper.wpIn at *
  refine ⟨h.1, ?_⟩
  have h2 := h.2
  rw [Oper.semAt_plain F _ _ hd] at h2
  rw [Oper.semAt_plain (F.inRound l) _ _ hd]
  exact h2

theorem wpOpIn_round (hro : F.round = none) (hd : ∀ (i : Nat) (o : Oper), ops[i]? = some o → ∀ c, o.op ≠ .defer c) {i : Nat} {K : Act → World → Prop} {a : Act} {w : World} (h : wpOpIn F n P ops Q i K a w) : wpOpIn (F.inRound l) n P ops Q i K a w := by
  unfold wpOpIn at *
  cases ho : ops[i]? with
  | none => simpa [ho] using h
  | some o =>
    simp only [ho] at h ⊢
    split
    · rename_i hw; simp only [hw, if_true] at h; exact oper_round hro (hd i o ho) h
    · rename_i hw; simp only [hw] at h; exact h

theorem wpAnyIn_round (hro : F.round = none) (hd : ∀ (i : Nat) (o : Oper), ops[i]? = some o → ∀ c, o.op ≠ .defer c) :
    ∀ (fuel : Nat) (listed : Array Bool) (a : Act) (w : World), wpAnyIn F n P md ops Q fuel listed a w → wpAnyIn (F.inRound l) n P md ops Q fuel listed a w
  | 0, _, _, _, h => h
  | fuel + 1, listed, a, w, h => ⟨h.1, fun i hi => wpOpIn_mono (fun a' w' h' => wpAnyIn_round hro hd fuel _ a' w' h') (wpOpIn_round hro hd (h.2 i hi))⟩

/-- append onto a row of the call's own, as one step of a region that draws. -/
theorem stepIn_append_own {o : Oper} {a : Act} {w : World} {K : Act → World → Prop} {E : Prop}
    (hg : o.guard = none) (s x : Operand) (t : TypeId) (hop : o.op = Op.call { callee := Callee.builtin Builtin.append, args := #[s, x], argTypes := #[t, t] })
    (base : Nat) (e : TypeId) (i : TypeInfo) (z : Value) (size bytes : Nat) (h1 : P.underlying t = some (.slice e)) (h2 : P.info? e = some i) (h3 : i.zero = some z) (h4 : i.size = size) (h5 : i.bytes = bytes) (h6 : z.cells.size = size) (h7 : 0 < size)
    (v : Value) (k : Nat) (xs : List Value) (hs : a.eval s = v) (hown : w.ownsRow base e size v k xs) (ad : Addr) (m c : Nat) (news : List Value) (hx : a.eval x = .slice (some ad) m c) (hn : news.length = m * size)
    (hc : ∀ j u, news[j]? = some u → w.cell? (ad.add j) = some u) (h1c : ∀ u ∈ news, u.oneCell' = true) (b1 : k + m ≤ maxLen) (b2 : (k + m) * bytes ≤ 140737488355328) (b3 : base ≤ w.heap.size)
    (hK : ∀ v' w', w'.ownsRow base e size v' (k + m) (xs ++ news) → w.grownBy w' v.ownBlock → (v' = .slice none 0 0 ↔ v = .slice none 0 0 ∧ m = 0) → K (a.put o.dst v') w') :
    if Region.wanted o (yielded ops a.tmps) = true then Oper.wpIn F n P o a w K Q else E := by
  have hw : Region.wanted o (yielded ops a.tmps) = true := by simp [Region.wanted, hg]
  rw [if_pos hw]
  obtain ⟨v', w', hrun, r1, r2, r3⟩ := run_append_own (P := P) w base t o.type e i z size bytes h1 h2 h3 h4 h5 h6 h7 v k xs hown ad m c news hn hc h1c b1 b2 b3
  unfold Oper.wpIn
  refine ⟨?_, ?_⟩
  · simp [Oper.about, hop, resolve, Target.leads, Sem.run_pure]
  · rw [Oper.semAt_plain F _ _ (by rw [hop]; intro c hc'; cases hc')]
    simp [execOp, hop, resolve, invoke, builtin, hs, hx, hrun, Result.andThen]
    exact hK v' w' r1 r2 r3
end

def noDefer : Op → Bool
  | .defer _ => false
  | _ => true
theorem noDefer_of {ops : Array Oper} (h : ops.all (fun o => noDefer o.op) = true) : ∀ (i : Nat) (o : Oper), ops[i]? = some o → ∀ c, o.op ≠ .defer c := by
  intro i o ho c hc
  obtain ⟨hi, he⟩ := Array.getElem?_eq_some_iff.1 ho
  have := Array.all_eq_true.1 h i hi
  rw [he, hc] at this
  cases this

/-- Marks of loops over an iterator. -/
def marks (Ds : List Nat) : List Deferred := Ds.map fun D => { target := .collected D, args := #[] }
/-- Behind the marks: cells lie as they lay, and nothing old has turned. -/
def Past (n₀ : Nat) (W W' : World) : Prop := Below n₀ W W' ∧ ∀ (b : Nat) (o : Obj), W.heap[b]? = some o → o.isCells = true → W'.heap[b]? = some o
theorem Past.refl (n₀ : Nat) (W : World) : Past n₀ W W := ⟨Below.refl _ _, fun _ _ h _ => h⟩
theorem Past.trans {n₀ : Nat} {A B C : World} (h : Past n₀ A B) (k : Past n₀ B C) : Past n₀ A C := ⟨h.1.trans k.1, fun b o h1 h2 => k.2 b o (h.2 b o h1 h2) h2⟩
theorem Past.own {n₀ base : Nat} {e : TypeId} {size : Nat} {v : Value} {k : Nat} {xs : List Value} {W W' : World} (h : Past n₀ W W') (hr : W.ownsRow base e size v k xs) : W'.ownsRow base e size v k xs := by
  refine ⟨hr.1, ?_⟩
  rcases hr.2 with h2 | ⟨g, cap, cur, hv, hg, hh, r⟩
  · exact .inl h2
  · exact .inr ⟨g, cap, cur, hv, hg, h.2 g _ hh rfl, r⟩
theorem leaves_marks {fn : Func} {tmps : Array Value} {R : Ending → World → Prop} (n₀ : Nat) : ∀ (Ds : List Nat) (W : World), Ds.Nodup → (∀ D ∈ Ds, n₀ ≤ D ∧ W.heap[D]? = some (.deferred (some []))) →
    (∀ W', Past n₀ W W' → LeavesIn Fence.wide 5 Tryz.prog fn tmps R [] .returning W') → LeavesInM Fence.wide 5 Tryz.prog fn tmps R (marks Ds) .returning W
  | [], W, _, _, h => h W (Past.refl _ _)
  | D :: Ds, W, hnd, hD, h => by
    have hd := hD D List.mem_cons_self
    have hne : ∀ E ∈ Ds, E ≠ D := fun E hE e => by subst e; exact (List.nodup_cons.1 hnd).1 hE
    refine ⟨by simp, .inl ⟨_, _, rfl, run_takeDeferred hd.2, ?_⟩⟩
    refine leaves_marks n₀ Ds _ (List.nodup_cons.1 hnd).2 (fun E hE => ⟨(hD E (List.mem_cons_of_mem _ hE)).1, (World.putObj_heap_other (hne E hE)).trans (hD E (List.mem_cons_of_mem _ hE)).2⟩) ?_
    intro W' hW'
    refine h W' (Past.trans ⟨?_, ?_⟩ hW')
    · exact belowK_b (w := { W with heap := W.heap.take n₀ }) (n₀ := n₀) (by have := (Array.getElem?_eq_some_iff.1 hd.2).1; simp; omega) W D _ _ (by simp; omega) hd.2 rfl rfl
    · intro b o hb ho
      by_cases e : b = D
      · subst e; rw [hd.2] at hb; cases hb; cases ho
      · exact (World.putObj_heap_other e).trans hb

/-- One block lies so. -/
def At (W : World) (B : Nat) (o : Obj) : Prop := W.heap[B]? = some o
theorem at_own {β : Type} (B0 B : Nat) (o : Obj) (h : B < B0) : OwnFrom B0 (fun (_ : β) W => At W B o) := by
  rintro s X Y row hv hg hrow
  exact (hg.block B (Array.getElem?_eq_some_iff.1 hv).1 (fun e => by have := (hrow B e.symm).1; omega)).trans hv
theorem atc_own {β : Type} (B0 B : Nat) (cs : Array Value) (t : TypeId) (m : Nat × Nat) : OwnFrom B0 (fun (_ : β) W => At W B (.cells cs t m)) := by
  rintro s X Y row hv hg hrow
  refine (hg.block B (Array.getElem?_eq_some_iff.1 hv).1 (fun e => ?_)).trans hv
  obtain ⟨_, o, ho, hc⟩ := hrow B e.symm
  rw [show X.heap[B]? = _ from hv] at ho
  cases ho
  cases hc
theorem cell_three_new (w : World) (e : TypeId) (x y z : Value) : ∀ j u, [x, y, z][j]? = some u → (w.alloc (.cells #[x, y, z] e)).cell? ((⟨w.heap.size, 0, none⟩ : Addr).add j) = some u := by
  intro j u hj
  have h := fun j => World.cell?_alloc_mark w #[x, y, z] e (0, 0) j
  match j, hj with
  | 0, hj => simp at hj; subst hj; exact h 0
  | 1, hj => simp at hj; subst hj; exact h 1
  | 2, hj => simp at hj; subst hj; exact h 2


theorem own_weak {W : World} {b c : Nat} {e : TypeId} {size : Nat} {v : Value} {n : Nat} {xs : List Value} (h : W.ownsRow c e size v n xs) (hb : b ≤ c) : W.ownsRow b e size v n xs := by
  refine ⟨h.1, ?_⟩
  rcases h.2 with h2 | ⟨g, cap, cur, hv, hg, r⟩
  · exact .inl h2
  · exact .inr ⟨g, cap, cur, hv, Nat.le_trans hb hg, r⟩
theorem Tryz.info91 : (Tryz.prog.info? 91).map (fun i => (i.zero, i.size, i.bytes)) = some (some (.agg #[.bool false, .bool false, .string .empty]), 3, 24) := by kernel_rfl
theorem rowT_one (t : Tok) : ∀ u ∈ rowT t, u.oneCell' = true := by
  intro u hu
  simp [rowT] at hu
  rcases hu with rfl | rfl | rfl <;> rfl
/-- A row of the call's own is a row of tokens. -/
theorem own_toks {W : World} {base : Nat} {v : Value} {ts : List Tok} (h : W.ownsRow base 91 3 v ts.length (flatT ts)) : Toks W v ts := by
  rcases h.2 with ⟨rfl, h0⟩ | ⟨g, cap, cur, rfl, hg, hh, _, _, hsz, ht⟩
  · exact ⟨none, 0, by rw [h0], .inl (List.length_eq_zero_iff.1 h0)⟩
  · refine ⟨_, cap, rfl, .inr ⟨g, 0, rfl, (Array.getElem?_eq_some_iff.1 hh).1, ?_⟩⟩
    have e : cur.toList = flatT ts ++ cur.toList.drop (ts.length * 3) := by rw [← ht, List.take_append_drop]
    have k : KW W g (cur.toList.drop (ts.length * 3)) ts W := ⟨Turn.refl _ _, by rw [← e]; simpa using hh⟩
    exact k.row
/-- A row of the call's own that is not empty, as a row in its block. -/
theorem own_kw {W : World} {base : Nat} {v : Value} {ts : List Tok} (h : W.ownsRow base 91 3 v ts.length (flatT ts)) (h0 : 0 < ts.length) : ∃ g cap sp, v = .slice (some ⟨g, 0, none⟩) ts.length cap ∧ base ≤ g ∧ KW W g sp ts W := by
  rcases h.2 with ⟨rfl, h1⟩ | ⟨g, cap, cur, rfl, hg, hh, _, _, hsz, ht⟩
  · omega
  · have e : cur.toList = flatT ts ++ cur.toList.drop (ts.length * 3) := by rw [← ht, List.take_append_drop]
    exact ⟨g, cap, cur.toList.drop (ts.length * 3), rfl, hg, ⟨Turn.refl _ _, by rw [← e]; simpa using hh⟩⟩

/-- One token more, from the last on. -/
def stepK (k : List Tok) (t : Tok) : List Tok := if nullB t && looseB (k.getLastD nilT) then k else k ++ [t]
def keepL (pre : List (Nat × Tok)) : List Tok := (pre.map Prod.snd).foldl stepK []
theorem keepL_snoc (pre : List (Nat × Tok)) (x : Nat × Tok) : keepL (pre ++ [x]) = stepK (keepL pre) x.2 := by simp [keepL]
theorem keep_len : ∀ (ts k : List Tok), (ts.foldl stepK k).length ≤ k.length + ts.length
  | [], k => Nat.le_refl _
  | t :: ts, k => by
    rw [List.foldl_cons]
    have := keep_len ts (stepK k t)
    have h2 : (stepK k t).length ≤ k.length + 1 := by unfold stepK; split <;> simp
    simp only [List.length_cons]
    omega
theorem keepL_len (pre : List (Nat × Tok)) : (keepL pre).length ≤ pre.length := by
  have := keep_len (pre.map Prod.snd) []
  simpa [keepL] using this
theorem last_rev (k : List Tok) : k.reverse.getLastD nilT = k.headD nilT := by
  cases k with
  | nil => rfl
  | cons t r => simp
theorem keep_trim : ∀ ts : List Tok, ts.reverse.foldl stepK [] = (trimR ts).reverse
  | [] => rfl
  | t :: r => by
    rw [List.reverse_cons, List.foldl_append, keep_trim r, List.foldl_cons, List.foldl_nil, trimR]
    unfold stepK
    rw [last_rev]
    split
    · rfl
    · rw [List.reverse_cons]
theorem keepL_all (ts : List Tok) : keepL (bwL ts) = (trimR ts).reverse := by unfold keepL; rw [bwL_toks, keep_trim]

end Go.Proofs.YtpedljmpobhimaaGreatDoor
