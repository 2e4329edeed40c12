/-
  What the walks of this seat share: memory told by blocks, texts as lists.
-/
import Derived.Test.YtmpegkcleajhhaaDoorRows
import Derived.WalkKit
import Derived.WalkSpells
import Derived.WalkLawsBesides
import Derived.Lib.Bytealg
import Derived.Lib.Strings
import Derived.Shelf.RegionOpen
import Derived.Deep.CondSized
import Derived.RangeFuncNested
import Derived.Deep.QuietTactic
import Derived.BigQuiet
import Derived.BigRegion
import Derived.Deep.RegionHeld3
import Derived.Deep.AppendLies
import Derived.StillTailTactics
import Derived.RangeFuncBound
import Derived.RangeFuncCalls
import Derived.RangeFuncLeaves
import Derived.RangeFuncBox
import Derived.Shelf.Abstract
import Derived.OwnWalkIn
import Derived.TacticsInMore
import Derived.LoopNIn
import Derived.LoopIn
import Derived.Sort.QuietIn
import Derived.Laws.AppendOwnNone
namespace Go.Proofs.YtmpegkcleajhhaaDoor
open Go.RowKit Go.Shelf
set_option linter.unusedVariables false

/-- A text out of its bytes. -/
def ofL (l : List UInt8) : ByteArray := ⟨l.toArray⟩
theorem ofL_data (l : List UInt8) : (ofL l).data.toList = l := by simp [ofL]
theorem ofL_size (l : List UInt8) : (ofL l).size = l.length := by simp [ofL, ByteArray.size]
theorem ofL_self (s : ByteArray) : ofL s.data.toList = s := by cases s; simp [ofL]
theorem len_data (s : ByteArray) : s.data.toList.length = s.size := by rw [Array.length_toList]; rfl
theorem ba_ext {a b : ByteArray} (h : a.data.toList = b.data.toList) : a = b := by rw [← ofL_self a, ← ofL_self b, h]
theorem hide {p : Prop} (h : p) : Hid p := h
theorem ret_i {k : IntKind} {a b : Int} (h : a = b) : Ending.returned (.int k a) = .returned (.int k b) := by rw [h]
theorem ret_s {a b : ByteArray} (h : a = b) : Ending.returned (.string a) = .returned (.string b) := by rw [h]
theorem toL (s : ByteArray) : s.toList = s.data.toList := Lib.toList_data s
theorem ret_b {a b : Bool} (h : a = b) : Ending.returned (.bool a) = .returned (.bool b) := by rw [h]
theorem grownBy_set (W : World) (b o : Nat) (v : Value) : W.grownBy (W.setCell ⟨b, o, none⟩ v) (some b) :=
  ⟨rfl, rfl, rfl, (KeepsWalks.setCell W _ v).size, fun k _ hk => Below.heap_setCell _ _ _ k (fun e => hk (by rw [e]))⟩
theorem one_cell {W : World} {B : Nat} {t : TypeId} {v : Value} {m : Nat × Nat} (h : W.heap[B]? = some (.cells #[v] t m)) : W.cell? ⟨B, 0, none⟩ = some v := by simp [World.cell?, h]
theorem one_free {W : World} {B : Nat} {t : TypeId} {cs : Array Value} (o : Nat) (h : W.heap[B]? = some (.cells cs t (0, 0))) : W.frozen? ⟨B, o, none⟩ = false := by simp [World.frozen?, h]
theorem cell_at {W : World} {B : Nat} {t : TypeId} {cs : Array Value} {m : Nat × Nat} (o : Nat) {v : Value} (h : W.heap[B]? = some (.cells cs t m)) (hv : cs[o]? = some v) : W.cell? ⟨B, o, none⟩ = some v := by simp [World.cell?, h, hv]
theorem set_lies {W : World} {B : Nat} {t : TypeId} {cs : Array Value} {m : Nat × Nat} (o : Nat) (v : Value) (h : W.heap[B]? = some (.cells cs t m)) : (W.setCell ⟨B, o, none⟩ v).heap[B]? = some (.cells (cs.setIfInBounds o v) t m) := by
  obtain ⟨hlt, hk⟩ := Array.getElem?_eq_some_iff.1 h
  show (W.heap.modify B _)[B]? = _
  rw [Array.getElem?_eq_getElem (by rw [Array.size_modify]; exact hlt), Array.getElem_modify_self, hk]
  rfl
/-- A slice of texts in memory. -/
def Txt (W : World) (v : Value) (ts : List (List UInt8)) : Prop :=
  ∃ a cap, v = .slice a ts.length cap ∧ (ts = [] ∨ ∃ b off, a = some ⟨b, off, none⟩ ∧ b < W.heap.size ∧ ∀ i (h : i < ts.length), W.cell? ⟨b, off + i, none⟩ = some (.string (ofL ts[i])))
theorem Txt.below {W W' : World} {v : Value} {ts : List (List UInt8)} (h : Txt W v ts) (hb : Below W.heap.size W W') : Txt W' v ts := by
  obtain ⟨a, cap, hv, h0 | ⟨b, off, ha, hlt, hc⟩⟩ := h
  · exact ⟨a, cap, hv, .inl h0⟩
  · exact ⟨a, cap, hv, .inr ⟨b, off, ha, Nat.lt_of_lt_of_le hlt hb.size, fun i hi => by rw [← hc i hi]; simp only [World.cell?]; rw [hb.block b hlt]⟩⟩
theorem Txt.some {W : World} {a : Option Addr} {n cap : Nat} {ts : List (List UInt8)} (h : Txt W (.slice a n cap) ts) (hne : 0 < ts.length) :
    ∃ b off, a = some ⟨b, off, none⟩ ∧ ∀ i (h : i < ts.length), W.cell? ⟨b, off + i, none⟩ = some (.string (ofL ts[i])) := by
  obtain ⟨a', cap', hv, h0 | ⟨b, off, ha, hlt, hc⟩⟩ := h
  · subst h0; simp at hne
  · cases hv
    exact ⟨b, off, ha, hc⟩
theorem int_eq0 {n : Nat} (h : n = 0) : ((n : Int) == 0) = true := by subst h; rfl
theorem int_ne0 {n : Nat} (h : ¬ n = 0) : ((n : Int) == 0) = false := by simp; omega
/-- One block may have turned, and new ones may lie; all else is as it was. -/
structure Turn (B : Nat) (w w' : World) : Prop where
  os : w'.os = w.os
  tape : w'.tape = w.tape
  output : w'.output = w.output
  size : w.heap.size ≤ w'.heap.size
  block : ∀ k, k < w.heap.size → k ≠ B → w'.heap[k]? = w.heap[k]?
theorem Turn.refl (B : Nat) (w : World) : Turn B w w := ⟨rfl, rfl, rfl, Nat.le_refl _, fun _ _ _ => rfl⟩
theorem Turn.trans {B : Nat} {a b c : World} (h : Turn B a b) (k : Turn B b c) : Turn B a c :=
  ⟨k.os.trans h.os, k.tape.trans h.tape, k.output.trans h.output, Nat.le_trans h.size k.size, fun i hi hn => (k.block i (Nat.lt_of_lt_of_le hi h.size) hn).trans (h.block i hi hn)⟩
theorem Turn.ofBelow {B : Nat} {w w' : World} (h : Below w.heap.size w w') : Turn B w w' := ⟨h.os, h.tape, h.output, h.size, fun k hk _ => h.block k hk⟩
theorem Turn.below {B n : Nat} {w w' : World} (h : Turn B w w') (hn : n ≤ B) (hs : n ≤ w.heap.size) : Below n w w' := ⟨h.os, h.tape, h.output, h.size, fun k hk => h.block k (Nat.lt_of_lt_of_le hk hs) (by omega)⟩
theorem Turn.set (B o : Nat) (w : World) (v : Value) : Turn B w (w.setCell ⟨B, o, none⟩ v) :=
  ⟨rfl, rfl, rfl, by rw [show (w.setCell ⟨B, o, none⟩ v).heap.size = w.heap.size from Array.size_modify]; exact Nat.le_refl _, fun k _ hn => Below.heap_setCell _ _ _ k hn⟩
theorem Turn.drewN (B : Nat) (w : World) : ∀ n, Turn B w (w.drewN n)
  | 0 => Turn.refl B w
  | n + 1 => by
    have h := Turn.drewN B w.drew n
    exact ⟨h.os, h.tape, h.output, h.size, h.block⟩
theorem heap_drewN (w : World) : ∀ n, (w.drewN n).heap = w.heap
  | 0 => rfl
  | n + 1 => heap_drewN w.drew n
theorem below_drewN (k : Nat) (w : World) (n : Nat) : Below k w (w.drewN n) := by
  have h := Turn.drewN 0 w n
  exact ⟨h.os, h.tape, h.output, h.size, fun j _ => by rw [heap_drewN]⟩
theorem Turn.grown {B : Nat} {w w' : World} (h : Turn B w w') : w.grownBy w' (some B) := ⟨h.os, h.tape, h.output, h.size, fun k hk hn => h.block k hk (fun e => hn (by rw [e]))⟩
theorem own_turn {B : Nat} {w w' : World} {base : Nat} {e : TypeId} {size : Nat} {v : Value} {n : Nat} {xs : List Value} (h : w.ownsRow base e size v n xs) (ht : Turn B w w') (hB : B < base) : w'.ownsRow base e size v n xs := by
  refine h.kept ht.grown ?_
  cases ho : v.ownBlock with
  | none => exact .inl rfl
  | some k => exact .inr (fun e => by have := (h.lt k ho).1; injection e with e; omega)
theorem Turn.alloc {B : Nat} {w W : World} (h : Turn B w W) (o : Obj) : Turn B w (W.alloc o) := h.trans (Turn.ofBelow ((Below.refl _ W).alloc (Nat.le_refl _) o))
theorem turn_grown {B : Nat} {w W W' : World} {row : Option Nat} (h : Turn B w W) (hg : W.grownBy W' row) (hr : ∀ k, row = some k → w.heap.size ≤ k) : Turn B w W' :=
  ⟨hg.os.trans h.os, hg.tape.trans h.tape, hg.output.trans h.output, Nat.le_trans h.size hg.size, fun k hk hn => (hg.block k (Nat.lt_of_lt_of_le hk h.size) (fun e => by have := hr k e.symm; omega)).trans (h.block k hk hn)⟩
theorem one_set {W : World} {B : Nat} {cs : Array Value} {t : TypeId} (o : Nat) (v : Value) (h : W.heap[B]? = some (.cells cs t (0, 0))) :
    ∃ W', W' = W.setCell ⟨B, o, none⟩ v ∧ W'.heap[B]? = some (.cells (cs.setIfInBounds o v) t (0, 0)) ∧ (∀ j, j ≠ B → W'.heap[j]? = W.heap[j]?) ∧ (∀ n₀, n₀ ≤ B → Below n₀ W W') ∧ W'.heap.size = W.heap.size :=
  ⟨_, rfl, set_lies o v h, fun j hj => Below.heap_setCell _ _ _ j hj, fun n₀ h1 => (Below.refl n₀ W).setCell (p := ⟨B, o, none⟩) h1 v, Array.size_modify⟩
/-- A slice of a block of the call's own. -/
def Fresh (n : Nat) (v : Value) : Prop := ∀ a i c, v = .slice (some a) i c → n ≤ a.block
theorem cat_ofL (a b : List UInt8) : ofL a ++ ofL b = ofL (a ++ b) := by
  apply ba_ext
  rw [ofL_data]
  simp [ofL]
theorem cat_step (a b : ByteArray) : ∃ c : ByteArray, a ++ b = c ∧ c.size = a.size + b.size ∧ c.data.toList = a.data.toList ++ b.data.toList :=
  ⟨_, rfl, by simp, by simp⟩
/-- A slice is no longer than its room. -/
def Cap (v : Value) : Prop := ∀ a n c, v = .slice a n c → n ≤ c
theorem cap_row {W : World} {base : Nat} {e : TypeId} {size : Nat} {v : Value} {k : Nat} {xs : List Value} (h : W.ownsRow base e size v k xs) : Cap v := by
  rintro a n c rfl
  rcases h.2 with ⟨h1, _⟩ | ⟨g, cap, cur, h1, _, _, h2, _⟩
  · cases h1; exact Nat.le_refl _
  · cases h1; exact h2
theorem cap_nil : Cap (.slice none 0 0) := by
  rintro a n c h; cases h; exact Nat.le_refl _
theorem wrap_id (a : Int) (h : -9223372036854775808 ≤ a ∧ a ≤ 9223372036854775807) : wrap64 a = a := by
  unfold wrap64
  omega
theorem cell_lt {W : World} {a : Addr} {v : Value} (h : W.cell? a = some v) : a.block < W.heap.size := by
  unfold World.cell? at h
  cases hb : W.heap[a.block]? with
  | none => rw [hb] at h; simp at h
  | some o => exact (Array.getElem?_eq_some_iff.1 hb).1
theorem txt_nil (W : World) : Txt W (.slice none 0 0) [] := ⟨none, 0, rfl, .inl rfl⟩
theorem below_grown {W W' : World} (h : Below W.heap.size W W') : W.grownBy W' none := ⟨h.os, h.tape, h.output, h.size, fun k hk _ => h.block k hk⟩
theorem grown_drewN (W : World) (m : Nat) : W.grownBy (W.drewN m) none := ⟨rfl, rfl, rfl, Nat.le_refl _, fun _ _ _ => rfl⟩
theorem boxed_drewN {W : World} {B : Nat} {t : TypeId} {v : Value} (h : Boxed W B t v) (m : Nat) : Boxed (W.drewN m) B t v := h.kept (grown_drewN W m) (by simp)
/-- One block lies as it lay. -/
def One (b : Nat) (W W' : World) : Prop := W'.heap[b]? = W.heap[b]?
theorem One.trans {b : Nat} {A B C : World} (h : One b A B) (k : One b B C) : One b A C := Eq.trans k h
theorem one_b {b : Nat} {w : World} (hb : b < w.heap.size) : ∀ (W : World) (l : Nat) (o o' : Obj), w.heap.size ≤ l → W.heap[l]? = some o → o.isCells = false → o.isWalk = false → One b W (W.putObj l o') :=
  fun W l o o' hl _ _ _ => World.putObj_heap_other (by omega)
/-- Two blocks lie as they lay. -/
def Two (b c : Nat) (W W' : World) : Prop := W'.heap[b]? = W.heap[b]? ∧ W'.heap[c]? = W.heap[c]?
theorem Two.refl (b c : Nat) (W : World) : Two b c W W := ⟨rfl, rfl⟩
theorem Two.trans {b c : Nat} {A B C : World} (h : Two b c A B) (k : Two b c B C) : Two b c A C := ⟨k.1.trans h.1, k.2.trans h.2⟩
theorem two_b {b c : Nat} {w : World} (hb : b < w.heap.size) (hc : c < w.heap.size) : ∀ (W : World) (l : Nat) (o o' : Obj), w.heap.size ≤ l → W.heap[l]? = some o → o.isCells = false → o.isWalk = false → Two b c W (W.putObj l o') :=
  fun W l o o' hl _ _ _ => ⟨World.putObj_heap_other (by omega), World.putObj_heap_other (by omega)⟩
theorem set_list {W : World} {B : Nat} {t : TypeId} {L : List Value} {m : Nat × Nat} (o : Nat) (v : Value) (h : W.heap[B]? = some (.cells L.toArray t m)) : (W.setCell ⟨B, o, none⟩ v).heap[B]? = some (.cells (L.set o v).toArray t m) := by
  rw [set_lies o v h]
  simp
theorem some_at {α : Type} (xs : List α) (i : Nat) (h : i < xs.length) : ∃ x, xs[i]? = some x := ⟨xs[i], List.getElem?_eq_getElem h⟩
theorem own_below {W W' : World} {base : Nat} {e : TypeId} {size : Nat} {v : Value} {n : Nat} {xs : List Value} (h : W.ownsRow base e size v n xs) (hb : Below W.heap.size W W') : W'.ownsRow base e size v n xs := by
  refine ⟨h.1, ?_⟩
  rcases h.2 with h2 | ⟨g, cap, cur, hv, hg, hh, r⟩
  · exact .inl h2
  · exact .inr ⟨g, cap, cur, hv, hg, (hb.block g (Array.getElem?_eq_some_iff.1 hh).1).trans hh, r⟩
theorem boxed_own' {β : Type} (B : Nat) (t : TypeId) (v : Value) : Own (fun (_ : β) W => Boxed W B t v) := by
  rintro s X Y row hv hg hrow
  exact hv.kept hg (fun e' => by
    obtain ⟨o, ho, hc⟩ := hrow B e'.symm
    rw [show X.heap[B]? = _ from hv] at ho; cases ho; cases hc)
attribute [local go_sem] Oper.semAt_some
/-! ### A region that draws its order, in a round of a loop over an iterator: as outside of one, where nothing is deferred -/

section
variable {F : Fence} {n l : Nat} {P : Program} {ops : Array Oper} {Q : Exit → Act → World → Prop} {md : Region.Mode}

theorem oper_round {o : Oper} (hro : F.round = none) (hd : ∀ c, o.op ≠ .defer c) {a : Act} {w : World} {K : Act → World → Prop} (h : Oper.wpIn F n P o a w K Q) : Oper.wpIn (F.inRound l) n P o a w K Q := by
  unfold Oper.wpIn at *
  refine ⟨h.1, ?_⟩
  have h2 := h.2
  rw [Oper.semAt_plain F _ _ hd] at h2
  rw [Oper.semAt_plain (F.inRound l) _ _ hd]
  exact h2

theorem wpOpIn_round (hro : F.round = none) (hd : ∀ (i : Nat) (o : Oper), ops[i]? = some o → ∀ c, o.op ≠ .defer c) {i : Nat} {K : Act → World → Prop} {a : Act} {w : World} (h : wpOpIn F n P ops Q i K a w) : wpOpIn (F.inRound l) n P ops Q i K a w := by
  unfold wpOpIn at *
  cases ho : ops[i]? with
  | none => simpa [ho] using h
  | some o =>
    simp only [ho] at h ⊢
    split
    · rename_i hw; simp only [hw, if_true] at h; exact oper_round hro (hd i o ho) h
    · rename_i hw; simp only [hw] at h; exact h

theorem wpAnyIn_round (hro : F.round = none) (hd : ∀ (i : Nat) (o : Oper), ops[i]? = some o → ∀ c, o.op ≠ .defer c) :
    ∀ (fuel : Nat) (listed : Array Bool) (a : Act) (w : World), wpAnyIn F n P md ops Q fuel listed a w → wpAnyIn (F.inRound l) n P md ops Q fuel listed a w
  | 0, _, _, _, h => h
  | fuel + 1, listed, a, w, h => ⟨h.1, fun i hi => wpOpIn_mono (fun a' w' h' => wpAnyIn_round hro hd fuel _ a' w' h') (wpOpIn_round hro hd (h.2 i hi))⟩

/-- append onto a row of the call's own, as one step of a region that draws. -/
theorem stepIn_append_own {o : Oper} {a : Act} {w : World} {K : Act → World → Prop} {E : Prop}
    (hg : o.guard = none) (s x : Operand) (t : TypeId) (hop : o.op = Op.call { callee := Callee.builtin Builtin.append, args := #[s, x], argTypes := #[t, t] })
    (base : Nat) (e : TypeId) (i : TypeInfo) (z : Value) (size bytes : Nat) (h1 : P.underlying t = some (.slice e)) (h2 : P.info? e = some i) (h3 : i.zero = some z) (h4 : i.size = size) (h5 : i.bytes = bytes) (h6 : z.cells.size = size) (h7 : 0 < size)
    (v : Value) (k : Nat) (xs : List Value) (hs : a.eval s = v) (hown : w.ownsRow base e size v k xs) (ad : Addr) (m c : Nat) (news : List Value) (hx : a.eval x = .slice (some ad) m c) (hn : news.length = m * size)
    (hc : ∀ j u, news[j]? = some u → w.cell? (ad.add j) = some u) (h1c : ∀ u ∈ news, u.oneCell' = true) (b1 : k + m ≤ maxLen) (b2 : (k + m) * bytes ≤ 140737488355328) (b3 : base ≤ w.heap.size)
    (hK : ∀ v' w', w'.ownsRow base e size v' (k + m) (xs ++ news) → w.grownBy w' v.ownBlock → (v' = .slice none 0 0 ↔ v = .slice none 0 0 ∧ m = 0) → K (a.put o.dst v') w') :
    if Region.wanted o (yielded ops a.tmps) = true then Oper.wpIn F n P o a w K Q else E := by
  have hw : Region.wanted o (yielded ops a.tmps) = true := by simp [Region.wanted, hg]
  rw [if_pos hw]
  obtain ⟨v', w', hrun, r1, r2, r3⟩ := run_append_own (P := P) w base t o.type e i z size bytes h1 h2 h3 h4 h5 h6 h7 v k xs hown ad m c news hn hc h1c b1 b2 b3
  unfold Oper.wpIn
  refine ⟨?_, ?_⟩
  · simp [Oper.about, hop, resolve, Target.leads, Sem.run_pure]
  · rw [Oper.semAt_plain F _ _ (by rw [hop]; intro c hc'; cases hc')]
    simp [execOp, hop, resolve, invoke, builtin, hs, hx, hrun, Result.andThen]
    exact hK v' w' r1 r2 r3
end

def noDefer : Op → Bool
  | .defer _ => false
  | _ => true
theorem noDefer_of {ops : Array Oper} (h : ops.all (fun o => noDefer o.op) = true) : ∀ (i : Nat) (o : Oper), ops[i]? = some o → ∀ c, o.op ≠ .defer c := by
  intro i o ho c hc
  obtain ⟨hi, he⟩ := Array.getElem?_eq_some_iff.1 ho
  have := Array.all_eq_true.1 h i hi
  rw [he, hc] at this
  cases this

/-- Marks of loops over an iterator. -/
def marks (Ds : List Nat) : List Deferred := Ds.map fun D => { target := .collected D, args := #[] }
/-- Behind the marks: cells lie as they lay, and nothing old has turned. -/
def Past (n₀ : Nat) (W W' : World) : Prop := Below n₀ W W' ∧ ∀ (b : Nat) (o : Obj), W.heap[b]? = some o → o.isCells = true → W'.heap[b]? = some o
theorem Past.refl (n₀ : Nat) (W : World) : Past n₀ W W := ⟨Below.refl _ _, fun _ _ h _ => h⟩
theorem Past.trans {n₀ : Nat} {A B C : World} (h : Past n₀ A B) (k : Past n₀ B C) : Past n₀ A C := ⟨h.1.trans k.1, fun b o h1 h2 => k.2 b o (h.2 b o h1 h2) h2⟩
theorem Past.own {n₀ base : Nat} {e : TypeId} {size : Nat} {v : Value} {k : Nat} {xs : List Value} {W W' : World} (h : Past n₀ W W') (hr : W.ownsRow base e size v k xs) : W'.ownsRow base e size v k xs := by
  refine ⟨hr.1, ?_⟩
  rcases hr.2 with h2 | ⟨g, cap, cur, hv, hg, hh, r⟩
  · exact .inl h2
  · exact .inr ⟨g, cap, cur, hv, hg, h.2 g _ hh rfl, r⟩
theorem leaves_marks {fn : Func} {tmps : Array Value} {R : Ending → World → Prop} (n₀ : Nat) : ∀ (Ds : List Nat) (W : World), Ds.Nodup → (∀ D ∈ Ds, n₀ ≤ D ∧ W.heap[D]? = some (.deferred (some []))) →
    (∀ W', Past n₀ W W' → LeavesIn Fence.wide 5 Tryd.prog fn tmps R [] .returning W') → LeavesInM Fence.wide 5 Tryd.prog fn tmps R (marks Ds) .returning W
  | [], W, _, _, h => h W (Past.refl _ _)
  | D :: Ds, W, hnd, hD, h => by
    have hd := hD D List.mem_cons_self
    have hne : ∀ E ∈ Ds, E ≠ D := fun E hE e => by subst e; exact (List.nodup_cons.1 hnd).1 hE
    refine ⟨by simp, .inl ⟨_, _, rfl, run_takeDeferred hd.2, ?_⟩⟩
    refine leaves_marks n₀ Ds _ (List.nodup_cons.1 hnd).2 (fun E hE => ⟨(hD E (List.mem_cons_of_mem _ hE)).1, (World.putObj_heap_other (hne E hE)).trans (hD E (List.mem_cons_of_mem _ hE)).2⟩) ?_
    intro W' hW'
    refine h W' (Past.trans ⟨?_, ?_⟩ hW')
    · exact belowK_b (w := { W with heap := W.heap.take n₀ }) (n₀ := n₀) (by have := (Array.getElem?_eq_some_iff.1 hd.2).1; simp; omega) W D _ _ (by simp; omega) hd.2 rfl rfl
    · intro b o hb ho
      by_cases e : b = D
      · subst e; rw [hd.2] at hb; cases hb; cases ho
      · exact (World.putObj_heap_other e).trans hb

/-- One block lies so. -/
def At (W : World) (B : Nat) (o : Obj) : Prop := W.heap[B]? = some o
theorem at_own {β : Type} (B0 B : Nat) (o : Obj) (h : B < B0) : OwnFrom B0 (fun (_ : β) W => At W B o) := by
  rintro s X Y row hv hg hrow
  exact (hg.block B (Array.getElem?_eq_some_iff.1 hv).1 (fun e => by have := (hrow B e.symm).1; omega)).trans hv
theorem atc_own {β : Type} (B0 B : Nat) (cs : Array Value) (t : TypeId) (m : Nat × Nat) : OwnFrom B0 (fun (_ : β) W => At W B (.cells cs t m)) := by
  rintro s X Y row hv hg hrow
  refine (hg.block B (Array.getElem?_eq_some_iff.1 hv).1 (fun e => ?_)).trans hv
  obtain ⟨_, o, ho, hc⟩ := hrow B e.symm
  rw [show X.heap[B]? = _ from hv] at ho
  cases ho
  cases hc

end Go.Proofs.YtmpegkcleajhhaaDoor
