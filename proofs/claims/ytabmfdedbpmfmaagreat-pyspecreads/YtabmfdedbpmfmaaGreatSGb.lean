/-
  What the walks of this seat share: memory told by blocks, texts as lists. · A loop over an iterator whose items lie in memory: the iterator pays a condition on the item and the world, the round is given it; what the round keeps may hang on the world behind the round ahead. · Plain: blanks, words, signs. · Walks: with how many bytes two texts begin; the end of a clause.
-/
import Derived.Shelf.RegionOpen
import Derived.Deep.CondSized
import Derived.RangeFuncNested
import Derived.Deep.QuietTactic
import Derived.BigQuiet
import Derived.Deep.RegionHeld3
import Derived.Deep.AppendLies
import Derived.StillTailTactics
import Derived.Test.YtabmfdedbpmfmaaGreatSPlainF
import Derived.RangeFuncBound
import Derived.RangeFuncCalls
import Derived.RangeFuncLeaves
namespace Go.Proofs.YtabmfdedbpmfmaaGreat
open Go.RowKit Go.Shelf
set_option linter.unusedVariables false

def digB (l : List UInt8) : Bool := !l.isEmpty && (runL 1 l == l.length)
def misL (n a : Nat) : Int := if a = n then 11 else 10
def seg (l : List UInt8) (a e : Nat) : List UInt8 := (l.take e).drop a
theorem extract_seg (s : ByteArray) (a e : Nat) : s.extract a e = ofL (seg s.data.toList a e) := extract_ofL s a e
theorem extract_data (s : ByteArray) (a e : Nat) : (s.extract a e).data.toList = seg s.data.toList a e := by rw [extract_seg, ofL_data]
theorem seg_len (l : List UInt8) (a e : Nat) (h : e ≤ l.length) : (seg l a e).length = e - a := by simp [seg]; omega
theorem runL_drop_le (k : Int) (s : ByteArray) (a : Nat) (h : a ≤ s.size) : a + runL k (s.data.toList.drop a) ≤ s.size := by
  have := runL_le k (s.data.toList.drop a)
  rw [List.length_drop, len_data] at this
  omega
theorem eqE (s : ByteArray) (h : 0 < s.size) : (s.toList == []) = false := by
  rw [toL]
  rw [← len_data] at h
  cases hl : s.data.toList with
  | nil => rw [hl] at h; simp at h
  | cons c r => rfl
theorem emp (s : ByteArray) (h : 0 < s.size) : s.data.toList.isEmpty = false := by
  rw [← len_data] at h
  cases hl : s.data.toList with
  | nil => rw [hl] at h; simp at h
  | cons c r => rfl
theorem size0 (s : ByteArray) (h : ¬ 0 < s.size) : s = ⟨#[]⟩ := by
  cases s with | mk d =>
    have : d.size = 0 := by simpa [ByteArray.size] using h
    rw [Array.eq_empty_of_size_eq_zero this]
def Lies (W : World) (ps : List (Nat × Obj)) : Prop := ∀ p ∈ ps, W.heap[p.1]? = some p.2
theorem Lies.nil (W : World) : Lies W [] := by intro p hp; cases hp
theorem Lies.cons {W : World} {B : Nat} {o : Obj} {ps : List (Nat × Obj)} (h : W.heap[B]? = some o) (hs : Lies W ps) : Lies W ((B, o) :: ps) := by
  intro p hp
  rcases List.mem_cons.1 hp with rfl | hp
  · exact h
  · exact hs p hp
theorem Lies.head {W : World} {B : Nat} {o : Obj} {ps : List (Nat × Obj)} (h : Lies W ((B, o) :: ps)) : W.heap[B]? = some o := h (B, o) List.mem_cons_self
theorem Lies.tail {W : World} {p : Nat × Obj} {ps : List (Nat × Obj)} (h : Lies W (p :: ps)) : Lies W ps := fun q hq => h q (List.mem_cons_of_mem _ hq)
theorem Lies.lt {W : World} {ps : List (Nat × Obj)} (h : Lies W ps) (p : Nat × Obj) (hp : p ∈ ps) : p.1 < W.heap.size := (Array.getElem?_eq_some_iff.1 (h p hp)).1
theorem Lies.kept {W W' : World} {row : Option Nat} {ps : List (Nat × Obj)} (h : Lies W ps) (hg : W.grownBy W' row) (hne : ∀ p ∈ ps, some p.1 ≠ row) : Lies W' ps :=
  fun p hp => (hg.block p.1 (h.lt p hp) (hne p hp)).trans (h p hp)
theorem Lies.alloc {W : World} {ps : List (Nat × Obj)} (h : Lies W ps) (o : Obj) : Lies (W.alloc o) ps := h.kept (World.grownBy_alloc W o none) (by simp)
theorem grownBy_set (W : World) (b o : Nat) (v : Value) : W.grownBy (W.setCell ⟨b, o, none⟩ v) (some b) :=
  ⟨rfl, rfl, rfl, (KeepsWalks.setCell W _ v).size, fun k _ hk => Below.heap_setCell _ _ _ k (fun e => hk (by rw [e]))⟩
theorem Lies.other {W : World} {ps : List (Nat × Obj)} (h : Lies W ps) (b o : Nat) (v : Value) (hne : ∀ p ∈ ps, p.1 ≠ b) : Lies (W.setCell ⟨b, o, none⟩ v) ps :=
  h.kept (grownBy_set W b o v) (fun p hp e => hne p hp (by simpa using e))
theorem Lies.below {W W' : World} {n : Nat} {ps : List (Nat × Obj)} (h : Lies W ps) (hb : Below n W W') (hn : ∀ p ∈ ps, p.1 < n) : Lies W' ps :=
  fun p hp => (hb.block p.1 (hn p hp)).trans (h p hp)
theorem lies_own {β : Type} (B0 : Nat) (ps : List (Nat × Obj)) (hps : ∀ p ∈ ps, p.1 < B0) : OwnFrom B0 (fun (_ : β) W => Lies W ps) := by
  rintro s X Y row h hg hrow
  exact h.kept hg (fun p hp e => by have := (hrow p.1 e.symm).1; have := hps p hp; omega)
theorem one_cell {W : World} {B : Nat} {t : TypeId} {v : Value} {m : Nat × Nat} (h : W.heap[B]? = some (.cells #[v] t m)) : W.cell? ⟨B, 0, none⟩ = some v := by simp [World.cell?, h]
theorem one_free {W : World} {B : Nat} {t : TypeId} {cs : Array Value} (o : Nat) (h : W.heap[B]? = some (.cells cs t (0, 0))) : W.frozen? ⟨B, o, none⟩ = false := by simp [World.frozen?, h]
theorem cell_at {W : World} {B : Nat} {t : TypeId} {cs : Array Value} {m : Nat × Nat} (o : Nat) {v : Value} (h : W.heap[B]? = some (.cells cs t m)) (hv : cs[o]? = some v) : W.cell? ⟨B, o, none⟩ = some v := by simp [World.cell?, h, hv]
theorem set_lies {W : World} {B : Nat} {t : TypeId} {cs : Array Value} {m : Nat × Nat} (o : Nat) (v : Value) (h : W.heap[B]? = some (.cells cs t m)) : (W.setCell ⟨B, o, none⟩ v).heap[B]? = some (.cells (cs.setIfInBounds o v) t m) := by
  obtain ⟨hlt, hk⟩ := Array.getElem?_eq_some_iff.1 h
  show (W.heap.modify B _)[B]? = _
  rw [Array.getElem?_eq_getElem (by rw [Array.size_modify]; exact hlt), Array.getElem_modify_self, hk]
  rfl
def Txt (W : World) (v : Value) (ts : List (List UInt8)) : Prop :=
  ∃ a cap, v = .slice a ts.length cap ∧ (ts = [] ∨ ∃ b off, a = some ⟨b, off, none⟩ ∧ b < W.heap.size ∧ ∀ i (h : i < ts.length), W.cell? ⟨b, off + i, none⟩ = some (.string (ofL ts[i])))
theorem Txt.below {W W' : World} {v : Value} {ts : List (List UInt8)} (h : Txt W v ts) (hb : Below W.heap.size W W') : Txt W' v ts := by
  obtain ⟨a, cap, hv, h0 | ⟨b, off, ha, hlt, hc⟩⟩ := h
  · exact ⟨a, cap, hv, .inl h0⟩
  · exact ⟨a, cap, hv, .inr ⟨b, off, ha, Nat.lt_of_lt_of_le hlt hb.size, fun i hi => by rw [← hc i hi]; simp only [World.cell?]; rw [hb.block b hlt]⟩⟩
theorem Txt.some {W : World} {a : Option Addr} {n cap : Nat} {ts : List (List UInt8)} (h : Txt W (.slice a n cap) ts) (hne : 0 < ts.length) :
    ∃ b off, a = some ⟨b, off, none⟩ ∧ ∀ i (h : i < ts.length), W.cell? ⟨b, off + i, none⟩ = some (.string (ofL ts[i])) := by
  obtain ⟨a', cap', hv, h0 | ⟨b, off, ha, hlt, hc⟩⟩ := h
  · subst h0; simp at hne
  · cases hv
    exact ⟨b, off, ha, hc⟩
def Short (ts : List (List UInt8)) : Prop := ts.length ≤ 9223372036854775806 ∧ ∀ t ∈ ts, t.length ≤ 9223372036854775806
theorem int_eq0 {n : Nat} (h : n = 0) : ((n : Int) == 0) = true := by subst h; rfl
theorem int_ne0 {n : Nat} (h : ¬ n = 0) : ((n : Int) == 0) = false := by simp; omega
structure Turn (B : Nat) (w w' : World) : Prop where
  os : w'.os = w.os
  tape : w'.tape = w.tape
  output : w'.output = w.output
  size : w.heap.size ≤ w'.heap.size
  block : ∀ k, k < w.heap.size → k ≠ B → w'.heap[k]? = w.heap[k]?
theorem Turn.refl (B : Nat) (w : World) : Turn B w w := ⟨rfl, rfl, rfl, Nat.le_refl _, fun _ _ _ => rfl⟩
theorem Turn.trans {B : Nat} {a b c : World} (h : Turn B a b) (k : Turn B b c) : Turn B a c :=
  ⟨k.os.trans h.os, k.tape.trans h.tape, k.output.trans h.output, Nat.le_trans h.size k.size, fun i hi hn => (k.block i (Nat.lt_of_lt_of_le hi h.size) hn).trans (h.block i hi hn)⟩
theorem Turn.ofBelow {B : Nat} {w w' : World} (h : Below w.heap.size w w') : Turn B w w' := ⟨h.os, h.tape, h.output, h.size, fun k hk _ => h.block k hk⟩
theorem Turn.below {B n : Nat} {w w' : World} (h : Turn B w w') (hn : n ≤ B) (hs : n ≤ w.heap.size) : Below n w w' := ⟨h.os, h.tape, h.output, h.size, fun k hk => h.block k (Nat.lt_of_lt_of_le hk hs) (by omega)⟩
theorem Turn.set (B o : Nat) (w : World) (v : Value) : Turn B w (w.setCell ⟨B, o, none⟩ v) :=
  ⟨rfl, rfl, rfl, by rw [show (w.setCell ⟨B, o, none⟩ v).heap.size = w.heap.size from Array.size_modify]; exact Nat.le_refl _, fun k _ hn => Below.heap_setCell _ _ _ k hn⟩
theorem Turn.drewN (B : Nat) (w : World) : ∀ n, Turn B w (w.drewN n)
  | 0 => Turn.refl B w
  | n + 1 => by
    have h := Turn.drewN B w.drew n
    exact ⟨h.os, h.tape, h.output, h.size, h.block⟩
theorem heap_drewN (w : World) : ∀ n, (w.drewN n).heap = w.heap
  | 0 => rfl
  | n + 1 => heap_drewN w.drew n
theorem below_drewN (k : Nat) (w : World) (n : Nat) : Below k w (w.drewN n) := by
  have h := Turn.drewN 0 w n
  exact ⟨h.os, h.tape, h.output, h.size, fun j _ => by rw [heap_drewN]⟩
theorem Turn.grown {B : Nat} {w w' : World} (h : Turn B w w') : w.grownBy w' (some B) := ⟨h.os, h.tape, h.output, h.size, fun k hk hn => h.block k hk (fun e => hn (by rw [e]))⟩
theorem own_turn {B : Nat} {w w' : World} {base : Nat} {e : TypeId} {size : Nat} {v : Value} {n : Nat} {xs : List Value} (h : w.ownsRow base e size v n xs) (ht : Turn B w w') (hB : B < base) : w'.ownsRow base e size v n xs := by
  refine h.kept ht.grown ?_
  cases ho : v.ownBlock with
  | none => exact .inl rfl
  | some k => exact .inr (fun e => by have := (h.lt k ho).1; injection e with e; omega)
theorem misL_ne (n a : Nat) : misL n a ≠ 0 := by unfold misL; split <;> decide
theorem Turn.alloc {B : Nat} {w W : World} (h : Turn B w W) (o : Obj) : Turn B w (W.alloc o) := h.trans (Turn.ofBelow ((Below.refl _ W).alloc (Nat.le_refl _) o))
theorem turn_grown {B : Nat} {w W W' : World} {row : Option Nat} (h : Turn B w W) (hg : W.grownBy W' row) (hr : ∀ k, row = some k → w.heap.size ≤ k) : Turn B w W' :=
  ⟨hg.os.trans h.os, hg.tape.trans h.tape, hg.output.trans h.output, Nat.le_trans h.size hg.size, fun k hk hn => (hg.block k (Nat.lt_of_lt_of_le hk h.size) (fun e => by have := hr k e.symm; omega)).trans (h.block k hk hn)⟩
theorem run_take (k : Int) : ∀ m : List UInt8, runL k (m.take (runL k m)) = runL k m
  | [] => rfl
  | c :: r => by
    by_cases hc : isC (c.toNat : Int) k = true
    · have e : runL k (c :: r) = runL k r + 1 := by rw [runL, if_pos hc]
      rw [e, List.take_succ_cons, runL, if_pos hc, run_take k r]
    · have e : runL k (c :: r) = 0 := by rw [runL, if_neg hc]
      rw [e, List.take_zero]; rfl
theorem seg_run (l : List UInt8) (a d : Nat) : seg l a (a + d) = (l.drop a).take d := by
  unfold seg
  rw [List.drop_take]
  congr 1
  omega
theorem seg_self (l : List UInt8) (a : Nat) : seg l a a = [] := by unfold seg; rw [List.drop_eq_nil_iff, List.length_take]; omega
def Fresh (n : Nat) (v : Value) : Prop := ∀ a i c, v = .slice (some a) i c → n ≤ a.block
theorem fresh_row {W : World} {base : Nat} {v : Value} {k : Nat} {xs : List Value} (h : W.ownsRow base 9 1 v k xs) : Fresh base v := by
  rintro a i c rfl
  rcases h.2 with ⟨h1, _⟩ | ⟨g, cap, cur, h1, hg, _⟩
  · cases h1
  · cases h1; exact hg
theorem txt_kept {W W' : World} {v : Value} {ts : List (List UInt8)} {B : Nat} (h : Txt W v ts) (hk : ∀ j, j < W.heap.size → j ≠ B → W'.heap[j]? = W.heap[j]?) (hs : W.heap.size ≤ W'.heap.size) (hB : ∀ a n cap, v = .slice (some a) n cap → ts ≠ [] → a.block ≠ B) : Txt W' v ts := by
  obtain ⟨a, cap, hv, h0 | ⟨b, off, ha, hlt, hc⟩⟩ := h
  · exact ⟨a, cap, hv, .inl h0⟩
  · by_cases hn : ts = []
    · exact ⟨a, cap, hv, .inl hn⟩
    · have hne := hB _ _ _ (by rw [hv, ha]) hn
      exact ⟨a, cap, hv, .inr ⟨b, off, ha, Nat.lt_of_lt_of_le hlt hs, fun i hi => by rw [← hc i hi]; simp only [World.cell?]; rw [hk b hlt hne]⟩⟩
theorem txt_young {n : Nat} {W W' : World} {v : Value} {ts : List (List UInt8)} (h : Txt W v ts) (hf : Fresh n v) (hk : ∀ j, n ≤ j → j < W.heap.size → W'.heap[j]? = W.heap[j]?) (hs : W.heap.size ≤ W'.heap.size) : Txt W' v ts := by
  obtain ⟨a, cap, hv, h0 | ⟨b, off, ha, hlt, hc⟩⟩ := h
  · exact ⟨a, cap, hv, .inl h0⟩
  · have hn := hf _ _ _ (by rw [hv, ha])
    exact ⟨a, cap, hv, .inr ⟨b, off, ha, Nat.lt_of_lt_of_le hlt hs, fun i hi => by rw [← hc i hi]; simp only [World.cell?]; rw [hk b hn hlt]⟩⟩
theorem Txt.drewN {W : World} {v : Value} {ts : List (List UInt8)} (h : Txt W v ts) (n : Nat) : Txt (W.drewN n) v ts := h.below (below_drewN _ _ _)
def Cap (v : Value) : Prop := ∀ a n c, v = .slice a n c → n ≤ c
theorem cap_row {W : World} {base : Nat} {e : TypeId} {size : Nat} {v : Value} {k : Nat} {xs : List Value} (h : W.ownsRow base e size v k xs) : Cap v := by
  rintro a n c rfl
  rcases h.2 with ⟨h1, _⟩ | ⟨g, cap, cur, h1, _, _, h2, _⟩
  · cases h1; exact Nat.le_refl _
  · cases h1; exact h2
def lenI : List (List UInt8) → Nat
  | [] => 0
  | t :: r => 1 + t.length + lenI r
end Go.Proofs.YtabmfdedbpmfmaaGreat

namespace Go.Proofs.YtabmfdedbpmfmaaGreat
open Go.RowKit Go.Shelf
set_option linter.unusedVariables false

def Book (l D : Nat) (r : Loop) (W : World) : Prop := W.heap[l]? = some (.loop r) ∧ W.heap[D]? = some (.deferred (some []))
theorem Book.grown {l D : Nat} {r : Loop} {A B : World} {row : Option Nat} (h : Book l D r A) (hg : A.grownBy B row) (hr : ∀ k, row = some k → ∃ o : Obj, A.heap[k]? = some o ∧ o.isWalk = true) : Book l D r B :=
  ⟨(grownBy_keeps hg hr h.1 rfl).trans h.1, (grownBy_keeps hg hr h.2 rfl).trans h.2⟩
theorem Book.keeps {l D n : Nat} {r : Loop} {A B : World} (h : Book l D r A) (hk : KeepsFrom n A B) (h1 : n ≤ l) (h2 : n ≤ D) : Book l D r B :=
  ⟨hk.same l _ h1 h.1 rfl, hk.same D _ h2 h.2 rfl⟩
theorem Book.turn {l D : Nat} {r : Loop} {A : World} (h : Book l D r A) (hne : l ≠ D) (r' : Loop) : Book l D r' (A.putObj l (.loop r')) :=
  ⟨World.putObj_heap_same (Array.getElem?_eq_some_iff.1 h.1).1, (World.putObj_heap_other (Ne.symm hne)).trans h.2⟩

def SeqC {α : Type} (F : Fence) (n : Nat) (P : Program) (g : Nat) (lb : Array Value) (encs : α → Array Value) (C : List α → α → World → World → Prop) (G : α → Prop) (Kp : World → World → World → Prop) (S Sp : List α → Prop) (w : World) : Prop :=
  ∀ (l : Nat) (J Jx : List α → World → Prop) (W : World), Below w.heap.size w W → AbidesFrom W.heap.size J → AbidesFrom W.heap.size Jx →
    (∀ pre x W0 W1, J pre W0 → J pre W1 → Below W0.heap.size W0 W1 → C pre x W0 W1 → YieldAt F (n - 1) P l (encs x) W1 fun e W' => (e = .returned (.bool true) ∧ G x ∧ J (pre ++ [x]) W' ∧ Kp W0 W1 W') ∨ (e = .returned (.bool false) ∧ Jx (pre ++ [x]) W')) →
    J [] W → CallsIn F n P g (#[.func (.yield l) #[] #[]] ++ lb) W fun e W' => (∃ v, e = .returned v) ∧ ((∃ xs, S xs ∧ J xs W') ∨ (∃ pre, Sp pre ∧ Jx pre W'))

theorem range_cond {F : Fence} {n : Nat} {P : Program} {α : Type} {g : Operand} {ps : Array Tmp} {assign body : Code} {Q : Exit → Act → World → Prop} {a : Act} {w : World}
    (hro : F.round = none) (h1 : 1 ≤ n) {gf : Nat} {lb : Array Value} (hg : a.eval g = .func (.func gf) #[] lb) (hF : F.fn gf) (eg : ∀ args w, (callFunc gf args).run P w = .ok (.enter gf args) w)
    {encs : α → Array Value} {C : List α → α → World → World → Prop} {G : α → Prop} {Kp : World → World → World → Prop} {S Sp : List α → Prop} {w0 : World} (hseq : SeqC F (n - 1) P gf lb encs C G Kp S Sp w0) (hw0 : Below w0.heap.size w0 w)
    (hKt : ∀ {Z A B D : World}, Kp Z A B → Kp Z B D → Kp Z A D) (hKb : ∀ (Z W : World) (l : Nat) (o o' : Obj), w.heap.size ≤ l → W.heap[l]? = some o → o.isCells = false → o.isWalk = false → Kp Z W (W.putObj l o'))
    (hps : ∀ x, (encs x).size = ps.size) (I : List α → World → Prop) (Ix : Code → List α → World → Prop) (hI : OwnFrom w.heap.size I) (hIx : ∀ c, OwnFrom w.heap.size (Ix c)) (h0 : I [] w) (hG : ∀ pre x W, I (pre ++ [x]) W → G x)
    (Ax : List α → α → World → Act → World → Prop) (hAx : ∀ pre x Z b, OwnFrom w.heap.size (fun (_ : Unit) W => Ax pre x Z b W))
    (hassign : ∀ (l : Nat) (pre : List α) (x : α) (W0 W : World) (K : Act → World → Prop), I pre W0 → I pre W → Below W0.heap.size W0 W → C pre x W0 W → (∀ b W', KeepsFrom w.heap.size W W' → Kp W0 W W' → I pre W' → Ax pre x W0 b W' → K b W') →
      assign.wpIn (F.inRound l) (n - 1 - 1) P (Exit.then K (fun _ _ _ => False)) ⟨(ps.zip (encs x)).foldl (fun t (p, v) => t.setIfInBounds p v) a.tmps, []⟩ W)
    (hbody : ∀ (l : Nat) (pre : List α) (x : α) (W0 : World) (b : Act) (W : World), w.heap.size ≤ l → (∃ r, W.heap[l]? = some (.loop r)) → I pre W → Ax pre x W0 b W → body.wpIn (F.inRound l) (n - 1 - 1) P (ownPostG w.heap.size (Kp W0) I Ix (pre ++ [x]) W) b W)
    (hdone : ∀ (D : Nat) (xs : List α) (W : World), w.heap.size ≤ D → S xs → I xs W → W.heap[D]? = some (.deferred (some [])) → Q .normal ⟨a.tmps, ⟨.collected D, #[]⟩ :: a.defers⟩ W)
    (hstop : ∀ (D : Nat) (c : Code) (pre : List α) (W : World), w.heap.size ≤ D → Sp pre → Ix c pre W → W.heap[D]? = some (.deferred (some [])) → c.wpIn F n P Q ⟨a.tmps, ⟨.collected D, #[]⟩ :: a.defers⟩ W) :
    (Code.rangeFunc g ps assign body).wpIn F n P Q a w := by
  refine wpIn_rangeFunc fun fn hfn => ?_
  rw [hro]
  -- the record in its states
  let R : LoopState → Option Code → Loop := fun st pe => ⟨st, pe, fn, a.tmps, ps, assign, body, w.heap.size⟩
  have hne : w.heap.size + 1 ≠ w.heap.size := by omega
  have hbk : Book (w.heap.size + 1) w.heap.size (R .ready none) ((w.alloc (.deferred (some []))).alloc (.loop (R .ready none))) :=
    ⟨by have := World.alloc_heap_new (w.alloc (.deferred (some []))) (.loop (R .ready none)); rwa [World.size_alloc] at this, (Below.heap_alloc _ _ _ (by simp)).trans (World.alloc_heap_new w _)⟩
  refine ⟨w.heap.size + 1, [⟨.collected w.heap.size, #[]⟩], ((w.alloc (.deferred (some []))).alloc (.loop (R .ready none))), ⟨.fn (.func gf) lb, #[.func (.yield (w.heap.size + 1)) #[] #[]]⟩, ((w.alloc (.deferred (some []))).alloc (.loop (R .ready none))), gf, #[.func (.yield (w.heap.size + 1)) #[] #[]] ++ lb, ((w.alloc (.deferred (some []))).alloc (.loop (R .ready none))), run_enterLoop_outer fn a.tmps ps assign body, ?_, ?_, ?_, fun _ => h1, ?_⟩
  · simp only [resolve, hg]
    simp [go_sem]
  · intro f hf
    simp [Target.leads] at hf
    subst hf
    exact hF
  · simp [invoke, go_sem, eg]
  have hsz : ((w.alloc (.deferred (some []))).alloc (.loop (R .ready none))).heap.size = w.heap.size + 2 := by simp
  have hst : Below w0.heap.size w0 ((w.alloc (.deferred (some []))).alloc (.loop (R .ready none))) := hw0.trans ((((Below.refl _ w).alloc (Nat.le_refl _) _).alloc (by simp) _).mono hw0.size)
  have hi0 : I [] ((w.alloc (.deferred (some []))).alloc (.loop (R .ready none))) := hI.alloc _ (hI.alloc _ h0)
  change CallsIn F (n - 1) P gf _ ((w.alloc (.deferred (some []))).alloc (.loop (R .ready none))) _
  generalize (w.alloc (.deferred (some []))).alloc (.loop (R .ready none)) = V at *
  have hrow : ∀ {A : World} {row : Option Nat}, (∀ r, row = some r → V.heap.size ≤ r ∧ ∃ o : Obj, A.heap[r]? = some o ∧ o.isWalk = true) → ∀ r, row = some r → w.heap.size ≤ r ∧ ∃ o : Obj, A.heap[r]? = some o ∧ o.isCells = false := by
    intro A row h r e
    obtain ⟨hr, o, ho, hw⟩ := h r e
    exact ⟨by omega, o, ho, Obj.not_cells_of_walk hw⟩
  refine (hseq (w.heap.size + 1) (fun pre W => I pre W ∧ Book (w.heap.size + 1) w.heap.size (R .ready none) W) (fun pre W => ∃ c, Ix c pre W ∧ Book (w.heap.size + 1) w.heap.size (R .done (some c)) W) V hst
    (fun s A B row h hgr hr => ⟨hI s A B row h.1 hgr (hrow hr), h.2.grown hgr (fun r e => (hr r e).2)⟩)
    (fun s A B row h hgr hr => by obtain ⟨c, hc, hb⟩ := h; exact ⟨c, hIx c s A B row hc hgr (hrow hr), hb.grown hgr (fun r e => (hr r e).2)⟩) ?round ⟨hi0, hbk⟩).mono ?after
  case after =>
    rintro e W ⟨⟨v, rfl⟩, ⟨xs, hS, hi, hb⟩ | ⟨pre, hS, c, hi, hb⟩⟩
    · exact ⟨none, _, run_endLoop (P := P) hb.1 (by simp [R]), hdone _ xs _ (Nat.le_refl _) hS (hI.putObj _ hi (by omega) hb.1 rfl) (hb.turn hne _).2⟩
    · exact ⟨some c, _, run_endLoop (P := P) hb.1 (by simp [R]), hstop _ c pre _ (Nat.le_refl _) hS ((hIx c).putObj _ hi (by omega) hb.1 rfl) (hb.turn hne _).2⟩
  case round =>
    rintro pre x W0 W ⟨hi9, _⟩ ⟨hi, hb⟩ hbl hc
    refine ⟨fn, _, assign, body, run_yield (P := P) (args := encs x) hb.1 (hps x), roundIn_of_wpIn hfn (hassign _ pre x W0 W _ hi9 hi hbl hc ?_)⟩
    intro b V1 hk1 hp1 hi1 ha1
    have hb1 := hb.keeps hk1 (Nat.le_succ _) (Nat.le_refl _)
    refine ⟨_, run_beginRound (P := P) hb1.1 rfl, ?_⟩
    have hb2 := hb1.turn hne { R .ready none with state := .busy }
    refine wpIn_mono (hbody _ pre x W0 b _ (Nat.le_succ _) ⟨_, hb2.1⟩ (hI.putObj _ hi1 (by omega) hb1.1 rfl) ((hAx pre x W0 b).putObj (s := ()) _ ha1 (by omega) hb1.1 rfl)) ?_
    have hp2 := hKb W0 V1 (w.heap.size + 1) (.loop (R .ready none)) (.loop { R .ready none with state := .busy }) (by omega) hb1.1 rfl rfl
    intro e b3 V3 hp
    cases e with
    | normal =>
      obtain ⟨hk3, hp3, hi3⟩ := hp
      have hb3 := hb2.keeps hk3 (Nat.le_succ _) (Nat.le_refl _)
      exact ⟨_, _, run_endRound (P := P) none hb3.1, .inl ⟨rfl, hG _ _ _ hi3, ⟨hI.putObj _ hi3 (by omega) hb3.1 rfl, hb3.turn hne _⟩, hKt hp1 (hKt (hKt hp2 hp3) (hKb _ _ _ _ _ (by omega) hb3.1 rfl rfl))⟩⟩
    | ret =>
      obtain ⟨hk3, hi3⟩ := hp
      have hb3 := hb2.keeps hk3 (Nat.le_succ _) (Nat.le_refl _)
      exact ⟨_, _, run_endRound (P := P) (some .ret) hb3.1, .inr ⟨rfl, .ret, (hIx _).putObj _ hi3 (by omega) hb3.1 rfl, hb3.turn hne _⟩⟩
    | exit id =>
      obtain ⟨hk3, hi3⟩ := hp
      have hb3 := hb2.keeps hk3 (Nat.le_succ _) (Nat.le_refl _)
      exact ⟨_, _, run_endRound (P := P) (some (.exit id)) hb3.1, .inr ⟨rfl, .exit id, (hIx _).putObj _ hi3 (by omega) hb3.1 rfl, hb3.turn hne _⟩⟩
    | goto t =>
      obtain ⟨hk3, hi3⟩ := hp
      have hb3 := hb2.keeps hk3 (Nat.le_succ _) (Nat.le_refl _)
      exact ⟨_, _, run_endRound (P := P) (some (.goto t)) hb3.1, .inr ⟨rfl, .goto t, (hIx _).putObj _ hi3 (by omega) hb3.1 rfl, hb3.turn hne _⟩⟩
    | panic ch => exact hp.elim
    | outgrown => exact hp.elim

end Go.Proofs.YtabmfdedbpmfmaaGreat

namespace Go.Proofs.YtabmfdedbpmfmaaGreat
open Go.RowKit Go.Shelf
set_option linter.unusedVariables false

def skL (l : List UInt8) (a : Nat) : Nat := a + runL 6 (l.drop a)
def wdN : List UInt8 → Nat
  | [] => 0
  | c :: r => if c == 44 || isC (c.toNat : Int) 6 then 0 else wdN r + 1
def comL : List UInt8 → List UInt8 → Nat
  | c :: r, d :: t => if c == d then comL r t + 1 else 0
  | _, _ => 0
def sgn : Nat → List UInt8
  | 0 => [126, 61]
  | 1 => [61, 61]
  | 2 => [33, 61]
  | 3 => [60, 61]
  | 4 => [62, 61]
  | 5 => [60]
  | 6 => [62]
  | 7 => [61, 61, 61]
  | _ => []
def opStep (l : List UInt8) (x : Nat × Nat) (k : Nat) : Nat × Nat := (if comL l (sgn k) = (sgn k).length ∧ (sgn x.1).length < comL l (sgn k) then k else x.1, max x.2 (comL l (sgn k)))
def opGo (l : List UInt8) : Nat → Nat × Nat
  | 0 => (8, 0)
  | k + 1 => opStep l (opGo l k) k
theorem skL_le (l : List UInt8) (a : Nat) (h : a ≤ l.length) : a ≤ skL l a ∧ skL l a ≤ l.length := by
  have := runL_le 6 (l.drop a)
  rw [List.length_drop] at this
  unfold skL
  omega
theorem wdN_le : ∀ l : List UInt8, wdN l ≤ l.length
  | [] => Nat.le_refl _
  | c :: r => by
    have := wdN_le r
    unfold wdN
    split
    · simp
    · simp; omega
theorem comL_le : ∀ a b : List UInt8, comL a b ≤ a.length ∧ comL a b ≤ b.length
  | [], _ => by simp [comL]
  | _ :: _, [] => by simp [comL]
  | c :: r, d :: t => by
    have := comL_le r t
    unfold comL
    split
    · simp; omega
    · simp
theorem sgn_len (k : Nat) : (sgn k).length ≤ 3 := by
  unfold sgn
  split <;> simp
theorem opGo_le (l : List UInt8) : ∀ k, k ≤ 8 → (opGo l k).1 ≤ 8 ∧ (opGo l k).2 ≤ l.length ∧ (opGo l k).2 ≤ 3 ∧ (sgn (opGo l k).1).length ≤ (opGo l k).2
  | 0, _ => by simp [opGo, sgn]
  | k + 1, h => by
    have h1 := opGo_le l k (by omega)
    have h2 := comL_le l (sgn k)
    have h3 := sgn_len k
    unfold opGo opStep
    dsimp only
    refine ⟨?_, ?_, ?_, ?_⟩
    · split <;> omega
    · omega
    · omega
    · split <;> omega

end Go.Proofs.YtabmfdedbpmfmaaGreat

namespace Go.Proofs.YtabmfdedbpmfmaaGreat
open Go.RowKit Go.Shelf
set_option linter.unusedVariables false

theorem comL_hit (a b : ByteArray) (n : Nat) (h1 : n < a.size) (h2 : n < b.size) (h : a[n] = b[n]) : comL (a.data.toList.drop n) (b.data.toList.drop n) = comL (a.data.toList.drop (n + 1)) (b.data.toList.drop (n + 1)) + 1 := by
  rw [drop_at a n h1, drop_at b n h2, comL, if_pos (by simp [h])]
theorem comL_miss (a b : ByteArray) (n : Nat) (h1 : n < a.size) (h2 : n < b.size) (h : a[n] ≠ b[n]) : comL (a.data.toList.drop n) (b.data.toList.drop n) = 0 := by
  rw [drop_at a n h1, drop_at b n h2, comL, if_neg (by simp [h])]
theorem comL_end (a b : ByteArray) (n : Nat) (h : a.size ≤ n ∨ b.size ≤ n) : comL (a.data.toList.drop n) (b.data.toList.drop n) = 0 := by
  rcases h with h | h
  · rw [drop_end a n h, comL]; intro c r d t e; cases e
  · rw [drop_end b n h, comL]; intro c r d t _ e; cases e

theorem getElem_bytes (s : ByteArray) (z : Nat) (h : z < s.size) : s.data.toList[z]? = some s[z] := by
  rw [List.getElem?_eq_getElem (by rw [len_data]; exact h)]; rfl

set_option maxRecDepth 100000 in
set_option maxHeartbeats 2000000 in
theorem common_any (a b : ByteArray) (w : World) (ha : a.size ≤ 256) (hb : b.size ≤ 256) :
    Calls Tryz.prog 135 #[.string a, .string b] w fun e w' => e = .returned (.int .i64 (comL a.data.toList b.data.toList : Int)) ∧ ∃ m, w' = w.drewN m := by
  go_enter Tryz.func135, Tryz.ntmps135
  go_wp2_with fail
  go_loopw [5] (fun y wr => ∃ n : Nat, n ≤ a.size ∧ n ≤ b.size ∧ y = .int .i64 n ∧ comL a.data.toList b.data.toList = n + comL (a.data.toList.drop n) (b.data.toList.drop n) ∧ ∃ m, wr = w.drewN m) (fun y _ => 256 - (intOf y).toNat)
  case atStart => exact ⟨0, by omega, by omega, rfl, by simp, 0, rfl⟩
  case round =>
    obtain ⟨n, hn1, hn2, rfl, hc, hb0⟩ := hrel
    have HC := hide hc
    have HB : Hid (∃ m, wr.drew = w.drewN m) := by obtain ⟨m, rfl⟩ := hb0; exact ⟨m + 1, rfl⟩
    clear hc hb0
    by_cases hs : b.size < a.size
    · by_cases hlt : n < b.size
      · have h1 : n < a.size := by omega
        by_cases he : a[n] = b[n]
        · have hcmp : ((a[n].toNat : Int) == (b[n].toNat : Int)) = true := by rw [he]; simp
          have HN := hide (HC.out.trans (by rw [comL_hit a b n (by omega) (by omega) he]))
          clear he
          go_wp2_with fail
          go_region
          all_goals
            go_wp2_with fail
            exact ⟨⟨n + 1, by omega, by omega, by go_num, by have := HN.out; omega, HB.out⟩, by simp [intOf]; omega⟩
        · have hcmp : ((a[n].toNat : Int) == (b[n].toNat : Int)) = false := by
            simp only [beq_eq_false_iff_ne, ne_eq]
            intro e
            exact he (UInt8.toNat_inj.1 (by omega))
          have HN := hide (HC.out.trans (by rw [comL_miss a b n (by omega) (by omega) he]))
          clear he
          go_wp2_with fail
          go_region
          all_goals
            go_wp2_with fail
            go_ret
            exact ⟨by rw [HN.out]; rfl, HB.out⟩
      · have HN := hide (HC.out.trans (by rw [comL_end a b n (.inr (by omega))]))
        go_wp2_with fail
        go_region
        all_goals
          go_wp2_with fail
          go_ret
          exact ⟨by rw [HN.out]; rfl, HB.out⟩
    · by_cases hlt : n < a.size
      · have h1 : n < b.size := by omega
        by_cases he : a[n] = b[n]
        · have hcmp : ((a[n].toNat : Int) == (b[n].toNat : Int)) = true := by rw [he]; simp
          have HN := hide (HC.out.trans (by rw [comL_hit a b n (by omega) (by omega) he]))
          clear he
          go_wp2_with fail
          go_region
          all_goals
            go_wp2_with fail
            exact ⟨⟨n + 1, by omega, by omega, by go_num, by have := HN.out; omega, HB.out⟩, by simp [intOf]; omega⟩
        · have hcmp : ((a[n].toNat : Int) == (b[n].toNat : Int)) = false := by
            simp only [beq_eq_false_iff_ne, ne_eq]
            intro e
            exact he (UInt8.toNat_inj.1 (by omega))
          have HN := hide (HC.out.trans (by rw [comL_miss a b n (by omega) (by omega) he]))
          clear he
          go_wp2_with fail
          go_region
          all_goals
            go_wp2_with fail
            go_ret
            exact ⟨by rw [HN.out]; rfl, HB.out⟩
      · have HN := hide (HC.out.trans (by rw [comL_end a b n (.inl (by omega))]))
        go_wp2_with fail
        go_region
        all_goals
          go_wp2_with fail
          go_ret
          exact ⟨by rw [HN.out]; rfl, HB.out⟩

set_option maxRecDepth 100000 in
set_option maxHeartbeats 2000000 in
theorem readEnd_any (s : ByteArray) (a : Nat) (w : World) (hs : s.size ≤ 256) (ha : a ≤ s.size) :
    Calls Tryz.prog 117 #[.string s, .int .i64 (a : Int)] w fun e w' => e = .returned (.tuple #[.int .i64 (skL s.data.toList a : Int), .int .i64 (if skL s.data.toList a < s.data.toList.length ∧ s.data.toList[skL s.data.toList a]? ≠ some 44 then 10 else 0)]) ∧ Below w.heap.size w w' := by
  have R1 := hide (fun W => Run_any s (a : Int) 6 W (by unfold maxLen; omega))
  have hk := skL_le s.data.toList a (by rw [len_data]; exact ha)
  rw [len_data] at hk ⊢
  have hr : runI s.data.toList (a : Int) 6 = ((skL s.data.toList a : Nat) : Int) := by rw [runI_in s a 6 ha]; unfold skL; omega
  rw [hr] at R1
  clear hr
  generalize skL s.data.toList a = z at *
  go_enter Tryz.func117, Tryz.ntmps117
  by_cases hz : z < s.size
  · have hd : decide ((z : Int) < (s.size : Int)) = true := by simp; omega
    rw [getElem_bytes s z hz]
    by_cases hc : s[z] = 44
    · have hcmp : ((s[z].toNat : Int) != 44) = false := by rw [hc]; rfl
      have HP : Hid ((if z < s.size ∧ some s[z] ≠ some 44 then (10 : Int) else 0) = 0) := hide (by rw [hc]; simp)
      rw [HP.out]
      clear hc
      go_wp2_with (go_at_call 60; refine (R1.out _).mono ?_; rintro e w' ⟨rfl, rfl⟩)
      go_ret2
      exact ⟨rfl, Below.refl _ _⟩
    · have hcmp : ((s[z].toNat : Int) != 44) = true := by
        simp only [bne_iff_ne, ne_eq]
        intro e
        exact hc (UInt8.toNat_inj.1 (by show _ = 44; omega))
      have HP : Hid ((if z < s.size ∧ some s[z] ≠ some 44 then (10 : Int) else 0) = 10) := hide (by rw [if_pos ⟨hz, by simpa using hc⟩])
      rw [HP.out]
      clear hc
      go_wp2_with (go_at_call 60; refine (R1.out _).mono ?_; rintro e w' ⟨rfl, rfl⟩)
      go_ret2
      exact ⟨rfl, Below.refl _ _⟩
  · have hd : decide ((z : Int) < (s.size : Int)) = false := by simp; omega
    rw [if_neg (fun h => hz h.1)]
    go_wp2_with (go_at_call 60; refine (R1.out _).mono ?_; rintro e w' ⟨rfl, rfl⟩)
    go_ret2
    exact ⟨rfl, Below.refl _ _⟩

end Go.Proofs.YtabmfdedbpmfmaaGreat
