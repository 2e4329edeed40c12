/-
  What the walks of this seat share: memory told by blocks, texts as lists.
-/
import Derived.Test.YtpedljmpobhimaaGreatDoorWc
import Derived.Shelf.RegionOpen
import Derived.Deep.CondSized
import Derived.RangeFuncNested
import Derived.Deep.QuietTactic
import Derived.BigQuiet
import Derived.Deep.RegionHeld3
import Derived.Deep.AppendLies
import Derived.StillTailTactics
namespace Go.Proofs.YtpedljmpobhimaaGreatDoor
open Go.RowKit Go.Shelf
set_option linter.unusedVariables false

/-- Digits alone. -/
def digB (l : List UInt8) : Bool := !l.isEmpty && (runL 1 l == l.length)
/-- A number with a nought ahead. -/
def zeroB (l : List UInt8) : Bool := decide (1 < l.length) && (l.head? == some 48) && digB l
/-- The error where a part can't begin or go on. -/
def misL (n a : Nat) : Int := if a = n then 11 else 10
/-- What stands between two places. -/
def seg (l : List UInt8) (a e : Nat) : List UInt8 := (l.take e).drop a
theorem extract_seg (s : ByteArray) (a e : Nat) : s.extract a e = ofL (seg s.data.toList a e) := extract_ofL s a e
theorem extract_data (s : ByteArray) (a e : Nat) : (s.extract a e).data.toList = seg s.data.toList a e := by rw [extract_seg, ofL_data]
theorem seg_len (l : List UInt8) (a e : Nat) (h : e ≤ l.length) : (seg l a e).length = e - a := by simp [seg]; omega
theorem runL_drop_le (k : Int) (s : ByteArray) (a : Nat) (h : a ≤ s.size) : a + runL k (s.data.toList.drop a) ≤ s.size := by
  have := runL_le k (s.data.toList.drop a)
  rw [List.length_drop, len_data] at this
  omega
theorem eqE (s : ByteArray) (h : 0 < s.size) : (s.toList == []) = false := by
  rw [toL]
  rw [← len_data] at h
  cases hl : s.data.toList with
  | nil => rw [hl] at h; simp at h
  | cons c r => rfl
theorem emp (s : ByteArray) (h : 0 < s.size) : s.data.toList.isEmpty = false := by
  rw [← len_data] at h
  cases hl : s.data.toList with
  | nil => rw [hl] at h; simp at h
  | cons c r => rfl
theorem size0 (s : ByteArray) (h : ¬ 0 < s.size) : s = ⟨#[]⟩ := by
  cases s with | mk d =>
    have : d.size = 0 := by simpa [ByteArray.size] using h
    rw [Array.eq_empty_of_size_eq_zero this]
theorem head_at (s : ByteArray) (h : 0 < s.size) : s.data.toList.head? = some s[0] := by
  have := drop_at s 0 h
  rw [List.drop_zero] at this
  rw [this]; rfl
/-- These blocks lie so. -/
def Lies (W : World) (ps : List (Nat × Obj)) : Prop := ∀ p ∈ ps, W.heap[p.1]? = some p.2
theorem Lies.nil (W : World) : Lies W [] := by intro p hp; cases hp
theorem Lies.cons {W : World} {B : Nat} {o : Obj} {ps : List (Nat × Obj)} (h : W.heap[B]? = some o) (hs : Lies W ps) : Lies W ((B, o) :: ps) := by
  intro p hp
  rcases List.mem_cons.1 hp with rfl | hp
  · exact h
  · exact hs p hp
theorem Lies.head {W : World} {B : Nat} {o : Obj} {ps : List (Nat × Obj)} (h : Lies W ((B, o) :: ps)) : W.heap[B]? = some o := h (B, o) List.mem_cons_self
theorem Lies.tail {W : World} {p : Nat × Obj} {ps : List (Nat × Obj)} (h : Lies W (p :: ps)) : Lies W ps := fun q hq => h q (List.mem_cons_of_mem _ hq)
theorem Lies.lt {W : World} {ps : List (Nat × Obj)} (h : Lies W ps) (p : Nat × Obj) (hp : p ∈ ps) : p.1 < W.heap.size := (Array.getElem?_eq_some_iff.1 (h p hp)).1
theorem Lies.kept {W W' : World} {row : Option Nat} {ps : List (Nat × Obj)} (h : Lies W ps) (hg : W.grownBy W' row) (hne : ∀ p ∈ ps, some p.1 ≠ row) : Lies W' ps :=
  fun p hp => (hg.block p.1 (h.lt p hp) (hne p hp)).trans (h p hp)
theorem Lies.alloc {W : World} {ps : List (Nat × Obj)} (h : Lies W ps) (o : Obj) : Lies (W.alloc o) ps := h.kept (World.grownBy_alloc W o none) (by simp)
theorem grownBy_set (W : World) (b o : Nat) (v : Value) : W.grownBy (W.setCell ⟨b, o, none⟩ v) (some b) :=
  ⟨rfl, rfl, rfl, (KeepsWalks.setCell W _ v).size, fun k _ hk => Below.heap_setCell _ _ _ k (fun e => hk (by rw [e]))⟩
theorem Lies.other {W : World} {ps : List (Nat × Obj)} (h : Lies W ps) (b o : Nat) (v : Value) (hne : ∀ p ∈ ps, p.1 ≠ b) : Lies (W.setCell ⟨b, o, none⟩ v) ps :=
  h.kept (grownBy_set W b o v) (fun p hp e => hne p hp (by simpa using e))
theorem Lies.below {W W' : World} {n : Nat} {ps : List (Nat × Obj)} (h : Lies W ps) (hb : Below n W W') (hn : ∀ p ∈ ps, p.1 < n) : Lies W' ps :=
  fun p hp => (hb.block p.1 (hn p hp)).trans (h p hp)
theorem lies_own {β : Type} (B0 : Nat) (ps : List (Nat × Obj)) (hps : ∀ p ∈ ps, p.1 < B0) : OwnFrom B0 (fun (_ : β) W => Lies W ps) := by
  rintro s X Y row h hg hrow
  exact h.kept hg (fun p hp e => by have := (hrow p.1 e.symm).1; have := hps p hp; omega)
theorem one_cell {W : World} {B : Nat} {t : TypeId} {v : Value} {m : Nat × Nat} (h : W.heap[B]? = some (.cells #[v] t m)) : W.cell? ⟨B, 0, none⟩ = some v := by simp [World.cell?, h]
theorem one_free {W : World} {B : Nat} {t : TypeId} {cs : Array Value} (o : Nat) (h : W.heap[B]? = some (.cells cs t (0, 0))) : W.frozen? ⟨B, o, none⟩ = false := by simp [World.frozen?, h]
theorem cell_at {W : World} {B : Nat} {t : TypeId} {cs : Array Value} {m : Nat × Nat} (o : Nat) {v : Value} (h : W.heap[B]? = some (.cells cs t m)) (hv : cs[o]? = some v) : W.cell? ⟨B, o, none⟩ = some v := by simp [World.cell?, h, hv]
theorem set_lies {W : World} {B : Nat} {t : TypeId} {cs : Array Value} {m : Nat × Nat} (o : Nat) (v : Value) (h : W.heap[B]? = some (.cells cs t m)) : (W.setCell ⟨B, o, none⟩ v).heap[B]? = some (.cells (cs.setIfInBounds o v) t m) := by
  obtain ⟨hlt, hk⟩ := Array.getElem?_eq_some_iff.1 h
  show (W.heap.modify B _)[B]? = _
  rw [Array.getElem?_eq_getElem (by rw [Array.size_modify]; exact hlt), Array.getElem_modify_self, hk]
  rfl
/-- A slice of texts in memory. -/
def Txt (W : World) (v : Value) (ts : List (List UInt8)) : Prop :=
  ∃ a cap, v = .slice a ts.length cap ∧ (ts = [] ∨ ∃ b off, a = some ⟨b, off, none⟩ ∧ b < W.heap.size ∧ ∀ i (h : i < ts.length), W.cell? ⟨b, off + i, none⟩ = some (.string (ofL ts[i])))
theorem Txt.below {W W' : World} {v : Value} {ts : List (List UInt8)} (h : Txt W v ts) (hb : Below W.heap.size W W') : Txt W' v ts := by
  obtain ⟨a, cap, hv, h0 | ⟨b, off, ha, hlt, hc⟩⟩ := h
  · exact ⟨a, cap, hv, .inl h0⟩
  · exact ⟨a, cap, hv, .inr ⟨b, off, ha, Nat.lt_of_lt_of_le hlt hb.size, fun i hi => by rw [← hc i hi]; simp only [World.cell?]; rw [hb.block b hlt]⟩⟩
theorem Txt.some {W : World} {a : Option Addr} {n cap : Nat} {ts : List (List UInt8)} (h : Txt W (.slice a n cap) ts) (hne : 0 < ts.length) :
    ∃ b off, a = some ⟨b, off, none⟩ ∧ ∀ i (h : i < ts.length), W.cell? ⟨b, off + i, none⟩ = some (.string (ofL ts[i])) := by
  obtain ⟨a', cap', hv, h0 | ⟨b, off, ha, hlt, hc⟩⟩ := h
  · subst h0; simp at hne
  · cases hv
    exact ⟨b, off, ha, hc⟩
/-- Texts short enough. -/
def Short (ts : List (List UInt8)) : Prop := ts.length ≤ 9223372036854775806 ∧ ∀ t ∈ ts, t.length ≤ 9223372036854775806
theorem int_eq0 {n : Nat} (h : n = 0) : ((n : Int) == 0) = true := by subst h; rfl
theorem int_ne0 {n : Nat} (h : ¬ n = 0) : ((n : Int) == 0) = false := by simp; omega
/-- One block may have turned, and new ones may lie; all else is as it was. -/
structure Turn (B : Nat) (w w' : World) : Prop where
  os : w'.os = w.os
  tape : w'.tape = w.tape
  output : w'.output = w.output
  size : w.heap.size ≤ w'.heap.size
  block : ∀ k, k < w.heap.size → k ≠ B → w'.heap[k]? = w.heap[k]?
theorem Turn.refl (B : Nat) (w : World) : Turn B w w := ⟨rfl, rfl, rfl, Nat.le_refl _, fun _ _ _ => rfl⟩
theorem Turn.trans {B : Nat} {a b c : World} (h : Turn B a b) (k : Turn B b c) : Turn B a c :=
  ⟨k.os.trans h.os, k.tape.trans h.tape, k.output.trans h.output, Nat.le_trans h.size k.size, fun i hi hn => (k.block i (Nat.lt_of_lt_of_le hi h.size) hn).trans (h.block i hi hn)⟩
theorem Turn.ofBelow {B : Nat} {w w' : World} (h : Below w.heap.size w w') : Turn B w w' := ⟨h.os, h.tape, h.output, h.size, fun k hk _ => h.block k hk⟩
theorem Turn.below {B n : Nat} {w w' : World} (h : Turn B w w') (hn : n ≤ B) (hs : n ≤ w.heap.size) : Below n w w' := ⟨h.os, h.tape, h.output, h.size, fun k hk => h.block k (Nat.lt_of_lt_of_le hk hs) (by omega)⟩
theorem Turn.set (B o : Nat) (w : World) (v : Value) : Turn B w (w.setCell ⟨B, o, none⟩ v) :=
  ⟨rfl, rfl, rfl, by rw [show (w.setCell ⟨B, o, none⟩ v).heap.size = w.heap.size from Array.size_modify]; exact Nat.le_refl _, fun k _ hn => Below.heap_setCell _ _ _ k hn⟩
theorem Turn.drewN (B : Nat) (w : World) : ∀ n, Turn B w (w.drewN n)
  | 0 => Turn.refl B w
  | n + 1 => by
    have h := Turn.drewN B w.drew n
    exact ⟨h.os, h.tape, h.output, h.size, h.block⟩
theorem heap_drewN (w : World) : ∀ n, (w.drewN n).heap = w.heap
  | 0 => rfl
  | n + 1 => heap_drewN w.drew n
theorem below_drewN (k : Nat) (w : World) (n : Nat) : Below k w (w.drewN n) := by
  have h := Turn.drewN 0 w n
  exact ⟨h.os, h.tape, h.output, h.size, fun j _ => by rw [heap_drewN]⟩
theorem Turn.grown {B : Nat} {w w' : World} (h : Turn B w w') : w.grownBy w' (some B) := ⟨h.os, h.tape, h.output, h.size, fun k hk hn => h.block k hk (fun e => hn (by rw [e]))⟩
theorem own_turn {B : Nat} {w w' : World} {base : Nat} {e : TypeId} {size : Nat} {v : Value} {n : Nat} {xs : List Value} (h : w.ownsRow base e size v n xs) (ht : Turn B w w') (hB : B < base) : w'.ownsRow base e size v n xs := by
  refine h.kept ht.grown ?_
  cases ho : v.ownBlock with
  | none => exact .inl rfl
  | some k => exact .inr (fun e => by have := (h.lt k ho).1; injection e with e; omega)
theorem misL_ne (n a : Nat) : misL n a ≠ 0 := by unfold misL; split <;> decide
theorem Turn.alloc {B : Nat} {w W : World} (h : Turn B w W) (o : Obj) : Turn B w (W.alloc o) := h.trans (Turn.ofBelow ((Below.refl _ W).alloc (Nat.le_refl _) o))
theorem turn_grown {B : Nat} {w W W' : World} {row : Option Nat} (h : Turn B w W) (hg : W.grownBy W' row) (hr : ∀ k, row = some k → w.heap.size ≤ k) : Turn B w W' :=
  ⟨hg.os.trans h.os, hg.tape.trans h.tape, hg.output.trans h.output, Nat.le_trans h.size hg.size, fun k hk hn => (hg.block k (Nat.lt_of_lt_of_le hk h.size) (fun e => by have := hr k e.symm; omega)).trans (h.block k hk hn)⟩
/-- Does a byte stand at a place? -/
def atB (l : List UInt8) (a : Nat) (c : UInt8) : Bool := l[a]? == some c
theorem atB_in (s : ByteArray) (a : Nat) (c : UInt8) (h : a < s.size) : atB s.data.toList a c = decide ((s[a].toNat : Int) = (c.toNat : Int)) := by
  have hg : s.data.toList[a]? = some s[a] := by rw [List.getElem?_eq_getElem (by rw [len_data]; exact h)]; rfl
  unfold atB
  rw [hg, Bool.eq_iff_iff]
  simp only [beq_iff_eq, Option.some.injEq, decide_eq_true_eq]
  exact ⟨fun h => by rw [h], fun h => UInt8.toNat_inj.1 (by omega)⟩
theorem atB_out (s : ByteArray) (a : Nat) (c : UInt8) (h : ¬ a < s.size) : atB s.data.toList a c = false := by
  unfold atB
  rw [List.getElem?_eq_none (by rw [len_data]; omega)]
  rfl
theorem atB_iff (l : List UInt8) (a : Nat) (c : UInt8) : atB l a c = true ↔ l[a]? = some c := by unfold atB; simp
theorem run_take (k : Int) : ∀ m : List UInt8, runL k (m.take (runL k m)) = runL k m
  | [] => rfl
  | c :: r => by
    by_cases hc : isC (c.toNat : Int) k = true
    · have e : runL k (c :: r) = runL k r + 1 := by rw [runL, if_pos hc]
      rw [e, List.take_succ_cons, runL, if_pos hc, run_take k r]
    · have e : runL k (c :: r) = 0 := by rw [runL, if_neg hc]
      rw [e, List.take_zero]; rfl
theorem seg_run (l : List UInt8) (a d : Nat) : seg l a (a + d) = (l.drop a).take d := by
  unfold seg
  rw [List.drop_take]
  congr 1
  omega
theorem seg_self (l : List UInt8) (a : Nat) : seg l a a = [] := by unfold seg; rw [List.drop_eq_nil_iff, List.length_take]; omega
theorem one_set {W : World} {B : Nat} {cs : Array Value} {t : TypeId} (o : Nat) (v : Value) (h : W.heap[B]? = some (.cells cs t (0, 0))) :
    ∃ W', W' = W.setCell ⟨B, o, none⟩ v ∧ W'.heap[B]? = some (.cells (cs.setIfInBounds o v) t (0, 0)) ∧ (∀ j, j ≠ B → W'.heap[j]? = W.heap[j]?) ∧ (∀ n₀, n₀ ≤ B → Below n₀ W W') ∧ W'.heap.size = W.heap.size :=
  ⟨_, rfl, set_lies o v h, fun j hj => Below.heap_setCell _ _ _ j hj, fun n₀ h1 => (Below.refl n₀ W).setCell (p := ⟨B, o, none⟩) h1 v, Array.size_modify⟩
/-- A slice of a block of the call's own. -/
def Fresh (n : Nat) (v : Value) : Prop := ∀ a i c, v = .slice (some a) i c → n ≤ a.block
theorem fresh_row {W : World} {base : Nat} {v : Value} {k : Nat} {xs : List Value} (h : W.ownsRow base 9 1 v k xs) : Fresh base v := by
  rintro a i c rfl
  rcases h.2 with ⟨h1, _⟩ | ⟨g, cap, cur, h1, hg, _⟩
  · cases h1
  · cases h1; exact hg
theorem txt_kept {W W' : World} {v : Value} {ts : List (List UInt8)} {B : Nat} (h : Txt W v ts) (hk : ∀ j, j < W.heap.size → j ≠ B → W'.heap[j]? = W.heap[j]?) (hs : W.heap.size ≤ W'.heap.size) (hB : ∀ a n cap, v = .slice (some a) n cap → ts ≠ [] → a.block ≠ B) : Txt W' v ts := by
  obtain ⟨a, cap, hv, h0 | ⟨b, off, ha, hlt, hc⟩⟩ := h
  · exact ⟨a, cap, hv, .inl h0⟩
  · by_cases hn : ts = []
    · exact ⟨a, cap, hv, .inl hn⟩
    · have hne := hB _ _ _ (by rw [hv, ha]) hn
      exact ⟨a, cap, hv, .inr ⟨b, off, ha, Nat.lt_of_lt_of_le hlt hs, fun i hi => by rw [← hc i hi]; simp only [World.cell?]; rw [hk b hlt hne]⟩⟩
theorem txt_young {n : Nat} {W W' : World} {v : Value} {ts : List (List UInt8)} (h : Txt W v ts) (hf : Fresh n v) (hk : ∀ j, n ≤ j → j < W.heap.size → W'.heap[j]? = W.heap[j]?) (hs : W.heap.size ≤ W'.heap.size) : Txt W' v ts := by
  obtain ⟨a, cap, hv, h0 | ⟨b, off, ha, hlt, hc⟩⟩ := h
  · exact ⟨a, cap, hv, .inl h0⟩
  · have hn := hf _ _ _ (by rw [hv, ha])
    exact ⟨a, cap, hv, .inr ⟨b, off, ha, Nat.lt_of_lt_of_le hlt hs, fun i hi => by rw [← hc i hi]; simp only [World.cell?]; rw [hk b hn hlt]⟩⟩
theorem cat_ofL (a b : List UInt8) : ofL a ++ ofL b = ofL (a ++ b) := by
  apply ba_ext
  rw [ofL_data]
  simp [ofL]
theorem Txt.drewN {W : World} {v : Value} {ts : List (List UInt8)} (h : Txt W v ts) (n : Nat) : Txt (W.drewN n) v ts := h.below (below_drewN _ _ _)
theorem cat_step (a b : ByteArray) : ∃ c : ByteArray, a ++ b = c ∧ c.size = a.size + b.size ∧ c.data.toList = a.data.toList ++ b.data.toList :=
  ⟨_, rfl, by simp, by simp⟩
/-- Identifiers, each behind a dot. -/
def dotted (ts : List (List UInt8)) : List UInt8 := ts.flatMap fun t => 46 :: t
/-- Identifiers with dots between. -/
def joinL : List (List UInt8) → List UInt8
  | [] => []
  | t :: r => t ++ dotted r
theorem joinL_snoc (t u : List UInt8) (r : List (List UInt8)) : joinL ((t :: r) ++ [u]) = joinL (t :: r) ++ (46 :: u) := by
  simp [joinL, dotted]
theorem seg_app (l : List UInt8) (a b c : Nat) (h1 : a ≤ b) (h2 : b ≤ c) : seg l a b ++ seg l b c = seg l a c := by
  unfold seg
  have : l.take b = (l.take c).take b := by rw [List.take_take]; congr 1; omega
  rw [this]
  by_cases hb : b ≤ (l.take c).length
  · have e : (l.take c).drop a = ((l.take c).take b ++ (l.take c).drop b).drop a := by rw [List.take_append_drop]
    rw [e, List.drop_append_of_le_length (by rw [List.length_take]; omega)]
  · rw [List.take_of_length_le (by omega), List.drop_eq_nil_of_le (by omega : (l.take c).length ≤ b), List.append_nil]
theorem seg_one (l : List UInt8) (a : Nat) (c : UInt8) (h : l[a]? = some c) : seg l a (a + 1) = [c] := by
  unfold seg
  have hlt := (List.getElem?_eq_some_iff.1 h).1
  have hx := (List.getElem?_eq_some_iff.1 h).2
  rw [List.take_succ_eq_append_getElem hlt, List.drop_append_of_le_length (by rw [List.length_take]; omega), List.drop_eq_nil_of_le (by rw [List.length_take]; omega), hx]
  rfl
theorem seg_all (l : List UInt8) : seg l 0 l.length = l := by simp [seg]
/-- A slice is no longer than its room. -/
def Cap (v : Value) : Prop := ∀ a n c, v = .slice a n c → n ≤ c
theorem cap_row {W : World} {base : Nat} {e : TypeId} {size : Nat} {v : Value} {k : Nat} {xs : List Value} (h : W.ownsRow base e size v k xs) : Cap v := by
  rintro a n c rfl
  rcases h.2 with ⟨h1, _⟩ | ⟨g, cap, cur, h1, _, _, h2, _⟩
  · cases h1; exact Nat.le_refl _
  · cases h1; exact h2
theorem cap_nil : Cap (.slice none 0 0) := by
  rintro a n c h; cases h; exact Nat.le_refl _
/-- How many bytes identifiers take, one ahead of each. -/
def lenI : List (List UInt8) → Nat
  | [] => 0
  | t :: r => 1 + t.length + lenI r
theorem wrap_id (a : Int) (h : -9223372036854775808 ≤ a ∧ a ≤ 9223372036854775807) : wrap64 a = a := by
  unfold wrap64
  omega
theorem lenI_take (ts : List (List UInt8)) : ∀ k (h : k < ts.length), lenI (ts.take (k + 1)) = lenI (ts.take k) + (1 + ts[k].length) := by
  induction ts with
  | nil => intro k h; simp at h
  | cons t r ih =>
    intro k h
    cases k with
    | zero => simp [lenI]
    | succ k =>
      have := ih k (by simpa using h)
      simp only [List.take_succ_cons, lenI, List.getElem_cons_succ]
      omega
theorem joinL_len (ts : List (List UInt8)) : (joinL ts).length ≤ lenI ts := by
  cases ts with
  | nil => simp [joinL, lenI]
  | cons t r =>
    have hd : ∀ us : List (List UInt8), (dotted us).length = lenI us := by
      intro us
      induction us with
      | nil => rfl
      | cons u v ih => simp only [dotted, List.flatMap_cons, List.length_append, List.length_cons, lenI] at ih ⊢; omega
    simp only [joinL, List.length_append, lenI, hd]
    omega
theorem lenI_take_le (ts : List (List UInt8)) : ∀ k, lenI (ts.take k) ≤ lenI ts := by
  induction ts with
  | nil => intro k; simp
  | cons t r ih =>
    intro k
    cases k with
    | zero => simp [lenI]
    | succ k => simp only [List.take_succ_cons, lenI]; have := ih k; omega
theorem cell_lt {W : World} {a : Addr} {v : Value} (h : W.cell? a = some v) : a.block < W.heap.size := by
  unfold World.cell? at h
  cases hb : W.heap[a.block]? with
  | none => rw [hb] at h; simp at h
  | some o => exact (Array.getElem?_eq_some_iff.1 hb).1
theorem lenI_ge : ∀ ts : List (List UInt8), ts.length ≤ lenI ts ∧ ∀ t ∈ ts, t.length ≤ lenI ts
  | [] => by simp [lenI]
  | t :: r => by
    have ih := lenI_ge r
    refine ⟨by simp only [List.length_cons, lenI]; omega, fun u hu => ?_⟩
    rcases List.mem_cons.1 hu with rfl | hu
    · simp only [lenI]; omega
    · have := ih.2 u hu; simp only [lenI]; omega
theorem txt_nil (W : World) : Txt W (.slice none 0 0) [] := ⟨none, 0, rfl, .inl rfl⟩

end Go.Proofs.YtpedljmpobhimaaGreatDoor
