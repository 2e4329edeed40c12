/-
  The document's reader: what lies in memory while it reads; its small walks. · The document's reader: digits, numbers, one byte. · The document's reader: a byte that must stand, a number. · The document's reader: identifiers with dots between.
-/
import Derived.Test.YtplbdciikkpjoaaZFd
import Derived.Deep.QuietTactic
import Derived.BigQuiet
import Derived.StillTailTactics
namespace Go.Proofs.Ytplbdciikkpjoaa
open Go.RowKit Go.Shelf
set_option linter.unusedVariables false

/-- One block may have turned, and new ones may lie; all else is as it was. -/
structure Turn (B : Nat) (w w' : World) : Prop where
  os : w'.os = w.os
  tape : w'.tape = w.tape
  output : w'.output = w.output
  size : w.heap.size ≤ w'.heap.size
  block : ∀ k, k < w.heap.size → k ≠ B → w'.heap[k]? = w.heap[k]?
theorem Turn.refl (B : Nat) (w : World) : Turn B w w := ⟨rfl, rfl, rfl, Nat.le_refl _, fun _ _ _ => rfl⟩
theorem Turn.trans {B : Nat} {a b c : World} (h : Turn B a b) (k : Turn B b c) : Turn B a c :=
  ⟨k.os.trans h.os, k.tape.trans h.tape, k.output.trans h.output, Nat.le_trans h.size k.size, fun i hi hn => (k.block i (Nat.lt_of_lt_of_le hi h.size) hn).trans (h.block i hi hn)⟩
theorem Turn.ofBelow {B : Nat} {w w' : World} (h : Below w.heap.size w w') : Turn B w w' := ⟨h.os, h.tape, h.output, h.size, fun k hk _ => h.block k hk⟩
theorem Turn.below {B n : Nat} {w w' : World} (h : Turn B w w') (hn : n ≤ B) (hs : n ≤ w.heap.size) : Below n w w' := ⟨h.os, h.tape, h.output, h.size, fun k hk => h.block k (Nat.lt_of_lt_of_le hk hs) (by omega)⟩
theorem Turn.set (B o : Nat) (w : World) (v : Value) : Turn B w (w.setCell ⟨B, o, none⟩ v) :=
  ⟨rfl, rfl, rfl, by rw [show (w.setCell ⟨B, o, none⟩ v).heap.size = w.heap.size from Array.size_modify]; exact Nat.le_refl _, fun k _ hn => Below.heap_setCell _ _ _ k hn⟩
theorem Turn.drewN (B : Nat) (w : World) : ∀ n, Turn B w (w.drewN n)
  | 0 => Turn.refl B w
  | n + 1 => by
    have h := Turn.drewN B w.drew n
    exact ⟨h.os, h.tape, h.output, h.size, h.block⟩
theorem heap_drewN (w : World) : ∀ n, (w.drewN n).heap = w.heap
  | 0 => rfl
  | n + 1 => heap_drewN w.drew n
theorem below_drewN (k : Nat) (w : World) (n : Nat) : Below k w (w.drewN n) := by
  have h := Turn.drewN 0 w n
  exact ⟨h.os, h.tape, h.output, h.size, fun j _ => by rw [heap_drewN]⟩

/-- The first error stays. -/
def rerr (e x : Int) : Int := if e = 0 then x else e
theorem rerr_0 (x : Int) : rerr 0 x = x := if_pos rfl
theorem rerr_n {e : Int} (x : Int) (h : e ≠ 0) : rerr e x = e := if_neg h

end Go.Proofs.Ytplbdciikkpjoaa

namespace Go.Proofs.Ytplbdciikkpjoaa
open Go.RowKit Go.Shelf
set_option linter.unusedVariables false

/-- Does a byte stand at a place? -/
def atB (l : List UInt8) (a : Nat) (c : UInt8) : Bool := l[a]? == some c
theorem atB_in (s : ByteArray) (a : Nat) (c : UInt8) (h : a < s.size) : atB s.data.toList a c = decide ((s[a].toNat : Int) = (c.toNat : Int)) := by
  have hg : s.data.toList[a]? = some s[a] := by rw [List.getElem?_eq_getElem (by rw [len_data]; exact h)]; rfl
  unfold atB
  rw [hg, Bool.eq_iff_iff]
  simp only [beq_iff_eq, Option.some.injEq, decide_eq_true_eq]
  exact ⟨fun h => by rw [h], fun h => UInt8.toNat_inj.1 (by omega)⟩
theorem atB_out (s : ByteArray) (a : Nat) (c : UInt8) (h : ¬ a < s.size) : atB s.data.toList a c = false := by
  unfold atB
  rw [List.getElem?_eq_none (by rw [len_data]; omega)]
  rfl

end Go.Proofs.Ytplbdciikkpjoaa

namespace Go.Proofs.Ytplbdciikkpjoaa
open Go.RowKit Go.Shelf
set_option linter.unusedVariables false

/-- The reader behind a byte that must stand: its place and its error. -/
def byteS (l : List UInt8) (c : UInt8) (x : Nat × Int) : Nat × Int := if x.2 = 0 then (if atB l x.1 c then (x.1 + 1, 0) else (x.1, misL l.length x.1)) else x
/-- The reader behind a number. -/
def numS (l : List UInt8) (x : Nat × Int) : Nat × Int := if x.2 = 0 then (match numR l x.1 with | .ok a => (a, 0) | .error y => (y.2, y.1)) else x
/-- The number that is read. -/
def numT (l : List UInt8) (x : Nat × Int) : List UInt8 := if x.2 = 0 then (match numR l x.1 with | .ok a => seg l x.1 a | .error _ => []) else []

theorem run_take (k : Int) : ∀ m : List UInt8, runL k (m.take (runL k m)) = runL k m
  | [] => rfl
  | c :: r => by
    by_cases hc : isC (c.toNat : Int) k = true
    · have e : runL k (c :: r) = runL k r + 1 := by rw [runL, if_pos hc]
      rw [e, List.take_succ_cons, runL, if_pos hc, run_take k r]
    · have e : runL k (c :: r) = 0 := by rw [runL, if_neg hc]
      rw [e, List.take_zero]; rfl
theorem seg_run (l : List UInt8) (a d : Nat) : seg l a (a + d) = (l.drop a).take d := by
  unfold seg
  rw [List.drop_take]
  congr 1
  omega
theorem zero_run (l : List UInt8) (a : Nat) (h1 : 0 < runL 1 (l.drop a)) : zeroB (seg l a (a + runL 1 (l.drop a))) = (decide (1 < runL 1 (l.drop a)) && (l[a]? == some 48)) := by
  have hle := runL_le 1 (l.drop a)
  have hr := run_take 1 (l.drop a)
  rw [seg_run]
  have hlen : ((l.drop a).take (runL 1 (l.drop a))).length = runL 1 (l.drop a) := by rw [List.length_take]; omega
  have hd : digB ((l.drop a).take (runL 1 (l.drop a))) = true := by
    unfold digB
    rw [hr, hlen]
    cases hx : (l.drop a).take (runL 1 (l.drop a)) with
    | nil => rw [hx] at hlen; simp at hlen; omega
    | cons _ _ => simp
  have hh : ((l.drop a).take (runL 1 (l.drop a))).head? = l[a]? := by
    rw [List.head?_take, if_neg (by omega), List.head?_drop]
  unfold zeroB
  rw [hd, hlen, hh, Bool.and_true]
theorem numR_none (l : List UInt8) (a : Nat) (h : runL 1 (l.drop a) = 0) : numR l a = .error (misL l.length a, a) := by unfold numR; rw [if_pos h]
theorem numR_zero (l : List UInt8) (a : Nat) (h2 : 2 ≤ runL 1 (l.drop a)) (h0 : l[a]? = some 48) : numR l a = .error (14, a + 1) := by
  unfold numR
  rw [if_neg (by omega), zero_run l a (by omega), if_pos (by simp [h0]; omega)]
theorem numR_ok (l : List UInt8) (a : Nat) (h1 : 0 < runL 1 (l.drop a)) (h : 2 ≤ runL 1 (l.drop a) → ¬ l[a]? = some 48) : numR l a = .ok (a + runL 1 (l.drop a)) := by
  unfold numR
  rw [if_neg (by omega), zero_run l a h1, if_neg]
  intro hc
  simp only [Bool.and_eq_true, decide_eq_true_eq, beq_iff_eq] at hc
  exact h hc.1 hc.2
theorem byte_48 (s : ByteArray) (a : Nat) (h : a < s.size) : (s.data.toList[a]? = some 48) ↔ (s[a].toNat : Int) = 48 := by
  have hg : s.data.toList[a]? = some s[a] := by rw [List.getElem?_eq_getElem (by rw [len_data]; exact h)]; rfl
  rw [hg, Option.some.injEq]
  exact ⟨fun h => by rw [h]; rfl, fun h => UInt8.toNat_inj.1 (by have : s[a].toNat = 48 := by omega
                                                                 rw [this]; rfl)⟩

theorem seg_self (l : List UInt8) (a : Nat) : seg l a a = [] := by unfold seg; rw [List.drop_eq_nil_iff, List.length_take]; omega

/-- The place, as a measure. -/
def rplace (W : World) (B : Nat) : Nat := (intOf ((W.cell? ⟨B, 1, none⟩).getD (.int .i64 0))).toNat
end Go.Proofs.Ytplbdciikkpjoaa

namespace Go.Proofs.Ytplbdciikkpjoaa
open Go.RowKit Go.Shelf
set_option linter.unusedVariables false

theorem Turn.grown {B : Nat} {w w' : World} (h : Turn B w w') : w.grownBy w' (some B) := ⟨h.os, h.tape, h.output, h.size, fun k hk hn => h.block k hk (fun e => hn (by rw [e]))⟩
theorem Turn.ofGrown {B n : Nat} {w w' : World} {row : Option Nat} (h : w.grownBy w' row) (hn : n ≤ w.heap.size) (hr : ∀ k, row = some k → n ≤ k) : Below n w w' := (Below.refl n w).grown h hn hr
theorem own_turn {B : Nat} {w w' : World} {base : Nat} {e : TypeId} {size : Nat} {v : Value} {n : Nat} {xs : List Value} (h : w.ownsRow base e size v n xs) (ht : Turn B w w') (hB : B < base) : w'.ownsRow base e size v n xs := by
  refine h.kept ht.grown ?_
  cases ho : v.ownBlock with
  | none => exact .inl rfl
  | some k => exact .inr (fun e => by have := (h.lt k ho).1; injection e with e; omega)

theorem misL_ne (n a : Nat) : misL n a ≠ 0 := by unfold misL; split <;> decide

theorem atB_iff (l : List UInt8) (a : Nat) (c : UInt8) : atB l a c = true ↔ l[a]? = some c := by unfold atB; simp

/-- An identifier that may not stand: the error. -/
theorem ids_none (p : Bool) (l : List UInt8) (a k : Nat) (done : List (Nat × Nat)) (hd : done ++ segs l k = segs l a) (hb : badOf p l done = none) (he : k + idL (l.drop k) = k) : idsR p l a = .error (misL l.length k, k) := by
  have hw : wrongL p l (seg l (k, k).1 (k, k).2) (k, k).2 = misL l.length k := by
    unfold wrongL; rw [if_pos (seg_self l k)]
  have := idsR_bad p l a done (k, k) hb (by rw [hw]; exact misL_ne _ _) (by
    refine ⟨(segs l k).tail, ?_⟩
    rw [← hd, List.append_assoc]
    congr 1
    by_cases h : l[k]? = some 46
    · rw [segs_dot l k k he h]; rfl
    · rw [segs_last l k k he h]; rfl)
  rw [hw] at this
  exact this
theorem ids_bad (l : List UInt8) (a k j : Nat) (done : List (Nat × Nat)) (hd : done ++ segs l k = segs l a) (hb : badOf true l done = none) (he : k + idL (l.drop k) = j) (hne : seg l k j ≠ []) (hz : zeroB (seg l k j) = true) :
    idsR true l a = .error (if atB l j 46 || atB l j 43 then 14 else misL l.length j, j) := by
  have hw : wrongL true l (seg l (k, j).1 (k, j).2) (k, j).2 = if atB l j 46 || atB l j 43 then 14 else misL l.length j := by
    unfold wrongL
    rw [if_neg hne, if_neg (by simp [hz])]
    simp only [Bool.or_eq_true, atB_iff]
  have := idsR_bad true l a done (k, j) hb (by
    rw [hw]
    split
    · decide
    · exact misL_ne _ _) (by
    refine ⟨(segs l k).tail, ?_⟩
    rw [← hd, List.append_assoc]
    congr 1
    by_cases h : l[j]? = some 46
    · rw [segs_dot l k j he h]; rfl
    · rw [segs_last l k j he h]; rfl)
  rw [hw] at this
  exact this
theorem ids_good (p : Bool) (l : List UInt8) (k j : Nat) (hne : seg l k j ≠ []) (hz : (p && zeroB (seg l k j)) = false) : wrongL p l (seg l k j) j = 0 := by
  unfold wrongL
  rw [if_neg hne, if_pos]
  cases p <;> simp_all
theorem bad_snoc (p : Bool) (l : List UInt8) (k j : Nat) (done : List (Nat × Nat)) (hb : badOf p l done = none) (hw : wrongL p l (seg l k j) j = 0) : badOf p l (done ++ [(k, j)]) = none := by
  rw [badOf_app p l done _ hb, badOf, if_pos hw]; rfl
theorem ids_last (p : Bool) (l : List UInt8) (a k j : Nat) (done : List (Nat × Nat)) (hd : done ++ segs l k = segs l a) (hb : badOf p l (done ++ [(k, j)]) = none) (he : k + idL (l.drop k) = j) (hn : atB l j 46 = false) : idsR p l a = .ok (done ++ [(k, j)], j) := by
  have hn' : ¬ l[j]? = some 46 := fun h => by rw [(atB_iff l j 46).2 h] at hn; cases hn
  rw [segs_last l k j he hn'] at hd
  rw [idsR_ok p l a (by rw [← hd]; exact hb), ← hd, lastE_snoc]
theorem ids_next (l : List UInt8) (a k j : Nat) (done : List (Nat × Nat)) (hd : done ++ segs l k = segs l a) (he : k + idL (l.drop k) = j) (hn : atB l j 46 = true) : (done ++ [(k, j)]) ++ segs l (j + 1) = segs l a := by
  rw [segs_dot l k j he ((atB_iff l j 46).1 hn)] at hd
  rw [← hd]; simp
theorem seg_ne (s : ByteArray) (k j : Nat) (h : k < j) (hj : j ≤ s.size) : seg s.data.toList k j ≠ [] := by
  intro h0
  have := seg_len s.data.toList k j (by rw [len_data]; exact hj)
  rw [h0] at this
  simp at this
  omega

end Go.Proofs.Ytplbdciikkpjoaa
