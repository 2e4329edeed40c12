/-
  The document's reader: identifiers with dots between: the walk. · The document's parse: the walk.
-/
import Derived.Test.YtplbdciikkpjoaaZRd
import Derived.Deep.RegionHeld3
import Derived.Deep.AppendLies
import Derived.Test.YtplbdciikkpjoaaZSg
namespace Go.Proofs.Ytplbdciikkpjoaa
open Go.RowKit Go.Shelf
set_option linter.unusedVariables false

theorem Turn.alloc {B : Nat} {w W : World} (h : Turn B w W) (o : Obj) : Turn B w (W.alloc o) := h.trans (Turn.ofBelow ((Below.refl _ W).alloc (Nat.le_refl _) o))
theorem turn_grown {B : Nat} {w W W' : World} {row : Option Nat} (h : Turn B w W) (hg : W.grownBy W' row) (hr : ∀ k, row = some k → w.heap.size ≤ k) : Turn B w W' :=
  ⟨hg.os.trans h.os, hg.tape.trans h.tape, hg.output.trans h.output, Nat.le_trans h.size hg.size, fun k hk hn => (hg.block k (Nat.lt_of_lt_of_le hk h.size) (fun e => by have := hr k e.symm; omega)).trans (h.block k hk hn)⟩
end Go.Proofs.Ytplbdciikkpjoaa

namespace Go.Proofs.Ytplbdciikkpjoaa
open Go.RowKit Go.Shelf
set_option linter.unusedVariables false

theorem byteS_le (l : List UInt8) (c : UInt8) (x : Nat × Int) (h : x.1 ≤ l.length) : (byteS l c x).1 ≤ l.length := by
  unfold byteS
  split
  · split
    · rename_i h2
      have := (List.getElem?_eq_some_iff.1 ((atB_iff l x.1 c).1 h2)).1
      simp only; omega
    · exact h
  · exact h
theorem numR_le (l : List UInt8) (a : Nat) (h : a ≤ l.length) : (∀ b, numR l a = .ok b → b ≤ l.length) ∧ (∀ y, numR l a = .error y → y.2 ≤ l.length) := by
  have hle := runL_le 1 (l.drop a)
  rw [List.length_drop] at hle
  unfold numR
  constructor
  · intro b hb
    split at hb
    · cases hb
    · split at hb
      · cases hb
      · cases hb; omega
  · intro y hy
    split at hy
    · cases hy; exact h
    · split at hy
      · cases hy; simp only; omega
      · cases hy
theorem numS_le (l : List UInt8) (x : Nat × Int) (h : x.1 ≤ l.length) : (numS l x).1 ≤ l.length := by
  have := numR_le l x.1 h
  unfold numS
  split
  · cases hn : numR l x.1 with
    | ok b => exact this.1 b hn
    | error y => exact this.2 y hn
  · exact h
theorem numT_len (l : List UInt8) (x : Nat × Int) : (numT l x).length ≤ l.length := by
  unfold numT
  split
  · cases hn : numR l x.1 with
    | ok b => simp only [seg, List.length_drop, List.length_take]; omega
    | error y => simp
  · simp
theorem numR_err {l : List UInt8} {a : Nat} {y : Int × Nat} (h : numR l a = .error y) : y.1 ≠ 0 := by
  unfold numR at h
  split at h
  · cases h; exact misL_ne _ _
  · split at h
    · cases h; simp
    · cases h
theorem dotR_err {l : List UInt8} {a : Nat} {y : Int × Nat} (h : dotR l a = .error y) : y.1 ≠ 0 := by
  unfold dotR at h
  split at h
  · cases h
  · cases h; exact misL_ne _ _
theorem numS_ok {l : List UInt8} {a b : Nat} (h : numR l a = .ok b) : numS l (a, 0) = (b, 0) ∧ numT l (a, 0) = seg l a b := by unfold numS numT; rw [if_pos rfl, if_pos rfl, h]; exact ⟨rfl, rfl⟩
theorem numS_err {l : List UInt8} {a : Nat} {y : Int × Nat} (h : numR l a = .error y) : numS l (a, 0) = (y.2, y.1) := by unfold numS; rw [if_pos rfl, h]
theorem numS_bad (l : List UInt8) {p : Nat} {q : Int} (h : q ≠ 0) : numS l (p, q) = (p, q) := if_neg h
theorem byteS_bad (l : List UInt8) (c : UInt8) {p : Nat} {q : Int} (h : q ≠ 0) : byteS l c (p, q) = (p, q) := if_neg h
theorem byteS_dot (l : List UInt8) (a : Nat) : byteS l 46 (a, 0) = match dotR l a with | .ok b => (b, 0) | .error y => (y.2, y.1) := by
  unfold byteS dotR
  rw [if_pos rfl]
  by_cases h : l[a]? = some 46
  · rw [if_pos ((atB_iff l a 46).2 h), if_pos h]
  · rw [if_neg (fun hh => h ((atB_iff l a 46).1 hh)), if_neg h]

/-- The reader behind three numbers with dots between. -/
def x1 (l : List UInt8) : Nat × Int := numS l (0, 0)
def x2 (l : List UInt8) : Nat × Int := byteS l 46 (x1 l)
def x3 (l : List UInt8) : Nat × Int := numS l (x2 l)
def x4 (l : List UInt8) : Nat × Int := byteS l 46 (x3 l)
def x5 (l : List UInt8) : Nat × Int := numS l (x4 l)
theorem x5_ok {l : List UInt8} {a b c d e : Nat} (h : numsR l = .ok (a, b, c, d, e)) : x5 l = (e, 0) ∧ numT l (0, 0) = seg l 0 a ∧ numT l (x2 l) = seg l b c ∧ numT l (x4 l) = seg l d e := by
  unfold numsR at h
  cases h1 : numR l 0 with
  | error y => rw [h1] at h; cases h
  | ok a' =>
    rw [h1] at h; simp only at h
    cases h2 : dotR l a' with
    | error y => rw [h2] at h; cases h
    | ok b' =>
      rw [h2] at h; simp only at h
      cases h3 : numR l b' with
      | error y => rw [h3] at h; cases h
      | ok c' =>
        rw [h3] at h; simp only at h
        cases h4 : dotR l c' with
        | error y => rw [h4] at h; cases h
        | ok d' =>
          rw [h4] at h; simp only at h
          cases h5 : numR l d' with
          | error y => rw [h5] at h; cases h
          | ok e' =>
            rw [h5] at h; simp only at h
            cases h
            have e1 : x1 l = (a, 0) := (numS_ok h1).1
            have e2 : x2 l = (b, 0) := by unfold x2; rw [e1, byteS_dot, h2]
            have e3 : x3 l = (c, 0) := by unfold x3; rw [e2]; exact (numS_ok h3).1
            have e4 : x4 l = (d, 0) := by unfold x4; rw [e3, byteS_dot, h4]
            refine ⟨?_, (numS_ok h1).2, ?_, ?_⟩
            · unfold x5; rw [e4]; exact (numS_ok h5).1
            · rw [e2]; exact (numS_ok h3).2
            · rw [e4]; exact (numS_ok h5).2
theorem x5_err {l : List UInt8} {y : Int × Nat} (h : numsR l = .error y) : x5 l = (y.2, y.1) ∧ y.1 ≠ 0 := by
  unfold numsR at h
  cases h1 : numR l 0 with
  | error z =>
    rw [h1] at h; cases h
    have hn := numR_err h1
    have e1 : x1 l = (y.2, y.1) := numS_err h1
    refine ⟨?_, hn⟩
    unfold x5 x4 x3 x2
    rw [e1, byteS_bad _ _ hn, numS_bad _ hn, byteS_bad _ _ hn, numS_bad _ hn]
  | ok a' =>
    have e1 : x1 l = (a', 0) := (numS_ok h1).1
    rw [h1] at h; simp only at h
    cases h2 : dotR l a' with
    | error z =>
      rw [h2] at h; cases h
      have hn := dotR_err h2
      refine ⟨?_, hn⟩
      unfold x5 x4 x3 x2
      rw [e1, byteS_dot, h2]
      simp only
      rw [numS_bad _ hn, byteS_bad _ _ hn, numS_bad _ hn]
    | ok b' =>
      have e2 : x2 l = (b', 0) := by unfold x2; rw [e1, byteS_dot, h2]
      rw [h2] at h; simp only at h
      cases h3 : numR l b' with
      | error z =>
        rw [h3] at h; cases h
        have hn := numR_err h3
        refine ⟨?_, hn⟩
        unfold x5 x4 x3
        rw [e2, numS_err h3, byteS_bad _ _ hn, numS_bad _ hn]
      | ok c' =>
        have e3 : x3 l = (c', 0) := by unfold x3; rw [e2]; exact (numS_ok h3).1
        rw [h3] at h; simp only at h
        cases h4 : dotR l c' with
        | error z =>
          rw [h4] at h; cases h
          have hn := dotR_err h4
          refine ⟨?_, hn⟩
          unfold x5 x4
          rw [e3, byteS_dot, h4]
          simp only
          rw [numS_bad _ hn]
        | ok d' =>
          have e4 : x4 l = (d', 0) := by unfold x4; rw [e3, byteS_dot, h4]
          rw [h4] at h; simp only at h
          cases h5 : numR l d' with
          | error z =>
            rw [h5] at h; cases h
            have hn := numR_err h5
            refine ⟨?_, hn⟩
            unfold x5
            rw [e4, numS_err h5]
          | ok e' => rw [h5] at h; cases h

/-- A version whose lists lie in memory that is younger than a number of blocks. -/
def SemF (n : Nat) (W : World) (v : Value) (x : SemL) : Prop :=
  ∃ vp vb, v = .agg #[.string (ofL x.maj), .string (ofL x.min), .string (ofL x.pat), vp, vb] ∧ Txt W vp x.pre ∧ Txt W vb x.bld ∧ Fresh n vp ∧ Fresh n vb
theorem SemF.toAt {n : Nat} {W : World} {v : Value} {x : SemL} (h : SemF n W v x) : SemAt W v x := by
  obtain ⟨vp, vb, h1, h2, h3, _⟩ := h
  exact ⟨vp, vb, h1, h2, h3⟩
theorem txt_young {n : Nat} {W W' : World} {v : Value} {ts : List (List UInt8)} (h : Txt W v ts) (hf : Fresh n v) (hk : ∀ j, n ≤ j → j < W.heap.size → W'.heap[j]? = W.heap[j]?) (hs : W.heap.size ≤ W'.heap.size) : Txt W' v ts := by
  obtain ⟨a, cap, hv, h0 | ⟨b, off, ha, hlt, hc⟩⟩ := h
  · exact ⟨a, cap, hv, .inl h0⟩
  · have hn := hf _ _ _ (by rw [hv, ha])
    exact ⟨a, cap, hv, .inr ⟨b, off, ha, Nat.lt_of_lt_of_le hlt hs, fun i hi => by rw [← hc i hi]; simp only [World.cell?]; rw [hk b hn hlt]⟩⟩
theorem SemF.young {n : Nat} {W W' : World} {v : Value} {x : SemL} (h : SemF n W v x) (hk : ∀ j, n ≤ j → j < W.heap.size → W'.heap[j]? = W.heap[j]?) (hs : W.heap.size ≤ W'.heap.size) : SemF n W' v x := by
  obtain ⟨vp, vb, h1, h2, h3, h4, h5⟩ := h
  exact ⟨vp, vb, h1, txt_young h2 h4 hk hs, txt_young h3 h5 hk hs, h4, h5⟩
theorem SemF.mono {n m : Nat} {W : World} {v : Value} {x : SemL} (h : SemF n W v x) (hm : m ≤ n) : SemF m W v x := by
  obtain ⟨vp, vb, h1, h2, h3, h4, h5⟩ := h
  exact ⟨vp, vb, h1, h2, h3, fun a i c e => Nat.le_trans hm (h4 a i c e), fun a i c e => Nat.le_trans hm (h5 a i c e)⟩

/-- What the document's parse leaves. -/
def RPost (l : List UInt8) (w : World) (e : Ending) (w' : World) : Prop :=
  Below w.heap.size w w' ∧ match parseR l with
  | .ok c => ∃ v, e = .returned (.tuple #[v, .int .i64 0, .int .i64 0]) ∧ SemF w.heap.size w' v (semOf l c)
  | .error y => e = .returned (.tuple #[semZ, .int .i64 y.1, .int .i64 (y.2 : Int)])

end Go.Proofs.Ytplbdciikkpjoaa
