/- The document's parse: the walk. -/
import Derived.Test.YtpdlgiioahjhiaaGreatPJoin
import Derived.Test.YtpdlgiioahjhiaaGreatPRe
namespace Go.Proofs.YtpdlgiioahjhiaaGreat
open Go.RowKit Go.Shelf
open Go renaming World → QW
set_option linter.unusedVariables false
structure PM (w W : QW) (s : QY) (x : Nat × Int) (v : Array Value) : Prop where
 below : Below w.heap.size w W
 res : W.heap[w.heap.size]? = some (.cells #[.string ⟨#[]⟩, .string ⟨#[]⟩, .string ⟨#[]⟩, .slice none 0 0, .slice none 0 0] 33 (0, 0))
 rd : RdAt W (w.heap.size + 1) s x.1 x.2
 ver : W.heap[w.heap.size + 1 + 1]? = some (.cells v 33 (0, 0))
theorem PM.turn {w W W' : QW} {s : QY} {x x' : Nat × Int} {v : Array Value} (h : PM w W s x v) (t : Turn (w.heap.size + 1) W W') (r : RdAt W' (w.heap.size + 1) s x'.1 x'.2) : PM w W' s x' v := by
 have h2 := (Array.getElem?_eq_some_iff.1 h.ver).1;exact ⟨h.below.trans (t.below (by omega) h.below.size), (t.block _ (by omega) (by omega)).trans h.res, r, (t.block _ h2 (by omega)).trans h.ver⟩
theorem PM.drewN {w W : QW} {s : QY} {x : Nat × Int} {v : Array Value} (h : PM w W s x v) (n : Nat) : PM w (W.drewN n) s x v := h.turn (Turn.drewN _ _ n) (h.rd.drewN n)
theorem PM.put {w W : QW} {s : QY} {x : Nat × Int} {v : Array Value} (h : PM w W s x v) (o : Nat) (u : Value) : PM w (W.setCell ⟨w.heap.size + 1 + 1, o, none⟩ u) s x (v.setIfInBounds o u) :=
 ⟨h.below.setCell (p := ⟨w.heap.size + 1 + 1, o, none⟩) (by simp only; omega) u, (Below.heap_setCell _ _ _ _ (by simp only; omega)).trans h.res, (Below.heap_setCell _ _ _ _ (by simp only; omega)).trans h.rd, qv o u h.ver⟩
theorem PM.step {w W : QW} {s : QY} {a : Nat} {e : Int} {v : Array Value} (h : PM w W s (a, e) v) : PM w (W.setCell ⟨w.heap.size + 1, 1, none⟩ (.int .i64 ((a : Int) + 1))) s (a + 1, e) v :=
 h.turn (Turn.set _ _ _ _) (x' := (a + 1, e)) h.rd.step
theorem qbqh (l : QB) (c : UInt8) (x : Nat × Int) (h : x.1 ≤ l.length) : (qjr l c x).1 ≤ l.length := by
 unfold qjr;split
 ·split
  ·rename_i h2;have := (List.getElem?_eq_some_iff.1 ((qbz l x.1 c).1 h2)).1;simp only; omega
  ·exact h
 ·exact h
theorem numR_le (l : QB) (a : Nat) (h : a ≤ l.length) : (∀ b, numR l a = .ok b → b ≤ l.length) ∧ (∀ y, numR l a = .error y → y.2 ≤ l.length) := by
 have hle := qtz 1 (l.drop a);rw [List.length_drop] at hle;unfold numR;constructor
 ·intro b hb;split at hb
  ·cases hb
  ·split at hb
   ·cases hb
   ·cases hb; omega
 ·intro y hy;split at hy
  ·cases hy; exact h
  ·split at hy
   ·cases hy; simp only; omega
   ·cases hy
theorem qbnp (l : QB) (x : Nat × Int) (h : x.1 ≤ l.length) : (numS l x).1 ≤ l.length := by
 have := numR_le l x.1 h;unfold numS;split
 ·cases hn : numR l x.1 with
  | ok b => exact this.1 b hn
  | error y => exact this.2 y hn
 ·exact h
theorem qbdz {l : QB} {a : Nat} {y : Int × Nat} (h : numR l a = .error y) : y.1 ≠ 0 := by
 unfold numR at h;split at h
 ·cases h; exact qch _ _
 ·split at h
  ·cases h; simp
  ·cases h
theorem qbqr {l : QB} {a : Nat} {y : Int × Nat} (h : dotR l a = .error y) : y.1 ≠ 0 := by
 unfold dotR at h;split at h
 ·cases h
 ·cases h; exact qch _ _
theorem qmr {l : QB} {a b : Nat} (h : numR l a = .ok b) : numS l (a, 0) = (b, 0) ∧ numT l (a, 0) = seg l a b := by unfold numS numT; rw [if_pos rfl, if_pos rfl, h]; exact ⟨rfl, rfl⟩
theorem qbfc {l : QB} {a : Nat} {y : Int × Nat} (h : numR l a = .error y) : numS l (a, 0) = (y.2, y.1) := by unfold numS; rw [if_pos rfl, h]
theorem qpc (l : QB) {p : Nat} {q : Int} (h : q ≠ 0) : numS l (p, q) = (p, q) := if_neg h
theorem qsg (l : QB) (c : UInt8) {p : Nat} {q : Int} (h : q ≠ 0) : qjr l c (p, q) = (p, q) := if_neg h
theorem qlk (l : QB) (a : Nat) : qjr l 46 (a, 0) = match dotR l a with | .ok b => (b, 0) | .error y => (y.2, y.1) := by
 unfold qjr dotR;rw [if_pos rfl]
 by_cases h : l[a]? = some 46
 ·rw [if_pos ((qbz l a 46).2 h), if_pos h]
 ·rw [if_neg (fun hh => h ((qbz l a 46).1 hh)), if_neg h]
def x1 (l : QB) : Nat × Int := numS l (0, 0)
def x2 (l : QB) : Nat × Int := qjr l 46 (x1 l)
def x3 (l : QB) : Nat × Int := numS l (x2 l)
def x4 (l : QB) : Nat × Int := qjr l 46 (x3 l)
def x5 (l : QB) : Nat × Int := numS l (x4 l)
theorem x5_ok {l : QB} {a b c d e : Nat} (h : qdp l = .ok (a, b, c, d, e)) : x5 l = (e, 0) ∧ numT l (0, 0) = seg l 0 a ∧ numT l (x2 l) = seg l b c ∧ numT l (x4 l) = seg l d e := by
 unfold qdp at h;cases h1 : numR l 0 with
 | error y => rw [h1] at h; cases h
 | ok a' =>
  rw [h1] at h; simp only at h;cases h2 : dotR l a' with
  | error y => rw [h2] at h; cases h
  | ok b' =>
   rw [h2] at h; simp only at h;cases h3 : numR l b' with
   | error y => rw [h3] at h; cases h
   | ok c' =>
    rw [h3] at h; simp only at h;cases h4 : dotR l c' with
    | error y => rw [h4] at h; cases h
    | ok d' =>
     rw [h4] at h; simp only at h;cases h5 : numR l d' with
     | error y => rw [h5] at h; cases h
     | ok e' =>
      rw [h5] at h; simp only at h;cases h;have e1 : x1 l = (a, 0) := (qmr h1).1;have e2 : x2 l = (b, 0) := by unfold x2; rw [e1, qlk, h2]
      have e3 : x3 l = (c, 0) := by unfold x3; rw [e2]; exact (qmr h3).1
      have e4 : x4 l = (d, 0) := by unfold x4; rw [e3, qlk, h4]
      refine ⟨?_, (qmr h1).2, ?_, ?_⟩
      ·unfold x5; rw [e4]; exact (qmr h5).1
      ·rw [e2]; exact (qmr h3).2
      ·rw [e4]; exact (qmr h5).2
theorem x5_err {l : QB} {y : Int × Nat} (h : qdp l = .error y) : x5 l = (y.2, y.1) ∧ y.1 ≠ 0 := by
 unfold qdp at h;cases h1 : numR l 0 with
 | error z =>
  rw [h1] at h; cases h;have hn := qbdz h1;have e1 : x1 l = (y.2, y.1) := qbfc h1;refine ⟨?_, hn⟩;unfold x5 x4 x3 x2;rw [e1, qsg _ _ hn, qpc _ hn, qsg _ _ hn, qpc _ hn]
 | ok a' =>
  have e1 : x1 l = (a', 0) := (qmr h1).1;rw [h1] at h; simp only at h;cases h2 : dotR l a' with
  | error z =>
   rw [h2] at h; cases h;have hn := qbqr h2;refine ⟨?_, hn⟩;unfold x5 x4 x3 x2;rw [e1, qlk, h2];simp only;rw [qpc _ hn, qsg _ _ hn, qpc _ hn]
  | ok b' =>
   have e2 : x2 l = (b', 0) := by unfold x2; rw [e1, qlk, h2]
   rw [h2] at h; simp only at h;cases h3 : numR l b' with
   | error z =>
    rw [h3] at h; cases h;have hn := qbdz h3;refine ⟨?_, hn⟩;unfold x5 x4 x3;rw [e2, qbfc h3, qsg _ _ hn, qpc _ hn]
   | ok c' =>
    have e3 : x3 l = (c', 0) := by unfold x3; rw [e2]; exact (qmr h3).1
    rw [h3] at h; simp only at h;cases h4 : dotR l c' with
    | error z =>
     rw [h4] at h; cases h;have hn := qbqr h4;refine ⟨?_, hn⟩;unfold x5 x4;rw [e3, qlk, h4];simp only;rw [qpc _ hn]
    | ok d' =>
     have e4 : x4 l = (d', 0) := by unfold x4; rw [e3, qlk, h4]
     rw [h4] at h; simp only at h;cases h5 : numR l d' with
     | error z =>
      rw [h5] at h; cases h;have hn := qbdz h5;refine ⟨?_, hn⟩;unfold x5;rw [e4, qbfc h5]
     | ok e' => rw [h5] at h; cases h
def SemF (n : Nat) (W : QW) (v : Value) (x : SemL) : Prop :=
 ∃ vp vb, v = .agg #[.string (qg x.maj), .string (qg x.min), .string (qg x.pat), vp, vb] ∧ Txt W vp x.pre ∧ Txt W vb x.bld ∧ qhm n vp ∧ qhm n vb
theorem SemF.toAt {n : Nat} {W : QW} {v : Value} {x : SemL} (h : SemF n W v x) : qfd W v x := by
 obtain ⟨vp, vb, h1, h2, h3, _⟩ := h;exact ⟨vp, vb, h1, h2, h3⟩
theorem qbjq {n : Nat} {W W' : QW} {v : Value} {ts : List QB} (h : Txt W v ts) (hf : qhm n v) (hk : ∀ j, n ≤ j → j < W.heap.size → W'.heap[j]? = W.heap[j]?) (hs : W.heap.size ≤ W'.heap.size) : Txt W' v ts := by
 obtain ⟨a, cap, hv, h0 | ⟨b, off, ha, hlt, hc⟩⟩ := h
 ·exact ⟨a, cap, hv, .inl h0⟩
 ·have hn := hf _ _ _ (by rw [hv, ha])
  exact ⟨a, cap, hv, .inr ⟨b, off, ha, Nat.lt_of_lt_of_le hlt hs, fun i hi => by rw [← hc i hi]; simp only [World.cell?]; rw [hk b hn hlt]⟩⟩
theorem SemF.young {n : Nat} {W W' : QW} {v : Value} {x : SemL} (h : SemF n W v x) (hk : ∀ j, n ≤ j → j < W.heap.size → W'.heap[j]? = W.heap[j]?) (hs : W.heap.size ≤ W'.heap.size) : SemF n W' v x := by
 obtain ⟨vp, vb, h1, h2, h3, h4, h5⟩ := h;exact ⟨vp, vb, h1, qbjq h2 h4 hk hs, qbjq h3 h5 hk hs, h4, h5⟩
theorem SemF.mono {n m : Nat} {W : QW} {v : Value} {x : SemL} (h : SemF n W v x) (hm : m ≤ n) : SemF m W v x := by
 obtain ⟨vp, vb, h1, h2, h3, h4, h5⟩ := h;exact ⟨vp, vb, h1, h2, h3, fun a i c e => Nat.le_trans hm (h4 a i c e), fun a i c e => Nat.le_trans hm (h5 a i c e)⟩
def qbdf (l : QB) (w : QW) (e : Ending) (w' : QW) : Prop :=
 Below w.heap.size w w' ∧ match qbf l with
 | .ok c => ∃ v, e = .returned (.tuple #[v, .int .i64 0, .int .i64 0]) ∧ SemF w.heap.size w' v (qcf l c)
 | .error y => e = .returned (.tuple #[semZ, .int .i64 y.1, .int .i64 (y.2 : Int)])
end Go.Proofs.YtpdlgiioahjhiaaGreat
