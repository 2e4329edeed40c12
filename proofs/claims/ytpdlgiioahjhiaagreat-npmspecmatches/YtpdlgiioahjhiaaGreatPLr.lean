/- Walks: the worlds of the document's partial. -/
import Derived.Test.YtpdlgiioahjhiaaGreatPLu
import Derived.Test.YtpdlgiioahjhiaaGreatPMa
import Derived.Test.YtpdlgiioahjhiaaGreatPLj
namespace Go.Proofs.YtpdlgiioahjhiaaGreat
open Go.RowKit Go.Shelf
set_option linter.unusedVariables false
set_option maxHeartbeats 1000000
set_option maxRecDepth 100000
structure RP (w W : World) (B : Nat) (s : QY) (b : Nat) (e : Int) (p : Nat) (x y z : QY) (v : Value) (n : Nat) : Prop where
 rd : NrAt W B s b e p
 res : W.heap[w.heap.size]? = some (.cells #[.string ⟨#[]⟩, .string ⟨#[]⟩, .string ⟨#[]⟩, .slice none 0 0, .int .i64 0] 123 (0, 0))
 par : W.heap[w.heap.size + 1]? = some (.cells #[.string x, .string y, .string z, v, .int .i64 (n : Int)] 123 (0, 0))
 trn : Turn B w W
 hB : B < w.heap.size
section
variable {w W W' : World} {B : Nat} {s : ByteArray} {b b' : Nat} {e e' : Int} {p : Nat} {x y z : ByteArray} {v : Value} {n : Nat}
theorem RP.lt (h : RP w W B s b e p x y z v n) : w.heap.size + 1 < W.heap.size := (Array.getElem?_eq_some_iff.1 h.par).1
theorem RP.turn (h : RP w W B s b e p x y z v n) (t : Turn B W W') (r : NrAt W' B s b' e' p) : RP w W' B s b' e' p x y z v n :=
 ⟨r, (t.block _ (by have := h.lt; omega) (by have := h.hB; omega)).trans h.res, (t.block _ h.lt (by have := h.hB; omega)).trans h.par, h.trn.trans t, h.hB⟩
theorem RP.drewN (h : RP w W B s b e p x y z v n) (k : Nat) : RP w (W.drewN k) B s b e p x y z v n := h.turn (Turn.drewN B W k) (h.rd.drewN k)
theorem RP.seen (h : RP w W B s b e p x y z v n) :
  (W.cell? ⟨B, 0, none⟩ = some (.string s) ∧ W.cell? ⟨B, 1, none⟩ = some (.int .i64 (b : Int)) ∧ W.cell? ⟨B, 2, none⟩ = some (.int .i64 e)) ∧
  (W.cell? ⟨w.heap.size + 1, 0, none⟩ = some (.string x) ∧ W.cell? ⟨w.heap.size + 1, 1, none⟩ = some (.string y) ∧ W.cell? ⟨w.heap.size + 1, 2, none⟩ = some (.string z) ∧ W.cell? ⟨w.heap.size + 1, 3, none⟩ = some v ∧ W.cell? ⟨w.heap.size + 1, 4, none⟩ = some (.int .i64 (n : Int))) ∧
  (W.frozen? ⟨w.heap.size + 1, 0, none⟩ = false ∧ W.frozen? ⟨w.heap.size + 1, 1, none⟩ = false ∧ W.frozen? ⟨w.heap.size + 1, 2, none⟩ = false ∧ W.frozen? ⟨w.heap.size + 1, 3, none⟩ = false ∧ W.frozen? ⟨w.heap.size + 1, 4, none⟩ = false) :=
 ⟨⟨h.rd.seen.1, h.rd.seen.2.1, h.rd.seen.2.2.1⟩, ⟨qd 0 h.par rfl, qd 1 h.par rfl, qd 2 h.par rfl, qd 3 h.par rfl, qd 4 h.par rfl⟩, qf 0 h.par, qf 1 h.par, qf 2 h.par, qf 3 h.par, qf 4 h.par⟩
theorem RP.resF (h : RP w W B s b e p x y z v n) :
  (W.cell? ⟨w.heap.size, 0, none⟩ = some (.string ⟨#[]⟩) ∧ W.cell? ⟨w.heap.size, 1, none⟩ = some (.string ⟨#[]⟩) ∧ W.cell? ⟨w.heap.size, 2, none⟩ = some (.string ⟨#[]⟩) ∧ W.cell? ⟨w.heap.size, 3, none⟩ = some (.slice none 0 0) ∧ W.cell? ⟨w.heap.size, 4, none⟩ = some (.int .i64 0)) ∧
  (W.frozen? ⟨w.heap.size, 0, none⟩ = false ∧ W.frozen? ⟨w.heap.size, 1, none⟩ = false ∧ W.frozen? ⟨w.heap.size, 2, none⟩ = false ∧ W.frozen? ⟨w.heap.size, 3, none⟩ = false ∧ W.frozen? ⟨w.heap.size, 4, none⟩ = false) :=
 ⟨⟨qd 0 h.res rfl, qd 1 h.res rfl, qd 2 h.res rfl, qd 3 h.res rfl, qd 4 h.res rfl⟩, qf 0 h.res, qf 1 h.res, qf 2 h.res, qf 3 h.res, qf 4 h.res⟩
theorem RP.set (h : RP w W B s b e p x y z v n) (o : Nat) (u : Value) (x' y' z' : QY) (v' : Value) (n' : Nat) (hc : (#[Value.string x, .string y, .string z, v, .int .i64 (n : Int)].setIfInBounds o u) = #[Value.string x', .string y', .string z', v', .int .i64 (n' : Int)]) :
  RP w (W.setCell ⟨w.heap.size + 1, o, none⟩ u) B s b e p x' y' z' v' n' := by
 have hl := h.lt;have hB := h.hB;refine ⟨(Below.heap_setCell _ _ _ _ (by simp; omega)).trans h.rd, (Below.heap_setCell _ _ _ _ (by simp)).trans h.res, ?_, ?_, hB⟩
 ·have := qv o u h.par;rw [hc] at this;exact this
 ·exact ⟨h.trn.os, h.trn.tape, h.trn.output, Nat.le_trans h.trn.size (Turn.set (w.heap.size + 1) o W u).size, fun k hk hn => (Below.heap_setCell _ _ _ k (by simp; omega)).trans (h.trn.block k hk hn)⟩
end
def pS (s : QY) (sg : List (Nat × Nat)) (i : Nat) : QY := match sg[i]? with | some x => s.extract x.1 x.2 | none => ⟨#[]⟩
theorem qbkn (s : QY) (sg : List (Nat × Nat)) (i : Nat) : pS s sg i = qg (segE s.data.toList sg i) := by
 unfold pS segE;cases sg[i]? with
 | none => rfl
 | some x => exact qbx s x.1 x.2
def PdP (s : QY) (a B : Nat) (w : World) (r : Ending) (w' : World) : Prop :=
 NrAt w' B s (rpD s.data.toList a).2.2.1 (rpD s.data.toList a).2.2.2 a ∧ Turn B w w' ∧
  ∃ x y z v n, r = .returned (.agg #[.string x, .string y, .string z, v, .int .i64 (n : Nat)]) ∧ (∃ b m c, v = .slice b m c) ∧
   ((rpD s.data.toList a).2.2.2 = 0 → x = pS s (rpD s.data.toList a).1 0 ∧ y = pS s (rpD s.data.toList a).1 1 ∧ z = pS s (rpD s.data.toList a).1 2 ∧ n = (rpD s.data.toList a).1.length ∧ Txt w' v (rpD s.data.toList a).2.1 ∧ qhm w.heap.size v ∧ Cap v)
theorem RP.start {w : World} {B : Nat} {s : QY} {a : Nat} {q : Int} (h : NrAt w B s a 0 q) : RP w (((w.setCell ⟨B, 3, none⟩ (.int .i64 (a : Int))).alloc (.cells #[.string ⟨#[]⟩, .string ⟨#[]⟩, .string ⟨#[]⟩, .slice none 0 0, .int .i64 0] 123)).alloc (.cells #[.string ⟨#[]⟩, .string ⟨#[]⟩, .string ⟨#[]⟩, .slice none 0 0, .int .i64 0] 123)) B s a 0 a ⟨#[]⟩ ⟨#[]⟩ ⟨#[]⟩ (.slice none 0 0) 0 := by
 have h1 : NrAt (w.setCell ⟨B, 3, none⟩ (.int .i64 (a : Int))) B s a 0 a := h.part a;have t1 := Turn.set B 3 w (.int .i64 (a : Int));have hsz : (w.setCell ⟨B, 3, none⟩ (.int .i64 (a : Int))).heap.size = w.heap.size := Array.size_modify;generalize w.setCell ⟨B, 3, none⟩ (.int .i64 (a : Int)) = w1 at *;refine ⟨(h1.alloc _).alloc _, ?_, ?_, (t1.alloc _).alloc _, h.lt⟩
 ·rw [← hsz];exact (Below.heap_alloc _ _ _ (by simp)).trans (World.alloc_heap_new w1 _)
 ·rw [← hsz];exact qkb w1 _ _
theorem qjq {R : Ending → World → Prop} (tmps : Array Value) (W : World) (B : Nat) (x y z : QY) (v : Value) (n : Int) (hv : ∃ a m c, v = .slice a m c)
  (h2 : tmps.getD 2 undef = .pointer (some ⟨B, 0, none⟩)) (e1 : W.heap[B]? = some (.cells #[.string x, .string y, .string z, v, .int .i64 n] 123 (0, 0)))
  (hR : R (.returned (.agg #[.string x, .string y, .string z, v, .int .i64 n])) W) : bodyPost Tryz.prog Tryz.f97 R .ret { tmps := tmps, defers := [] } W := by
 obtain ⟨pa, pn, pc, rfl⟩ := hv;have r0 := qd 0 e1 rfl;have r1 := qd 1 e1 rfl;have r2 := qd 2 e1 rfl;have r3 := qd 3 e1 rfl;have r4 := qd 4 e1 rfl;rw [Array.getD_eq_getD_getElem?] at h2;refine ⟨rfl, _, ?_, hR⟩;simp [results, Tryz.results97, go_sem, h2, r0, r1, r2, r3, r4]
 try rfl
theorem RP.fin {w W : World} {B : Nat} {s : QY} {b : Nat} {e : Int} {p : Nat} {x y z : QY} {v : Value} {n : Nat} (h : RP w W B s b e p x y z v n) (v0 v1 v2 v3 v4 : Value) :
  NrAt (((((W.setCell ⟨w.heap.size, 0, none⟩ v0).setCell ⟨w.heap.size, 1, none⟩ v1).setCell ⟨w.heap.size, 2, none⟩ v2).setCell ⟨w.heap.size, 3, none⟩ v3).setCell ⟨w.heap.size, 4, none⟩ v4) B s b e p ∧
  Turn B w (((((W.setCell ⟨w.heap.size, 0, none⟩ v0).setCell ⟨w.heap.size, 1, none⟩ v1).setCell ⟨w.heap.size, 2, none⟩ v2).setCell ⟨w.heap.size, 3, none⟩ v3).setCell ⟨w.heap.size, 4, none⟩ v4) ∧
  Turn w.heap.size W (((((W.setCell ⟨w.heap.size, 0, none⟩ v0).setCell ⟨w.heap.size, 1, none⟩ v1).setCell ⟨w.heap.size, 2, none⟩ v2).setCell ⟨w.heap.size, 3, none⟩ v3).setCell ⟨w.heap.size, 4, none⟩ v4) := by
 have t := (Turn.set w.heap.size 0 W v0).trans ((Turn.set w.heap.size 1 _ v1).trans ((Turn.set w.heap.size 2 _ v2).trans ((Turn.set w.heap.size 3 _ v3).trans (Turn.set w.heap.size 4 _ v4))));have hl := h.lt;have hB := h.hB;generalize ((((W.setCell ⟨w.heap.size, 0, none⟩ v0).setCell ⟨w.heap.size, 1, none⟩ v1).setCell ⟨w.heap.size, 2, none⟩ v2).setCell ⟨w.heap.size, 3, none⟩ v3).setCell ⟨w.heap.size, 4, none⟩ v4 = W' at *;exact ⟨(t.block B (by omega) (by omega)).trans h.rd, ⟨t.os.trans h.trn.os, t.tape.trans h.trn.tape, t.output.trans h.trn.output, Nat.le_trans h.trn.size t.size, fun k hk hn => (t.block k (by omega) (by omega)).trans (h.trn.block k hk hn)⟩, t⟩
section
variable {l : List UInt8} {p k i b : Nat} {sg : List (Nat × Nat)}
theorem qhs (h : (npD l p b).2.2 ≠ 0) : rnD l p k i b sg = .error ((npD l p b).1, (npD l p b).2.2) := by cases k <;> (rw [rnD, if_pos h])
theorem qbbf {c : Nat} {o : Bool} (h : npD l p b = (c, o, 0)) : rnD l p 0 i b sg = .ok (addS sg i o b c, c) := by rw [rnD, h, if_neg (by simp)]
theorem qpd {c : Nat} {o : Bool} (h : npD l p b = (c, o, 0)) (hd : atB l c 46 = false) : rnD l p (k + 1) i b sg = .ok (addS sg i o b c, c) := by
 rw [rnD, h, if_neg (by simp), if_neg (fun x => by rw [(qbz l c 46).2 x] at hd; cases hd)]
theorem qpk {c : Nat} {o : Bool} (h : npD l p b = (c, o, 0)) (hd : atB l c 46 = true) (hL : p + 48 ≤ c) : rnD l p (k + 1) i b sg = .error (c, 12) := by
 rw [rnD, h, if_neg (by simp), if_pos ((qbz l c 46).1 hd), if_pos hL]
theorem qnt {c : Nat} {o : Bool} (h : npD l p b = (c, o, 0)) (hd : atB l c 46 = true) (hL : c < p + 48) : rnD l p (k + 1) i b sg = rnD l p k (i + 1) (c + 1) (addS sg i o b c) := by
 rw [rnD, h, if_neg (by simp), if_pos ((qbz l c 46).1 hd), if_neg (by dsimp only; omega)]
end
theorem qbbj (s : QY) (b : Nat) (h : b < s.size) : s.data.toList[b]? = some s[b] := by
 rw [List.getElem?_eq_getElem (by rw [qh]; exact h)]
 rfl
theorem qbmd (s : QY) (p b : Nat) (h : s.size ≤ b) : npD s.data.toList p b = (b, false, misL s.size b) := by
 unfold npD;rw [List.getElem?_eq_none (by rw [qh]; exact h), qkj 1 s b h, if_neg (by simp), if_pos rfl, qh]
theorem qbdg (s : QY) (p b : Nat) (h : b < s.size) (h1 : isC (s[b].toNat : Int) 1 = false) (h2 : opB s[b] = false) : npD s.data.toList p b = (b, false, misL s.size b) := by
 unfold npD;rw [qbbj s b h, qhl 1 s b h h1, if_neg (by rw [Option.map_some, show qkh s[b] = opB s[b] from rfl, h2]; simp), if_pos rfl, qh]
theorem qbbb (s : QY) (p b : Nat) (h : b < s.size) (h2 : opB s[b] = true) : npD s.data.toList p b = if p + 48 ≤ b then (b, true, 12) else (b + 1, true, 0) := by
 unfold npD;rw [qbbj s b h, if_pos (by rw [Option.map_some]; exact h2)]
theorem qbkc (s : QY) (p b : Nat) (h : b < s.size) (h1 : isC (s[b].toNat : Int) 1 = true) : npD s.data.toList p b = ((numN s.data.toList p b).1, false, (numN s.data.toList p b).2) := by
 unfold npD;have h2 := (qqc s[b] h1).1;have h3 := qjm 1 s b h h1;rw [qbbj s b h, if_neg (by rw [Option.map_some, h2]; simp), if_neg (by omega)]
theorem qbcc {sg : List (Nat × Nat)} {i a e : Nat} (h : sg.length = i) : addS sg i false a e = sg ++ [(a, e)] := by unfold addS; rw [h]; simp
theorem qwg {sg : List (Nat × Nat)} {i a e : Nat} (h : ¬ sg.length = i) (o : Bool) : addS sg i o a e = sg := by unfold addS; cases o <;> simp [h]
theorem qvt {sg : List (Nat × Nat)} {i a e : Nat} : addS sg i true a e = sg := by unfold addS; simp
theorem qbkv (s : QY) (p b : Nat) (hb : b ≤ s.size) (hp : b ≤ p + 48) : (numN s.data.toList p b).1 ≤ s.size ∧ (numN s.data.toList p b).1 ≤ p + 48 := by
 have := qjn 1 s b hb;unfold numN;split
 ·exact ⟨hb, hp⟩
 ·split
  ·exact ⟨hb, hp⟩
  ·split
   ·refine ⟨?_, ?_⟩ <;> (dsimp only; omega)
   ·split
    ·refine ⟨?_, ?_⟩ <;> (dsimp only; omega)
    ·refine ⟨?_, ?_⟩ <;> (dsimp only; omega)
theorem qbwv (s : QY) (sg : List (Nat × Nat)) (a e i : Nat) (h : i < sg.length) : pS s (sg ++ [(a, e)]) i = pS s sg i := by unfold pS; rw [List.getElem?_append_left h]
theorem qbvx (s : QY) (sg : List (Nat × Nat)) (a e : Nat) : pS s (sg ++ [(a, e)]) sg.length = s.extract a e := by unfold pS; rw [List.getElem?_append_right (Nat.le_refl _), Nat.sub_self]; rfl
theorem qvz (s : QY) (sg : List (Nat × Nat)) (i : Nat) (h : sg.length ≤ i) : pS s sg i = ⟨#[]⟩ := by unfold pS; rw [List.getElem?_eq_none h]
def RQ (w W : World) (B : Nat) (s : QY) (b : Nat) (e : Int) (p : Nat) (sg : List (Nat × Nat)) : Prop := RP w W B s b e p (pS s sg 0) (pS s sg 1) (pS s sg 2) (.slice none 0 0) sg.length
theorem qgt {s : QY} {a B : Nat} {w W : World} {b : Nat} {e : Int} {sg : List (Nat × Nat)} {pr : List QB} {x y z : QY} {v : Value} {n : Nat} (hq : rpD s.data.toList a = (sg, pr, b, e)) (h : NrAt W B s b e a) (t : Turn B w W) (hv : ∃ b m c, v = .slice b m c)
  (hx : e = 0 → x = pS s sg 0 ∧ y = pS s sg 1 ∧ z = pS s sg 2 ∧ n = sg.length ∧ Txt W v pr ∧ qhm w.heap.size v ∧ Cap v) : PdP s a B w (.returned (.agg #[.string x, .string y, .string z, v, .int .i64 (n : Int)])) W := by
 unfold PdP;rw [hq];exact ⟨h, t, x, y, z, v, n, rfl, hv, hx⟩
theorem qfz : ∃ b m c, (Value.slice none 0 0) = .slice b m c := ⟨_, _, _, rfl⟩
theorem qwl (n : Nat) : qhm n (.slice none 0 0) := by rintro a i c h; cases h
theorem qzs : Cap (.slice none 0 0) := by rintro a n c h; cases h; exact Nat.le_refl _
theorem qqw (pre : Bool) (B : Nat) (s : QY) (a : Nat) (e p : Int) (he : e ≠ 0) (w : World) (h : NrAt w B s a e p) :
  Calls Tryz.prog 130 #[.pointer (some ⟨B, 0, none⟩), .bool pre] w fun r w' => r = .returned (.slice none 0 0) ∧ w' = w := by
 obtain ⟨c0, c1, c2, c3, f1, f2, f3⟩ := h.seen;have hb : (e == 0) = false := by simpa using he
 have hb2 : decide (e = 0) = false := decide_eq_false he;clear he;go_enter Tryz.func130, Tryz.ntmps130
 (go_wp2_with fail);go_loopw [5] (fun v wr => v = .slice none 0 0 ∧ wr = w) (fun _ _ => 0)
 case atStart => exact ⟨rfl, rfl⟩
 case round =>
  obtain ⟨rfl, rfl⟩ := hrel;(go_wp2_with fail);go_ret
  exact ⟨rfl, rfl⟩
end Go.Proofs.YtpdlgiioahjhiaaGreat
