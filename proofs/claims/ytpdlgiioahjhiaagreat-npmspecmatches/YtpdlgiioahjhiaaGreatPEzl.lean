/- What Parse holds while it reads: the place, what is wrong, t -/
import Derived.Test.YtpdlgiioahjhiaaGreatPEzi
namespace Go.Proofs.YtpdlgiioahjhiaaGreat
open Go.RowKit Go.Shelf
set_option linter.unusedVariables false
set_option maxHeartbeats 4000000
set_option maxRecDepth 100000
def qxr (R : Int × Int × List (List Comp)) (w : World) (e : Ending) (w' : World) : Prop :=
 ∃ v, e = .returned (.tuple #[v, .agg #[.int .i64 R.1, .int .i64 R.2.1]]) ∧ qnp w' v R.2.2 ∧ Below w.heap.size w w'
def qbvp (l : List (List Comp)) : Prop := l.length ≤ 9000000000000000000 ∧ ∀ cs ∈ l, cs.length ≤ 9000000000000000000 ∧ ∀ c ∈ cs, qct c.2
theorem qbzw (PA : ∀ (s : QY) (w : World), Calls Tryz.prog 8 #[.string s] w (qxr (qbq s.data.toList) w)) (SH : ∀ l, qbvp (qbq l).2.2) (s : QY) (v : Value) (ts : List QB) (w : World) (hv : Txt w v ts) (hln : ts.length ≤ 9000000000000000000) :
  Calls Tryz.prog 19 #[.string s, v] w fun e w' => e = .returned (.tuple #[.string (qg (qht (qfj (qbq s.data.toList).2.2) ts).1), .bool (qht (qfj (qbq s.data.toList).2.2) ts).2]) ∧ Below w.heap.size w w' := by
 have PS := qb (PA s w);have hsh := SH s.data.toList;generalize qbq s.data.toList = R at *;obtain ⟨re, ra, l⟩ := R;dsimp only at *;have WC := qb (fun B v1 t W hb hs => qcbq l B v1 t W hb hs hsh.2 hsh.1);have HV := qb hv;have CT := qb (fun s t W => qbkf qvp s t W);obtain ⟨av, kv, rfl, _⟩ := id hv;clear hv hsh SH PA;unfold qxr at PS;go_enter Tryz.func19, Tryz.ntmps19
 (go_wp2_with fail);refine PS.out.mono ?_;rintro e w1 ⟨v1, rfl, hS, b1⟩;obtain ⟨a1, k1, rfl, _⟩ := id hS;dsimp only at *;have bb := ((Below.refl _ w1).alloc (Nat.le_refl _) (.cells #[.slice a1 l.length k1] 22)).alloc (by simp) (.cells #[.int .i64 re, .int .i64 ra] 25)
 have b2 := b1.trans (bb.mono b1.size);have hbx : Boxed ((w1.alloc (.cells #[.slice a1 l.length k1] 22)).alloc (.cells #[.int .i64 re, .int .i64 ra] 25)) w1.heap.size 22 (.slice a1 l.length k1) := (Below.heap_alloc _ _ _ (by simp)).trans (World.alloc_heap_new w1 _)
 have S2 := hS.below bb;have LA := qb (qbvm (qfj l) w1.heap.size ts (.slice av ts.length kv) _ (HV.out.below b2) hln (fun t W hW => WC.out w1.heap.size _ t W ((hW.block _ hbx.lt).trans hbx) (S2.below hW)) (fun s t W => CT.out s t W));have HB2 := qb b2;clear b1 bb b2 hbx S2 hS WC CT PS HV;obtain ⟨X, hX⟩ : ∃ X, qht (qfj l) ts = X := ⟨_, rfl⟩;rw [hX] at LA;have HX := qb hX;clear hX;obtain ⟨T, ok⟩ := X;dsimp only at LA;(go_wp2_with fail);refine LA.out.mono ?_;rintro e w3 ⟨rfl, b3⟩;(go_wp2_with fail);go_ret2
 exact ⟨by rw [HX.out]; rfl, HB2.out.trans (b3.mono HB2.out.size)⟩
theorem qbwj (p : QB → Bool) (t : QB) : (qht p [t]).2 = p t := by
 show (latF p ([], false) t).2 = p t;unfold latF;cases h : p t <;> simp
theorem Match_of (PA : ∀ (s : QY) (w : World), Calls Tryz.prog 8 #[.string s] w (qxr (qbq s.data.toList) w)) (SH : ∀ l, qbvp (qbq l).2.2) (s u : QY) (w : World) :
  Calls Tryz.prog 21 #[.string s, .string u] w fun e w' => e = .returned (.bool (qfj (qbq s.data.toList).2.2 u.data.toList)) ∧ Below w.heap.size w w' := by
 have bb := (Below.refl _ w).alloc (Nat.le_refl _) (.cells #[.string u] 9);have ht : Txt (w.alloc (.cells #[.string u] 9)) (.slice (some ⟨w.heap.size, 0, none⟩) 1 1) [u.data.toList] := by
  refine ⟨_, 1, rfl, .inr ⟨w.heap.size, 0, rfl, by simp, fun i hi => ?_⟩⟩
  have : i = 0 := by simpa using hi
  subst this;have h1 : (w.alloc (.cells #[.string u] 9)).cell? ⟨w.heap.size, 0, none⟩ = some (Value.string u) := qd 0 (World.alloc_heap_new w (.cells #[.string u] 9)) rfl;have h2 : qg u.data.toList = u := qgx u;show (w.alloc (.cells #[.string u] 9)).cell? ⟨w.heap.size, 0 + 0, none⟩ = some (Value.string (qg u.data.toList));rw [h2];exact h1
 have PK := qbzw PA SH s _ [u.data.toList] _ ht (by simp)
 rw [qbwj] at PK;have HP := qb PK;have HB := qb bb;clear PK ht bb PA SH;generalize qfj (qbq s.data.toList).2.2 u.data.toList = X at *;generalize (qht (qfj (qbq s.data.toList).2.2) [u.data.toList]).1 = T at *;go_enter Tryz.func21, Tryz.ntmps21
 (go_wp2_with fail);refine HP.out.mono ?_;rintro e w3 ⟨rfl, b3⟩;(go_wp2_with fail);go_ret
 exact ⟨by rfl, HB.out.trans (b3.mono HB.out.size)⟩
end Go.Proofs.YtpdlgiioahjhiaaGreat

namespace Go.Proofs.YtpdlgiioahjhiaaGreat
open Go.RowKit Go.Shelf
open _root_.Array renaming getElem?_eq_some_iff → qcgg
open Below renaming heap_setCell → qcgx
open Nat renaming le_trans → qcgs, lt_of_lt_of_le → qcgt
open Go renaming World → QW, Value → QV
set_option linter.unusedVariables false
def At (W : QW) (B : Nat) (o : Obj) : Prop := W.heap[B]? = some o
theorem At.lt {W : QW} {B : Nat} {o : Obj} (h : At W B o) : B < W.heap.size := (qcgg.1 h).1
theorem qnv (W : QW) (p : Addr) (v : QV) : (W.setCell p v).heap.size = W.heap.size := Array.size_modify
theorem set1 {W : QW} {B : Nat} {t : TypeId} {u : QV} (v : QV) (h : At W B (.cells #[u] t (0, 0))) : At (W.setCell ⟨B, 0, none⟩ v) B (.cells #[v] t (0, 0)) := qv 0 v h
theorem qwz {W W' : QW} (h : Below W.heap.size W W') : KeepsOthers W W' := KeepsOthers.of_grownBy (qjb h) (fun j o ej _ => by cases ej)
theorem qfh {A : Nat → Prop} {W W' : QW} (h : Below W.heap.size W W') : Keep A W W' := ⟨h.size, fun b cs t m _ hh => (h.block b (qcgg.1 hh).1).trans hh⟩
theorem qlz {A : Nat → Prop} (W : QW) (B : Nat) (v : QV) (h : ∀ b, A b → b ≠ B) : Keep A W (W.setCell ⟨B, 0, none⟩ v) := ⟨by rw [qnv]; exact Nat.le_refl _, fun b cs t m hb hh => (qcgx _ _ _ b (h b hb)).trans hh⟩
theorem qbpt {A : Nat → Prop} {B0 : Nat} {W W' : QW} {row : Option Nat} (hg : W.grownBy W' row) (hr : ∀ r, row = some r → B0 ≤ r ∧ ∃ o : Obj, W.heap[r]? = some o ∧ o.isCells = false) : Keep A W W' := by
 refine ⟨hg.size, fun b cs t m _ hh => (hg.block b (qcgg.1 hh).1 (fun e => ?_)).trans hh⟩;obtain ⟨_, o, ho, hc⟩ := hr b e.symm;rw [hh] at ho;cases ho;cases hc
theorem Keep.at_ {A : Nat → Prop} {W W' : QW} {B : Nat} {cs : Array QV} {t : TypeId} {m : Nat × Nat} (hk : Keep A W W') (hA : A B) (h : At W B (.cells cs t m)) : At W' B (.cells cs t m) := hk.2 _ _ _ _ hA h
theorem Keep.trans {A : Nat → Prop} {X Y Z : QW} (h : Keep A X Y) (k : Keep A Y Z) : Keep A X Z := ⟨qcgs h.1 k.1, fun b cs t m hb hh => k.2 b cs t m hb (h.2 b cs t m hb hh)⟩
structure PJ (w W1 : QW) (X : Nat) (cs : List Comp) (z e : Int) (W : QW) : Prop where
 pl : At W (w.heap.size + 1) (.cells #[.int .i64 z] 3 (0, 0))
 er : At W (w.heap.size + 1 + 1) (.cells #[.int .i64 e] 23 (0, 0))
 row : ∃ v xs, Boxed W X 39 v ∧ W.ownsRow W1.heap.size 35 6 v cs.length xs ∧ qbw (fun b => X < b ∧ v.ownBlock ≠ some b) W cs xs
 kp : ∀ k, k < W1.heap.size → k ≠ w.heap.size + 1 → k ≠ w.heap.size + 1 + 1 → k ≠ X → W.heap[k]? = W1.heap[k]?
 bel : Below w.heap.size w W
 sz : W1.heap.size ≤ W.heap.size
theorem PJ.own {w W1 : QW} {X : Nat} {cs : List Comp} {z e : Int} (hX : X < W1.heap.size) (hN : w.heap.size + 1 + 1 < X) : OwnFrom W1.heap.size (fun (_ : Unit) W => PJ w W1 X cs z e W) := by
 rintro u P Q row h hg hr;have K : Keep (fun _ => True) P Q := qbpt hg hr;obtain ⟨v, xs, h1, h2, h3⟩ := h.row;refine ⟨K.at_ trivial h.pl, K.at_ trivial h.er, ⟨v, xs, K.at_ trivial h1, qgq h2 K (fun _ _ => trivial), h3.keep ⟨K.1, fun b cs t m _ => K.2 b cs t m trivial⟩ (fun _ hb _ => hb)⟩, ?_, (ownFrom_below (β := Unit) (Nat.le_refl _) (by omega)) () P Q row h.bel hg hr, qcgs h.sz hg.size⟩
 intro k hk n1 n2 n3;exact (hg.block k (qcgt hk h.sz) (fun e => by have := (hr k e.symm).1; omega)).trans (h.kp k hk n1 n2 n3)
theorem PJ.next {w W1 W W' : QW} {X : Nat} {cs : List Comp} {z e : Int} (h : PJ w W1 X cs z e W) (hb : Below W.heap.size W W') : PJ w W1 X cs z e W' := by
 have K : Keep (fun _ => True) W W' := qfh hb;obtain ⟨v, xs, h1, h2, h3⟩ := h.row;exact ⟨K.at_ trivial h.pl, K.at_ trivial h.er, ⟨v, xs, K.at_ trivial h1, qgq h2 K (fun _ _ => trivial), h3.keep ⟨K.1, fun b cs t m _ => K.2 b cs t m trivial⟩ (fun _ hb _ => hb)⟩,
  fun k hk n1 n2 n3 => (hb.block k (qcgt hk h.sz)).trans (h.kp k hk n1 n2 n3), h.bel.trans (hb.mono h.bel.size), qcgs h.sz hb.size⟩
theorem PJ.place {w W1 W : QW} {X : Nat} {cs : List Comp} {z e : Int} (h : PJ w W1 X cs z e W) (hX : X < W1.heap.size) (hN : w.heap.size + 1 + 1 < X) (p : Int) : PJ w W1 X cs p e (W.setCell ⟨w.heap.size + 1, 0, none⟩ (.int .i64 p)) := by
 obtain ⟨v, xs, h1, h2, h3⟩ := h.row;exact ⟨set1 _ h.pl, (qcgx _ _ _ _ (by simp only; omega)).trans h.er, ⟨v, xs, (qcgx _ _ _ _ (by simp only; omega)).trans h1, ownsRow_setCell_below h2 (a := ⟨w.heap.size + 1, 0, none⟩) (by simp only; omega) _, h3.keep (qlz W _ _ (fun b hb => by have := hb.1; omega)) (fun _ hb _ => hb)⟩,
  fun k hk n1 n2 n3 => (qcgx _ _ _ _ (by simp only; omega)).trans (h.kp k hk n1 n2 n3), h.bel.setCell (p := ⟨w.heap.size + 1, 0, none⟩) (by simp only; omega) _, by rw [qnv]; exact h.sz⟩
theorem PJ.fault {w W1 W : QW} {X : Nat} {cs : List Comp} {z e : Int} (h : PJ w W1 X cs z e W) (hX : X < W1.heap.size) (hN : w.heap.size + 1 + 1 < X) (p : Int) : PJ w W1 X cs z p (W.setCell ⟨w.heap.size + 1 + 1, 0, none⟩ (.int .i64 p)) := by
 obtain ⟨v, xs, h1, h2, h3⟩ := h.row;exact ⟨(qcgx _ _ _ _ (by simp only; omega)).trans h.pl, set1 _ h.er, ⟨v, xs, (qcgx _ _ _ _ (by simp only; omega)).trans h1, ownsRow_setCell_below h2 (a := ⟨w.heap.size + 1 + 1, 0, none⟩) (by simp only; omega) _, h3.keep (qlz W _ _ (fun b hb => by have := hb.1; omega)) (fun _ hb _ => hb)⟩,
  fun k hk n1 n2 n3 => (qcgx _ _ _ _ (by simp only; omega)).trans (h.kp k hk n1 n2 n3), h.bel.setCell (p := ⟨w.heap.size + 1 + 1, 0, none⟩) (by simp only; omega) _, by rw [qnv]; exact h.sz⟩
theorem PJ.app {w W1 W Wc w3 : QW} {X : Nat} {cs ds : List Comp} {z e : Int} {v v' : QV} {ys : List QV} (h : PJ w W1 X cs z e W) (hX : X < W1.heap.size) (hN : w.heap.size + 1 + 1 < X) (b2 : Below W.heap.size W Wc) (hv : Boxed W X 39 v)
  (hlt : ∀ g, v.ownBlock = some g → W1.heap.size ≤ g ∧ g < Wc.heap.size)
  (hown : w3.ownsRow W1.heap.size 35 6 v' (cs ++ ds).length ys) (hcs : qbw (fun b => X < b ∧ v.ownBlock ≠ some b) Wc (cs ++ ds) ys) (hg : Wc.grownBy w3 v.ownBlock) (hp : v'.ownBlock = v.ownBlock ∨ v'.ownBlock = some Wc.heap.size) :
  PJ w W1 X (cs ++ ds) z e (w3.setCell ⟨X, 0, none⟩ v') ∧ KeepsOthers W w3 ∧ Boxed w3 X 39 v := by
 have h' := h.next b2;have hnb : ∀ k, k < W1.heap.size → w3.heap[k]? = Wc.heap[k]? := fun k hk => hg.block k (qcgt hk h'.sz) (fun e => by have := (hlt k e.symm).1; omega)
 have hvc : Boxed Wc X 39 v := (b2.block X hv.lt).trans hv;have hv3 : Boxed w3 X 39 v := (hnb X hX).trans hvc;have hko : KeepsOthers Wc w3 := by
  obtain ⟨v0, xs0, q1, q2, _⟩ := h'.row;have : v0 = v := by
   have e1 := (show Wc.heap[X]? = _ from q1).symm.trans (show Wc.heap[X]? = _ from hvc);simp only [Option.some.injEq, Obj.cells.injEq, and_true] at e1;simpa using e1
  subst this;refine KeepsOthers.of_grownBy hg fun j o ej hj => ?_;rcases q2.2 with ⟨h1, _⟩ | ⟨g, cap', cur, h1, _, hgb, _⟩
  ·rw [h1] at ej; cases ej
  ·rw [h1] at ej;simp only [Value.ownBlock, Option.some.injEq] at ej;subst ej;rw [hgb] at hj; cases hj; rfl
 refine ⟨⟨?_, ?_, ⟨v', ys, ?_, ?_, ?_⟩, ?_, ?_, ?_⟩, (qwz b2).trans hko, hv3⟩
 ·exact (qcgx _ _ _ _ (by simp only; omega)).trans ((hnb _ (by omega)).trans h'.pl)
 ·exact (qcgx _ _ _ _ (by simp only; omega)).trans ((hnb _ (by omega)).trans h'.er)
 ·exact qv 0 v' hv3
 ·exact ownsRow_setCell_below hown (a := ⟨X, 0, none⟩) hX _
 ·have k1 : Keep (fun b => X < b ∧ v.ownBlock ≠ some b) Wc w3 := ⟨hg.size, fun b cs t m hb hh => (hg.block b (qcgg.1 hh).1 hb.2.symm).trans hh⟩;refine hcs.keep (k1.trans (qlz w3 X _ (fun b hb => by have := hb.1; omega))) ?_
  rintro b ⟨hb1, hb2⟩ hb3;refine ⟨hb1, ?_⟩;rcases hp with hp | hp
  ·rw [hp]; exact hb2
  ·rw [hp]; intro e; simp only [Option.some.injEq] at e; omega
 ·intro k hk n1 n2 n3;exact (qcgx _ _ _ _ (by simp only; omega)).trans ((hnb k hk).trans (h'.kp k hk n1 n2 n3))
 ·have hb3 : Below w.heap.size w w3 := by
   refine ⟨hg.os.trans h'.bel.os, hg.tape.trans h'.bel.tape, hg.output.trans h'.bel.output, qcgs h'.bel.size hg.size, fun k hk => (hnb k (by omega)).trans (h'.bel.block k hk)⟩
  exact hb3.setCell (p := ⟨X, 0, none⟩) (by simp only; omega) _
 ·rw [qnv]; exact qcgs h'.sz hg.size
structure Goes8 (c : Int) (w W1 : QW) (X : Nat) (pre : List Item) (W : QW) : Prop where
 ok : ∀ x ∈ pre, x.err = 0
 pj : PJ w W1 X (pre.flatMap (fun x => qr x.f x.p)) (qvd c pre) 0 W
structure Left8 (c : Int) (w W1 : QW) (X : Nat) (k : Code) (pre : List Item) (W : QW) : Prop where
 code : k = .exit 0
 is : ∃ pre0 x, pre = pre0 ++ [x] ∧ (∀ x ∈ pre0, x.err = 0) ∧ x.err ≠ 0 ∧ PJ w W1 X (pre0.flatMap (fun x => qr x.f x.p)) x.pos x.err W
theorem qbhh (c : Int) : ∀ (pre : List Item) (x : Item), qvd c (pre ++ [x]) = x.pos
 | [], x => rfl
 | y :: ys, x => qbhh y.pos ys x
theorem Left8.set {c : Int} {w W1 : QW} {X : Nat} {k : Code} {pre rest : List Item} {W : QW} (h : Left8 c w W1 X k pre W) : ∃ z e cs, qhn c [] (pre ++ rest) = (e, z, cs) ∧ e ≠ 0 ∧ PJ w W1 X cs z e W := by
 obtain ⟨pre0, x, rfl, h1, h2, h3⟩ := h.is;refine ⟨x.pos, x.err, _, ?_, h2, h3⟩;rw [List.append_assoc, qsx pre0 c [] ([x] ++ rest) h1];show qhn _ _ (x :: rest) = _;unfold qhn;rw [if_pos h2, List.nil_append]
theorem Goes8.set {c : Int} {w W1 : QW} {X : Nat} {pre : List Item} {W : QW} (h : Goes8 c w W1 X pre W) : qhn c [] pre = (0, qvd c pre, pre.flatMap (fun x => qr x.f x.p)) := by
 have := qsx pre c [] [] h.ok;rw [List.append_nil, List.nil_append] at this;rw [this]
 rfl
theorem qbzm {l : QB} {c : Nat} (hc : c ≤ l.length) : ∀ (pre : List Item), (∀ x ∈ pre, ∃ e : Nat, x.pos = (e : Int) ∧ e ≤ l.length) → ∃ e : Nat, qvd (c : Int) pre = (e : Int) ∧ e ≤ l.length
 | [], _ => ⟨c, rfl, hc⟩
 | [x], h => h x List.mem_cons_self
 | x :: y :: ys, h => by
  obtain ⟨e, h1, h2⟩ := h x List.mem_cons_self;have := qbzm (c := e) h2 (y :: ys) (fun z hz => h z (List.mem_cons_of_mem _ hz));show ∃ e : Nat, qvd x.pos (y :: ys) = _ ∧ _;rw [h1];exact this
structure PK (w : QW) (Ds : List Nat) (sets : List (List Comp)) (sv : QV) (z e : Int) (W : QW) : Prop where
 flt : At W w.heap.size (.cells #[.int .i64 0, .int .i64 0] 25 (0, 0))
 pl : At W (w.heap.size + 1) (.cells #[.int .i64 z] 3 (0, 0))
 er : At W (w.heap.size + 1 + 1) (.cells #[.int .i64 e] 23 (0, 0))
 bel : Below w.heap.size w W
 nd : Ds.Nodup
 ds : ∀ D ∈ Ds, w.heap.size ≤ D ∧ W.heap[D]? = some (.deferred (some []))
 st : qlb (w.heap.size + 1 + 1 + 1) W sv sets
theorem PK.next {w W W' : QW} {Ds : List Nat} {sets : List (List Comp)} {sv : QV} {z e : Int} (h : PK w Ds sets sv z e W) (hb : Below W.heap.size W W') : PK w Ds sets sv z e W' :=
 ⟨(hb.block _ h.flt.lt).trans h.flt, (hb.block _ h.pl.lt).trans h.pl, (hb.block _ h.er.lt).trans h.er, h.bel.trans (hb.mono h.bel.size), h.nd, fun D hD => ⟨(h.ds D hD).1, (hb.block D (qcgg.1 (h.ds D hD).2).1).trans (h.ds D hD).2⟩, h.st.keep (qfh hb)⟩
theorem qrx {W : QW} {D B : Nat} {cs : Array QV} {t : TypeId} {m : Nat × Nat} (h1 : W.heap[D]? = some (.deferred (some []))) (h2 : At W B (.cells cs t m)) : D ≠ B := by
 rintro rfl;rw [show W.heap[D]? = _ from h2] at h1;cases h1
theorem PK.place {w W : QW} {Ds : List Nat} {sets : List (List Comp)} {sv : QV} {z e : Int} (h : PK w Ds sets sv z e W) (p : Int) : PK w Ds sets sv p e (W.setCell ⟨w.heap.size + 1, 0, none⟩ (.int .i64 p)) :=
  ⟨(qcgx _ _ _ _ (by simp only; omega)).trans h.flt, set1 _ h.pl, (qcgx _ _ _ _ (by simp only; omega)).trans h.er, h.bel.setCell (p := ⟨w.heap.size + 1, 0, none⟩) (by simp only; omega) _, h.nd,
    fun D hD => ⟨(h.ds D hD).1, (qcgx _ _ _ _ (qrx (h.ds D hD).2 h.pl)).trans (h.ds D hD).2⟩, h.st.keep (qlz W _ _ (fun b hb => by omega))⟩
theorem PK.fault {w W : QW} {Ds : List Nat} {sets : List (List Comp)} {sv : QV} {z e : Int} (h : PK w Ds sets sv z e W) (p : Int) : PK w Ds sets sv z p (W.setCell ⟨w.heap.size + 1 + 1, 0, none⟩ (.int .i64 p)) :=
  ⟨(qcgx _ _ _ _ (by simp only; omega)).trans h.flt, (qcgx _ _ _ _ (by simp only; omega)).trans h.pl, set1 _ h.er, h.bel.setCell (p := ⟨w.heap.size + 1 + 1, 0, none⟩) (by simp only; omega) _, h.nd,
    fun D hD => ⟨(h.ds D hD).1, (qcgx _ _ _ _ (qrx (h.ds D hD).2 h.er)).trans (h.ds D hD).2⟩, h.st.keep (qlz W _ _ (fun b hb => by omega))⟩
theorem PK.range {w W W1 V : QW} {Ds : List Nat} {sets : List (List Comp)} {sv : QV} {z z' e e' : Int} {cs : List Comp} {D : Nat} (h : PK w Ds sets sv z e W) (hb : Below W.heap.size W W1) (hX : W.heap.size < W1.heap.size) (hj : PJ w W1 W.heap.size cs z' e' V)
  (hD : W1.heap.size ≤ D) (hd : V.heap[D]? = some (.deferred (some []))) : PK w (D :: Ds) sets sv z' e' V := by
 have hk : ∀ k, k < W.heap.size → k ≠ w.heap.size + 1 → k ≠ w.heap.size + 1 + 1 → V.heap[k]? = W.heap[k]? := fun k h1 h2 h3 => (hj.kp k (by omega) h2 h3 (by omega)).trans (hb.block k h1)
 refine ⟨(hk _ h.flt.lt (by omega) (by omega)).trans h.flt, hj.pl, hj.er, hj.bel, List.nodup_cons.2 ⟨fun hm => ?_, h.nd⟩, ?_, ?_⟩
 ·have := (qcgg.1 (h.ds D hm).2).1;omega
 ·intro E hE;rcases List.mem_cons.1 hE with rfl | hE
  ·exact ⟨by have := h.bel.size; omega, hd⟩
  ·obtain ⟨h1, h2⟩ := h.ds E hE;exact ⟨h1, (hk E (qcgg.1 h2).1 (qrx h2 h.pl) (qrx h2 h.er)).trans h2⟩
 ·exact h.st.keep ⟨qcgs (Nat.le_of_lt hX) hj.sz, fun b cs t m hb' hh => (hk b (qcgg.1 hh).1 (by omega) (by omega)).trans hh⟩
theorem PK.set {w W W1 V : QW} {Ds : List Nat} {sets : List (List Comp)} {sv : QV} {z z' e e' : Int} {cs : List Comp} (h : PK w Ds sets sv z e W) (hX : W.heap.size < W1.heap.size) (hj : PJ w W1 W.heap.size cs z' e' V) :
  ∃ v, Boxed V W.heap.size 39 v ∧ (∃ a c, v = .slice a cs.length c) ∧ SetO (fun b => w.heap.size + 1 + 1 + 1 ≤ b ∧ sv.ownBlock ≠ some b) V v cs := by
 obtain ⟨v, xs, h1, h2, h3⟩ := hj.row;obtain ⟨us, h4, _⟩ := h.st;have hs := h.er.lt;have hA : ∀ b, W.heap.size < b → (w.heap.size + 1 + 1 + 1 ≤ b ∧ sv.ownBlock ≠ some b) := fun b hb => ⟨by omega, fun e => by have := (qcn h4 b e).2; omega⟩
 obtain ⟨a, c, hv, _⟩ := qdd h2;refine ⟨v, h1, ⟨a, c, hv⟩, xs, ⟨h2.1, ?_⟩, fun g hg => hA g (by have := (qcn h2 g hg).1; omega), h3.keep (A' := fun b => w.heap.size + 1 + 1 + 1 ≤ b ∧ sv.ownBlock ≠ some b) ⟨Nat.le_refl _, fun _ _ _ _ _ hh => hh⟩ (fun b hb _ => hA b hb.1)⟩
 rcases h2.2 with h5 | ⟨g, cap, cur, hv, hg, r⟩
 ·exact .inl h5
 ·exact .inr ⟨g, cap, cur, hv, Nat.zero_le _, r⟩
theorem PK.app {w V w3 : QW} {Ds : List Nat} {sets : List (List Comp)} {sv v v' : QV} {z e : Int} {cs : List Comp} {us : List QV} (h : PK w Ds sets sv z e V) (tmp : Obj) (hu : SetO (fun b => w.heap.size + 1 + 1 + 1 ≤ b ∧ sv.ownBlock ≠ some b) V v cs)
  (h1 : V.ownsRow (w.heap.size + 1 + 1 + 1) 39 1 sv sets.length us) (h2 : ∀ i (h : i < sets.length), ∃ u, us[i]? = some u ∧ SetO (fun b => w.heap.size + 1 + 1 + 1 ≤ b ∧ sv.ownBlock ≠ some b) V u sets[i])
  (h3 : w3.ownsRow (w.heap.size + 1 + 1 + 1) 39 1 v' (sets.length + 1) (us ++ [v])) (hg : (V.alloc tmp).grownBy w3 sv.ownBlock) (hp : v'.ownBlock = sv.ownBlock ∨ v'.ownBlock = some (V.alloc tmp).heap.size) : PK w Ds (sets ++ [cs]) v' z e w3 := by
 have hb : Below V.heap.size V (V.alloc tmp) := (Below.refl _ V).alloc (Nat.le_refl _) _;have h' := h.next hb;have hkb : ∀ {A : Nat → Prop}, Keep A V (V.alloc tmp) := qfh hb;have h1' := qgq (A := fun _ => True) h1 hkb (fun _ _ => trivial);have hlt := qcn h1';have hks : ∀ k, k < (V.alloc tmp).heap.size → k < w.heap.size + 1 + 1 + 1 → w3.heap[k]? = (V.alloc tmp).heap[k]? := fun k hk1 hk2 => hg.block k hk1 (fun e => by have := (hlt k e.symm).1; omega)
 refine ⟨(hks _ h'.flt.lt (by omega)).trans h'.flt, (hks _ h'.pl.lt (by omega)).trans h'.pl, (hks _ h'.er.lt (by omega)).trans h'.er, ?_, h.nd, ?_, ?_⟩
 ·exact ⟨hg.os.trans h'.bel.os, hg.tape.trans h'.bel.tape, hg.output.trans h'.bel.output, qcgs h'.bel.size hg.size, fun k hk => (hks k (qcgt hk h'.bel.size) (by omega)).trans (h'.bel.block k hk)⟩
 ·intro D hD;obtain ⟨q1, q2⟩ := h'.ds D hD;refine ⟨q1, (hg.block D (qcgg.1 q2).1 (fun e => ?_)).trans q2⟩;rcases h1'.2 with ⟨h5, _⟩ | ⟨g, cap, cur, hv, _, hh, _⟩
  ·rw [h5] at e; cases e
  ·rw [hv] at e;simp only [Value.ownBlock, Option.some.injEq] at e;subst e;rw [hh] at q2;cases q2
 ·refine qlb.snoc h1' (fun i hi => ?_) (hu.keep hkb (fun _ hb _ => hb)) h3 hg hp;obtain ⟨u, q1, q2⟩ := h2 i hi;exact ⟨u, q1, q2.keep hkb (fun _ hb _ => hb)⟩
structure PIn (l : QB) (w : QW) (Ds : List Nat) (sets : List (List Comp)) (sv : QV) (c n : Nat) (W : QW) : Prop where
 pk : PK w Ds sets sv (c : Int) 0 W
 cl : c ≤ l.length
 eq : npGo l 33 0 [] = npGo l n c sets
 num : n + sets.length = 33
 sl : sets.length ≤ 31
theorem qsf {W : QW} {v : QV} {ts : List QB} {R : Nat} (h : Txt W v ts) (hc : Cap v) (hf : qhm R v) : CapA (fun b => R ≤ b ∧ b < W.heap.size) v := by
 refine ⟨hc, fun p n c e => ?_⟩;obtain ⟨a, cap, hv, h0 | ⟨b, off, ha, hlt, _⟩⟩ := h
 ·rw [e] at hv;cases hv;exact .inl (by rw [h0]; rfl)
 ·refine .inr ⟨hf p n c e, ?_⟩;rw [e] at hv;cases hv;cases ha;exact hlt
theorem Tri.trans {b c d : Nat} {A B C : QW} (h : Tri b c d A B) (k : Tri b c d B C) : Tri b c d A C := ⟨k.1.trans h.1, k.2.1.trans h.2.1, k.2.2.trans h.2.2⟩
theorem qbls (s : QY) (c : Nat) (W0 W1 : QW) (hs : s.size ≤ 256) (hc : c ≤ s.size) (e : Ending) (h : qbvg s.data.toList s c W0 e W1) :
  ∃ gf lb Kp, e = .returned (.func (.func gf) #[] lb) ∧ (∀ args w, (callFunc gf args).run Tryz.prog w = .ok (.enter gf args) w) ∧
   SeqC Fence.wide 4 Tryz.prog gf lb encI (CX W0.heap.size W1.heap.size (qfw s.data.toList c)) (fun x => x.1.err = 0) Kp (fun xs => xs.map Prod.fst = qfw s.data.toList c) (fun pre => pre.map Prod.fst <+: qfw s.data.toList c) W1 ∧
   (∀ A B D : QW, Kp A B → Kp B D → Kp A D) ∧ (∀ W W' : QW, (∀ k, W0.heap.size ≤ k → k < W1.heap.size → W'.heap[k]? = W.heap[k]?) → Kp W W') := by
 obtain ⟨hb, ⟨hf, Bp, Be, Bs, av, nv, cv, rfl, h1, h2, h3, q1, q2, q3, q4, q5, q6⟩ | ⟨hf, Ba, Bs, rfl, h1, h2, q1, q2⟩⟩ := h
 ·have hf' := hf;unfold qgw at hf';rw [Bool.and_eq_true] at hf';have hr : (qhd s.data.toList c).2.2 = 0 := by simpa using hf'.1
  obtain ⟨e, k1, _, k2⟩ := qbbg (qdh (by rw [qh]; exact hc)) hr
  have k1' : (qhd s.data.toList c).2.1 = (e : Int) := k1;have h45 := hf'.2;rw [k1', Int.toNat_natCast] at h45;have h45 : s.data.toList[blk s.data.toList e]? = some 45 := by simpa using h45
  have hd := (List.getElem?_eq_some_iff.1 h45).1;rw [qh] at k2 hd;have hP : qfw s.data.toList c = ftL s.data.toList (qhd s.data.toList c).1 e := by unfold qfw; rw [if_pos hf, k1', Int.toNat_natCast]
  rw [k1'] at q2;rw [hP];refine ⟨84, _, Tri Bp Be Bs, rfl, enters_of Tryz.func84 (by kernel_rfl) rfl, ?_, fun A B D h k => h.trans k, fun W W' h => ⟨h _ h1 (qcgg.1 q1).1, h _ h2 q2.lt, h _ h3 q3.lt⟩⟩
  intro l J Jx W hW hJ hJx hY h0;exact from1_in 4 (by omega) l Bp Be Bs s (qhd s.data.toList c).1 e av nv cv k2 hs (by omega) J Jx W.heap.size hJ W0.heap.size W1.heap.size (qsf q4 q5 q6) hY W ((hW.block _ (qcgg.1 q1).1).trans q1) (qbs q2 hW) (qbs q3 hW) (q4.below hW) q5 h0
 ·have hP : qfw s.data.toList c = rowL s.data.toList (blk s.data.toList c) := by unfold qfw; rw [if_neg (by rw [hf]; decide)]
  rw [hP];have hle := qdh (l := s.data.toList) (a := c) (by rw [qh]; exact hc)
  rw [qh] at hle;refine ⟨89, _, Two Ba Bs, rfl, enters_of Tryz.func89 (by kernel_rfl) rfl, ?_, fun A B D h k => h.trans k, fun W W' h => ⟨h _ h1 q1.lt, h _ h2 q2.lt⟩⟩
  intro l J Jx W hW hJ hJx hY h0;exact row1_in 4 (by omega) l Ba Bs s (blk s.data.toList c) hle hs J Jx W.heap.size hJ W0.heap.size W1.heap.size hY W (qbs q1 hW) (qbs q2 hW) h0
end Go.Proofs.YtpdlgiioahjhiaaGreat
