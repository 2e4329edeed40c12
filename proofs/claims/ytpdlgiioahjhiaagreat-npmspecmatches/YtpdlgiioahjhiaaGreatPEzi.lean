/- Plain functions: what a range is read as; no program is name -/
import Derived.Test.YtpdlgiioahjhiaaGreatPEzb
import Derived.Test.YtpdlgiioahjhiaaGreatPFc
import Derived.Test.YtpdlgiioahjhiaaGreatPJoin
import Derived.Test.YtpdlgiioahjhiaaGreatPEi
namespace Go.Proofs.YtpdlgiioahjhiaaGreat
open Go.RowKit Go.Shelf
open _root_.Array renaming getElem?_eq_some_iff → qcgg
open List renaming length_eq_zero_iff → qcfh
open Go renaming World → QW, Value → QV
set_option linter.unusedVariables false
variable {A A' : Nat → Prop}
def Keep (A : Nat → Prop) (W W' : QW) : Prop :=
 W.heap.size ≤ W'.heap.size ∧ ∀ (b : Nat) (cs : Array QV) (t : TypeId) (m : Nat × Nat), A b → W.heap[b]? = some (.cells cs t m) → W'.heap[b]? = some (.cells cs t m)
theorem qcbw {W W' : QW} {b o : Nat} {u : QV} (h : W.cell? ⟨b, o, none⟩ = some u) (hk : Keep A W W') (hA : A b) : W'.cell? ⟨b, o, none⟩ = some u := by
 unfold World.cell? at h ⊢;cases hb : W.heap[b]? with
 | none => simp only [hb] at h; cases h
 | some ob =>
  cases ob with
  | cells cs t m =>
   simp only [hb] at h;simp only [hk.2 b cs t m hA hb];exact h
  | _ => simp only [hb] at h; cases h
theorem qbhx {W : QW} {v : QV} {ts : List QB} (h : Txt W v ts) (hc : CapA A v) : ts = [] ∨ ∃ cap b off, v = .slice (some ⟨b, off, none⟩) ts.length cap ∧ b < W.heap.size ∧ A b ∧ ∀ i (h : i < ts.length), W.cell? ⟨b, off + i, none⟩ = some (.string (qg ts[i])) := by
 obtain ⟨a, cap, hv, h0 | ⟨b, off, ha, hlt, hcl⟩⟩ := h
 ·exact .inl h0
 ·rcases hc.2 _ _ _ (by rw [hv, ha]) with h | h
  ·exact .inl (qcfh.1 h)
  ·exact .inr ⟨cap, b, off, by rw [hv, ha], hlt, h, hcl⟩
theorem qkg {W W' : QW} {v : QV} {ts : List QB} (h : Txt W v ts) (hc : CapA A v) (hk : Keep A W W') : Txt W' v ts := by
 rcases qbhx h hc with rfl | ⟨cap, b, off, rfl, hlt, hA, hcl⟩
 ·exact qbrh h
 ·exact ⟨_, cap, rfl, .inr ⟨b, off, rfl, Nat.lt_of_lt_of_le hlt hk.1, fun i hi => qcbw (hcl i hi) hk hA⟩⟩
theorem qvw {W : QW} {v : QV} {ts : List QB} (h : Txt W v ts) (hc : CapA A v) (hA : ∀ b, A b → b < W.heap.size → A' b) : CapA A' v := by
 rcases qbhx h hc with rfl | ⟨cap, b, off, rfl, hlt, hb, hcl⟩
 ·exact capZ h
 ·exact ⟨hc.1, fun p n c e => by cases e; exact .inr (hA b hb hlt)⟩
theorem qbw.keep {W W' : QW} (hk : Keep A W W') (hA : ∀ b, A b → b < W.heap.size → A' b) : ∀ {cs : List Comp} {xs : List QV}, qbw A W cs xs → qbw A' W' cs xs
 | [], _, h => h
 | c :: cs, xs, h => by
  obtain ⟨ys, zs, h1, ⟨vp, vb, h2, t1, t2, c1, c2⟩, h3⟩ := h;exact ⟨ys, zs, h1, ⟨vp, vb, h2, qkg t1 c1 hk, qkg t2 c2 hk, qvw t1 c1 hA, qvw t2 c2 hA⟩, qbw.keep hk hA h3⟩
theorem qbw.at_ {W : QW} {g : Nat} : ∀ {cs : List Comp} {xs : List QV} (o : Nat), qbw A W cs xs → (∀ j u, xs[j]? = some u → W.cell? ⟨g, o + j, none⟩ = some u) → ∀ i (h : i < cs.length), qbbz W g (o + i * 6) cs[i]
 | [], _, _, _, _, i, h => by cases h
 | c :: cs, xs, o, h, hx, i, hi => by
  obtain ⟨ys, zs, rfl, ⟨vp, vb, rfl, t1, t2, c1, c2⟩, h3⟩ := h
  match i with
  | 0 =>
   refine ⟨vp, vb, ?_, ?_, ?_, ?_, ?_, ?_, t1, t2, c1.1, c2.1⟩
   ·exact hx 0 _ rfl
   ·exact hx 1 _ rfl
   ·exact hx 2 _ rfl
   ·exact hx 3 _ rfl
   ·exact hx 4 _ rfl
   ·exact hx 5 _ rfl
  | i + 1 =>
   have := qbw.at_ (o + 6) h3 (fun j u hj => by
    have := hx (6 + j) u (by rw [List.getElem?_append_right (by simp)]; simpa using hj)
    rwa [← Nat.add_assoc] at this) i (by simpa using hi)
   rw [show o + (i + 1) * 6 = o + 6 + i * 6 by omega]
   exact this
def SetO (A : Nat → Prop) (W : QW) (u : QV) (cs : List Comp) : Prop := ∃ xs, W.ownsRow 0 35 6 u cs.length xs ∧ (∀ g, u.ownBlock = some g → A g) ∧ qbw A W cs xs
theorem qgq {W W' : QW} {base : Nat} {e : TypeId} {size : Nat} {v : QV} {n : Nat} {xs : List QV} (h : W.ownsRow base e size v n xs) (hk : Keep A W W') (hA : ∀ g, v.ownBlock = some g → A g) : W'.ownsRow base e size v n xs := by
 refine ⟨h.1, ?_⟩;rcases h.2 with h2 | ⟨g, cap, cur, hv, hg, hh, r⟩
 ·exact .inl h2
 ·exact .inr ⟨g, cap, cur, hv, hg, hk.2 g _ _ _ (hA g (by rw [hv]; rfl)) hh, r⟩
theorem qcn {W : QW} {base : Nat} {e : TypeId} {size : Nat} {v : QV} {n : Nat} {xs : List QV} (h : W.ownsRow base e size v n xs) : ∀ g, v.ownBlock = some g → base ≤ g ∧ g < W.heap.size := by
 intro g hg;rcases h.2 with ⟨rfl, _⟩ | ⟨g', cap, cur, rfl, hb, hh, r⟩
 ·cases hg
 ·simp only [Value.ownBlock, Option.some.injEq] at hg;subst hg;exact ⟨hb, (qcgg.1 hh).1⟩
theorem qdd {W : QW} {base : Nat} {e : TypeId} {size : Nat} {v : QV} {n : Nat} {xs : List QV} (h : W.ownsRow base e size v n xs) :
  ∃ a c, v = .slice a n c ∧ (n = 0 ∨ ∃ g, a = some ⟨g, 0, none⟩ ∧ g < W.heap.size ∧ ∀ j u, xs[j]? = some u → W.cell? ⟨g, 0 + j, none⟩ = some u) := by
 rcases h.2 with ⟨rfl, h0⟩ | ⟨g, cap, cur, rfl, hb, hh, _, _, _, ht⟩
 ·exact ⟨none, 0, by rw [h0], .inl h0⟩
 ·refine ⟨_, cap, rfl, .inr ⟨g, rfl, (qcgg.1 hh).1, fun j u hj => ?_⟩⟩;rw [← ht] at hj;rw [List.getElem?_take] at hj;split at hj
  ·exact qd (0 + j) hh (by rw [Nat.zero_add]; simpa using hj)
  ·cases hj
theorem SetO.keep {W W' : QW} {u : QV} {cs : List Comp} (h : SetO A W u cs) (hk : Keep A W W') (hA : ∀ b, A b → b < W.heap.size → A' b) : SetO A' W' u cs := by
 obtain ⟨xs, h1, h2, h3⟩ := h;exact ⟨xs, qgq h1 hk h2, fun g hg => hA g (h2 g hg) (qcn h1 g hg).2, h3.keep hk hA⟩
theorem SetO.at_ {W : QW} {u : QV} {cs : List Comp} (h : SetO A W u cs) : qnf W u cs := by
 obtain ⟨xs, h1, _, h3⟩ := h;obtain ⟨a, c, rfl, h0 | ⟨g, rfl, hg, hc⟩⟩ := qdd h1
 ·exact ⟨a, c, rfl, .inl (qcfh.1 h0)⟩
 ·exact ⟨_, c, rfl, .inr ⟨g, 0, rfl, hg, h3.at_ 0 hc⟩⟩
def qlb (lo : Nat) (W : QW) (v : QV) (l : List (List Comp)) : Prop :=
 ∃ us, W.ownsRow lo 39 1 v l.length us ∧ ∀ i (h : i < l.length), ∃ u, us[i]? = some u ∧ SetO (fun b => lo ≤ b ∧ v.ownBlock ≠ some b) W u l[i]
theorem qlb.keep {lo : Nat} {W W' : QW} {v : QV} {l : List (List Comp)} (h : qlb lo W v l) (hk : Keep (fun b => lo ≤ b) W W') : qlb lo W' v l := by
 obtain ⟨us, h1, h2⟩ := h;refine ⟨us, qgq h1 hk (fun g hg => (qcn h1 g hg).1), fun i hi => ?_⟩;obtain ⟨u, h3, h4⟩ := h2 i hi;exact ⟨u, h3, h4.keep ⟨hk.1, fun b cs t m hb => hk.2 b cs t m hb.1⟩ (fun b hb _ => hb)⟩
theorem qlb.at_ {lo : Nat} {W : QW} {v : QV} {l : List (List Comp)} (h : qlb lo W v l) : qnp W v l := by
 obtain ⟨us, h1, h2⟩ := h;obtain ⟨a, c, rfl, h0 | ⟨g, rfl, hg, hc⟩⟩ := qdd h1
 ·exact ⟨a, c, rfl, .inl (qcfh.1 h0)⟩
 ·refine ⟨_, c, rfl, .inr ⟨g, 0, rfl, hg, fun i hi => ?_⟩⟩;obtain ⟨u, h3, h4⟩ := h2 i hi;exact ⟨u, hc i u h3, h4.at_⟩
theorem qlb.snoc {lo : Nat} {W W' : QW} {v v' u : QV} {l : List (List Comp)} {cs : List Comp} {us : List QV} (h1 : W.ownsRow lo 39 1 v l.length us)
  (h2 : ∀ i (h : i < l.length), ∃ u, us[i]? = some u ∧ SetO (fun b => lo ≤ b ∧ v.ownBlock ≠ some b) W u l[i]) (hu : SetO (fun b => lo ≤ b ∧ v.ownBlock ≠ some b) W u cs)
  (h3 : W'.ownsRow lo 39 1 v' (l.length + 1) (us ++ [u])) (hg : W.grownBy W' v.ownBlock) (hp : v'.ownBlock = v.ownBlock ∨ v'.ownBlock = some W.heap.size) : qlb lo W' v' (l ++ [cs]) := by
 have hk : Keep (fun b => lo ≤ b ∧ v.ownBlock ≠ some b) W W' := ⟨hg.size, fun b cs t m hb hh => (hg.block b (qcgg.1 hh).1 hb.2.symm).trans hh⟩;have hA : ∀ b, (lo ≤ b ∧ v.ownBlock ≠ some b) → b < W.heap.size → (lo ≤ b ∧ v'.ownBlock ≠ some b) := by
  rintro b ⟨hb1, hb2⟩ hb3;refine ⟨hb1, ?_⟩;rcases hp with hp | hp
  ·rw [hp]; exact hb2
  ·rw [hp]; intro e; simp only [Option.some.injEq] at e; omega
 have hul : us.length = l.length := by have := h1.1; omega
 refine ⟨us ++ [u], by rw [List.length_append]; exact h3, fun i hi => ?_⟩
 by_cases hil : i < l.length
 ·obtain ⟨x, h4, h5⟩ := h2 i hil;refine ⟨x, by rw [List.getElem?_append_left (by omega)]; exact h4, ?_⟩
  rw [List.getElem_append_left hil];exact h5.keep hk hA
 ·have hi' : i = l.length := by simp at hi; omega
  subst hi';refine ⟨u, by rw [List.getElem?_append_right (by omega), hul, Nat.sub_self]; rfl, ?_⟩
  rw [List.getElem_append_right (Nat.le_refl _)];simp only [Nat.sub_self, List.getElem_cons_zero];exact hu.keep hk hA
section
variable {F : Fence} {n : Nat} {P : Program} {ops : Array Oper} {Q : Exit → Act → World → Prop}
theorem qcv {o : Oper} {a : Act} {w w' : QW} {K : Act → QW → Prop} {E : Prop} (hg : o.guard = none) (s x : Operand) (t : TypeId)
  (hop : o.op = Op.call { callee := Callee.builtin Builtin.append, args := #[s, x], argTypes := #[t, t] }) (v u v' : QV) (hs : a.eval s = v) (hx : a.eval x = u)
  (hrun : (Builtin.append_ #[t, t] o.type #[v, u]).run P w = .ok v' w') (hK : K (a.put o.dst v') w') :
  if Region.wanted o (yielded ops a.tmps) = true then Oper.wpIn F n P o a w K Q else E := by
 have hw : Region.wanted o (yielded ops a.tmps) = true := by simp [Region.wanted, hg]
 rw [if_pos hw];unfold Oper.wpIn;refine ⟨?_, ?_⟩
 ·simp [Oper.about, hop, resolve, Target.leads, Sem.run_pure]
 ·rw [Oper.semAt_plain F _ _ (by rw [hop]; intro c hc'; cases hc')]
  simp [execOp, hop, resolve, invoke, builtin, hs, hx, hrun, Result.andThen];exact hK
end
theorem qjl (f : Nat) (p : PartL) : (qr f p).length ≤ 2 := by
 unfold qr qhq qqj qqk qqm qns qls qgl qjf qlx
 repeat' split
 all_goals simp
theorem qbxr (l : QB) : ∀ (n k a : Nat), (rowG l n k a).length ≤ n
 | 0, _, _ => Nat.le_refl _
 | n + 1, k, a => by
  unfold rowG;split
  ·simp
  ·split
   ·simp
   ·split
    ·simp
    ·have := qbxr l n (k + 1) (blk l (qgf l a).pos.toNat);simp; omega
theorem qbhf (l : QB) (a : Nat) : (qfw l a).length ≤ 33 := by
 unfold qfw;split
 ·unfold ftL;split <;> simp
 ·exact qbxr l 33 0 _
end Go.Proofs.YtpdlgiioahjhiaaGreat

namespace Go.Proofs.YtpdlgiioahjhiaaGreat
open Go.RowKit Go.Shelf
open List renaming getElem_mem → qchj, take_succ_eq_append_getElem → qchf
open Go renaming World → QW
set_option linter.unusedVariables false
set_option maxHeartbeats 8000000
set_option maxRecDepth 100000
def semO (y : SemL) (a3 a4 : Option Addr) (n3 n4 k3 k4 : Nat) : Obj := .cells #[.string (qg y.maj), .string (qg y.min), .string (qg y.pat), .slice a3 n3 k3, .slice a4 n4 k4] 33 (0, 0)
def compO (op : Int) (x : SemL) (a1 a2 : Option Addr) (n1 n2 k1 k2 : Nat) : Obj := .cells #[.int .i64 op, .string (qg x.maj), .string (qg x.min), .string (qg x.pat), .slice a1 n1 k1, .slice a2 n2 k2] 35 (0, 0)
structure Vb (w : QW) (y : SemL) (a3 a4 : Option Addr) (n3 n4 k3 k4 : Nat) (W : QW) : Prop where
 bel : Below w.heap.size w W
 box : W.heap[w.heap.size]? = some (semO y a3 a4 n3 n4 k3 k4)
 t3 : Txt W (.slice a3 n3 k3) y.pre
 t4 : Txt W (.slice a4 n4 k4) y.bld
theorem Vb.next {w W W' : QW} {y : SemL} {a3 a4 : Option Addr} {n3 n4 k3 k4 : Nat} (h : Vb w y a3 a4 n3 n4 k3 k4 W) (hb : Below W.heap.size W W') : Vb w y a3 a4 n3 n4 k3 k4 W' :=
 ⟨h.bel.trans (hb.mono h.bel.size), (hb.block _ (Array.getElem?_eq_some_iff.1 h.box).1).trans h.box, h.t3.below hb, h.t4.below hb⟩
theorem Vb.sem {w W : QW} {y : SemL} {a3 a4 : Option Addr} {n3 n4 k3 k4 : Nat} (h : Vb w y a3 a4 n3 n4 k3 k4 W) : qfd W (.agg #[.string (qg y.maj), .string (qg y.min), .string (qg y.pat), .slice a3 n3 k3, .slice a4 n4 k4]) y := ⟨_, _, rfl, h.t3, h.t4⟩
theorem Vb.seen {w W : QW} {y : SemL} {a3 a4 : Option Addr} {n3 n4 k3 k4 : Nat} (h : Vb w y a3 a4 n3 n4 k3 k4 W) : W.cell? ⟨w.heap.size, 0, none⟩ = some (.string (qg y.maj)) ∧ W.cell? ⟨w.heap.size, 1, none⟩ = some (.string (qg y.min)) ∧ W.cell? ⟨w.heap.size, 2, none⟩ = some (.string (qg y.pat)) ∧ W.cell? ⟨w.heap.size, 3, none⟩ = some (.slice a3 n3 k3) ∧ W.cell? ⟨w.heap.size, 4, none⟩ = some (.slice a4 n4 k4) :=
 ⟨qd 0 h.box rfl, qd 1 h.box rfl, qd 2 h.box rfl, qd 3 h.box rfl, qd 4 h.box rfl⟩
theorem Vb.start {w : QW} {y : SemL} {a3 a4 : Option Addr} {n3 n4 k3 k4 : Nat} (t3 : Txt w (.slice a3 n3 k3) y.pre) (t4 : Txt w (.slice a4 n4 k4) y.bld) : Vb w y a3 a4 n3 n4 k3 k4 (w.alloc (.cells #[.string (qg y.maj), .string (qg y.min), .string (qg y.pat), .slice a3 n3 k3, .slice a4 n4 k4] 33)) := by
 have hb := (Below.refl _ w).alloc (Nat.le_refl _) (.cells #[.string (qg y.maj), .string (qg y.min), .string (qg y.pat), .slice a3 n3 k3, .slice a4 n4 k4] 33);exact ⟨hb, World.alloc_heap_new w _, t3.below hb, t4.below hb⟩
structure Cb (K : Nat) (op : Int) (x : SemL) (a1 a2 : Option Addr) (n1 n2 k1 k2 : Nat) (W : QW) : Prop where
 box : W.heap[K]? = some (compO op x a1 a2 n1 n2 k1 k2)
 t1 : Txt W (.slice a1 n1 k1) x.pre
 t2 : Txt W (.slice a2 n2 k2) x.bld
theorem Cb.next {W W' : QW} {K : Nat} {op : Int} {x : SemL} {a1 a2 : Option Addr} {n1 n2 k1 k2 : Nat} (h : Cb K op x a1 a2 n1 n2 k1 k2 W) (hb : Below W.heap.size W W') : Cb K op x a1 a2 n1 n2 k1 k2 W' :=
 ⟨(hb.block _ (Array.getElem?_eq_some_iff.1 h.box).1).trans h.box, h.t1.below hb, h.t2.below hb⟩
theorem Cb.sem {W : QW} {K : Nat} {op : Int} {x : SemL} {a1 a2 : Option Addr} {n1 n2 k1 k2 : Nat} (h : Cb K op x a1 a2 n1 n2 k1 k2 W) : qfd W (.agg #[.string (qg x.maj), .string (qg x.min), .string (qg x.pat), .slice a1 n1 k1, .slice a2 n2 k2]) x := ⟨_, _, rfl, h.t1, h.t2⟩
theorem Cb.seen {W : QW} {K : Nat} {op : Int} {x : SemL} {a1 a2 : Option Addr} {n1 n2 k1 k2 : Nat} (h : Cb K op x a1 a2 n1 n2 k1 k2 W) : W.cell? ⟨K, 0, none⟩ = some (.int .i64 op) ∧ W.cell? ⟨K, 1, none⟩ = some (.string (qg x.maj)) ∧ W.cell? ⟨K, 2, none⟩ = some (.string (qg x.min)) ∧ W.cell? ⟨K, 3, none⟩ = some (.string (qg x.pat)) ∧ W.cell? ⟨K, 4, none⟩ = some (.slice a1 n1 k1) ∧ W.cell? ⟨K, 5, none⟩ = some (.slice a2 n2 k2) :=
 ⟨qd 0 h.box rfl, qd 1 h.box rfl, qd 2 h.box rfl, qd 3 h.box rfl, qd 4 h.box rfl, qd 5 h.box rfl⟩
theorem Txt.len {W : QW} {a : Option Addr} {n k : Nat} {ts : List QB} (h : Txt W (.slice a n k) ts) : ts.length = n := by
 obtain ⟨a', k', hv, _⟩ := h;cases hv
 rfl
def qgp (y : SemL) (c : Comp) : Bool := !c.2.pre.isEmpty && qnl c.2 y
theorem set_eq (cs : List Comp) (y : SemL) : setL cs y = (fitW y && cs.all (fun c => qgv c y) && (y.pre.isEmpty || cs.any (qgp y))) := rfl
theorem qsk {α : Type} {ts : List α} {n : Nat} (h : ts.length = n) : ts.isEmpty = decide (n = 0) := by
 subst h;cases ts <;> simp
theorem qrv {α : Type} {f : α → Bool} (cs : List α) (i : Nat) (h : i < cs.length) (hA : (cs.take i).all f = true) : (cs.take (i + 1)).all f = f cs[i] := by
 rw [qchf h, List.all_append, hA];simp
theorem qbbt {α : Type} {f : α → Bool} (cs : List α) (i : Nat) (h : i < cs.length) : (cs.take (i + 1)).any f = ((cs.take i).any f || f cs[i]) := by
 rw [qchf h, List.any_append];simp
theorem Set_any (cs : List Comp) (y : SemL) (v u : Value) (w : QW) (hv : qnf w v cs) (hu : qfd w u y) (hs : ∀ c ∈ cs, qct c.2) (sy : qct y) (hcn : cs.length ≤ 9000000000000000000) :
  Calls Tryz.prog 17 #[v, u] w fun e w' => e = .returned (.bool (setL cs y)) ∧ Below w.heap.size w w' := by
 obtain ⟨a, k, rfl, hc0⟩ := id hv;obtain ⟨vq, vc, rfl, t3, t4⟩ := hu;obtain ⟨a3, k3, rfl, _⟩ := id t3;obtain ⟨a4, k4, rfl, _⟩ := id t4;obtain ⟨n, hn⟩ : ∃ n, cs.length = n := ⟨_, rfl⟩;obtain ⟨n3, hn3⟩ : ∃ n3, y.pre.length = n3 := ⟨_, rfl⟩;obtain ⟨n4, hn4⟩ : ∃ n4, y.bld.length = n4 := ⟨_, rfl⟩;rw [hn3] at t3 ⊢;rw [hn4] at t4 ⊢;rw [hn] at hv hcn ⊢;have HN := qb hn;have HN3 := qb hn3;have HV := qb hv;have HSC := qb hs;have Q0 := qb (Vb.start t3 t4);have hX := set_eq cs y;rw [qsk hn3] at hX;have FY := qb (fun W (q : Vb w y a3 a4 n3 n4 k3 k4 W) => qlc _ y W q.sem sy);clear hn hn3 hn4 t3 t4 hv hc0 hs;generalize setL cs y = X at *;generalize hfy : fitW y = fy at *;clear hfy;have HX := qb hX;clear hX;obtain ⟨s0, s1, s2, s3, s4⟩ := Q0.out.seen;go_enter Tryz.func17, Tryz.ntmps17
 (go_wp2_with fail);generalize w.alloc (.cells #[.string (qg y.maj), .string (qg y.min), .string (qg y.pat), .slice a3 n3 k3, .slice a4 n4 k4] 33) = W0 at *;refine (FY.out _ Q0.out).mono ?_;rintro e W1 ⟨rfl, b1⟩;have Q1 := qb (Q0.out.next b1);clear b1 Q0 s0 s1 s2 s3 s4 FY;obtain ⟨s0, s1, s2, s3, s4⟩ := Q1.out.seen;cases fy with
 | false =>
  (go_wp2_with fail);go_ret
  exact ⟨by rw [HX.out]; rfl, Q1.out.bel⟩
 | true =>
  obtain ⟨E, hE⟩ : ∃ E, decide (n3 = 0) = E := ⟨_, rfl⟩;have hEb : ((n3 : Int) == 0) = E := by rw [← hE, Bool.eq_iff_iff]; simp
  rw [hE] at HX;clear hE;(go_wp2_with fail);go_loopw [5, 17] (fun z j wr => ∃ (i : Nat) (R : Bool), i ≤ n ∧ z = .bool R ∧ j = .int .i64 i ∧ Hid (Vb w y a3 a4 n3 n4 k3 k4 wr) ∧ Hid (R = (E || (cs.take i).any (qgp y))) ∧ Hid ((cs.take i).all (fun c => qgv c y) = true)) (fun _ j _ => n - (intOf j).toNat)
  case atStart => exact ⟨0, E, by omega, by first | rfl | (rw [hEb]), rfl, Q1, by show E = (E || false); simp, rfl⟩
  case round =>
   clear Q1 s0 s1 s2 s3 s4;obtain ⟨i, R, hin, rfl, rfl, Q, HR, HA⟩ := hrel;obtain ⟨s0, s1, s2, s3, s4⟩ := Q.out.seen
   by_cases hlt : i < n
   ·have hlt' : (i : Int) < (n : Int) := by omega
    have i1 : i < cs.length := by rw [HN.out]; exact hlt
    obtain ⟨a', k', hv', h0 | ⟨b, o, rfl, hbl, hrow⟩⟩ := HV.out.below Q.out.bel
    ·exfalso;rw [h0] at i1;simp at i1
    ·cases hv';obtain ⟨vp, vb, d0, d1, d2, d3, d4, d5, t1, t2, _⟩ := hrow i i1;have sc := HSC.out cs[i] (qchj i1);have h1 := qrv cs i i1 HA.out;have h2 := qbbt (f := qgp y) cs i i1;have h3 : cs.all (fun c => qgv c y) = true → (fun c => qgv c y) cs[i] = true := fun h => List.all_eq_true.1 h _ (qchj i1);obtain ⟨a1, k1, rfl, _⟩ := id t1;obtain ⟨a2, k2, rfl, _⟩ := id t2;obtain ⟨m1, hm1⟩ : ∃ m1, cs[i].2.pre.length = m1 := ⟨_, rfl⟩;obtain ⟨m2, hm2⟩ : ∃ m2, cs[i].2.bld.length = m2 := ⟨_, rfl⟩;have hrd : qgp y cs[i] = (!decide (m1 = 0) && qnl cs[i].2 y) := by unfold qgp; rw [qsk hm1]
     rw [hm1] at t1 d4;rw [hm2] at t2 d5;rw [hrd] at h2;have H1 := qb h1;have H2 := qb h2;have H3 := qb h3;clear hrd h1 h2 h3 hrow hm1 hm2;generalize cs[i] = c at *;clear i1;obtain ⟨op, x⟩ := c;dsimp only at *;have bb := (Below.refl _ wr).alloc (Nat.le_refl _) (.cells #[.int .i64 op, .string (qg x.maj), .string (qg x.min), .string (qg x.pat), .slice a1 m1 k1, .slice a2 m2 k2] 35);have C0 : Hid (Cb wr.heap.size op x a1 a2 m1 m2 k1 k2 (wr.alloc (.cells #[.int .i64 op, .string (qg x.maj), .string (qg x.min), .string (qg x.pat), .slice a1 m1 k1, .slice a2 m2 k2] 35))) := ⟨World.alloc_heap_new wr _, t1.below bb, t2.below bb⟩;have V0 := qb (Q.out.next bb);have HO := qb (fun W (c : Cb wr.heap.size op x a1 a2 m1 m2 k1 k2 W) (q : Vb w y a3 a4 n3 n4 k3 k4 W) => qccw op x y _ _ _ W c.t1 c.t2 q.sem sc sy);have SN := qb (fun W (c : Cb wr.heap.size op x a1 a2 m1 m2 k1 k2 W) (q : Vb w y a3 a4 n3 n4 k3 k4 W) => qzb x y _ _ W c.sem q.sem);clear t1 t2 bb Q s0 s1 s2 s3 s4;obtain ⟨s0, s1, s2, s3, s4⟩ := V0.out.seen;obtain ⟨g0, g1, g2, g3, g4, g5⟩ := C0.out.seen;generalize hH : qgv (op, x) y = Hv at *;generalize hS : qnl x y = Sv at *;clear hH hS;(go_wp2_with fail);generalize wr.alloc (.cells #[.int .i64 op, .string (qg x.maj), .string (qg x.min), .string (qg x.pat), .slice a1 m1 k1, .slice a2 m2 k2] 35) = W2 at *;generalize wr.heap.size = K at *;refine (HO.out _ C0.out V0.out).mono ?_;rintro e W3 ⟨rfl, b3⟩;have C1 := qb (C0.out.next b3)
     have V1 := qb (V0.out.next b3);clear b3 C0 V0 s0 s1 s2 s3 s4 g0 g1 g2 g3 g4 g5 HO;obtain ⟨s0, s1, s2, s3, s4⟩ := V1.out.seen;obtain ⟨g0, g1, g2, g3, g4, g5⟩ := C1.out.seen;cases Hv with
     | false =>
      have hX : X = false := by
       rw [HX.out];cases ha : cs.all (fun c => qgv c y) with
       | false => rfl
       | true => exact absurd (H3.out ha) (by simp)
      have HX2 := qb hX;clear hX;(go_wp2_with fail);go_ret
      exact ⟨by rw [HX2.out]; rfl, V1.out.bel⟩
     | true =>
      cases R with
      | true =>
       have HR2 : Hid (true = (E || (cs.take (i + 1)).any (qgp y))) := by
        show _ = _;rw [H2.out, ← Bool.or_assoc, ← HR.out]
        rfl
       (go_wp2_with fail);go_roundw
       case rel => exact ⟨i + 1, true, by omega, rfl, by go_num, V1, HR2, H1⟩
       case measure => simp [intOf]; omega
      | false =>
       by_cases hm : m1 = 0
       ·have hm' : ¬ (0 : Int) < (m1 : Int) := by omega
        have hmn : ¬ 0 < m1 := by omega
        have HR2 : Hid (false = (E || (cs.take (i + 1)).any (qgp y))) := by
         show _ = _;rw [H2.out, decide_eq_true hm, ← Bool.or_assoc, ← HR.out]
         rfl
        clear hm;(go_wp2_with fail);go_roundw
        case rel => exact ⟨i + 1, false, by omega, rfl, by go_num, V1, HR2, H1⟩
        case measure => simp [intOf]; omega
       ·have hm' : (0 : Int) < (m1 : Int) := by omega
        have hmn : 0 < m1 := by omega
        have HR2 : Hid (Sv = (E || (cs.take (i + 1)).any (qgp y))) := by
         show _ = _;rw [H2.out, decide_eq_false hm, ← Bool.or_assoc, ← HR.out]
         rfl
        clear hm;(go_wp2_with fail);refine (SN.out _ C1.out V1.out).mono ?_;rintro e W4 ⟨rfl, b4⟩;have V2 := qb (V1.out.next b4);clear b4 C1 V1 s0 s1 s2 s3 s4 g0 g1 g2 g3 g4 g5 SN;(go_wp2_with fail);go_roundw
        case rel => exact ⟨i + 1, Sv, by omega, rfl, by go_num, V2, HR2, H1⟩
        case measure => simp [intOf]; omega
   ·have hlt' : ¬ (i : Int) < (n : Int) := by omega
    have hX : X = R := by
     have h1 := HA.out;have h2 := HR.out;rw [List.take_of_length_le (by rw [HN.out]; omega)] at h1 h2
     rw [HX.out, h1, h2]
     rfl
    have HX2 := qb hX;clear hX;(go_wp2_with fail);go_ret
    exact ⟨by rw [HX2.out]; rfl, Q.out.bel⟩
theorem qbxl (l : List (List Comp)) (y : SemL) (v u : Value) (w : QW) (hv : qnp w v l) (hu : qfd w u y) (hs : ∀ cs ∈ l, cs.length ≤ 9000000000000000000 ∧ ∀ c ∈ cs, qct c.2) (sy : qct y) (hln : l.length ≤ 9000000000000000000) :
  Calls Tryz.prog 40 #[v, u] w fun e w' => e = .returned (.bool (l.any (fun cs => setL cs y))) ∧ Below w.heap.size w w' := by
 obtain ⟨a, k, rfl, _⟩ := id hv;obtain ⟨vq, vc, rfl, t3, t4⟩ := hu;obtain ⟨a3, k3, rfl, _⟩ := id t3;obtain ⟨a4, k4, rfl, _⟩ := id t4;obtain ⟨n, hn⟩ : ∃ n, l.length = n := ⟨_, rfl⟩;obtain ⟨n3, hn3⟩ : ∃ n3, y.pre.length = n3 := ⟨_, rfl⟩;obtain ⟨n4, hn4⟩ : ∃ n4, y.bld.length = n4 := ⟨_, rfl⟩;rw [hn3] at t3 ⊢;rw [hn4] at t4 ⊢;rw [hn] at hv hln ⊢;have HN := qb hn;have HV := qb hv;have HS := qb hs;have Q0 := qb (Vb.start t3 t4);clear hn hn3 hn4 t3 t4 hv hs;obtain ⟨s0, s1, s2, s3, s4⟩ := Q0.out.seen;go_enter Tryz.func40, Tryz.ntmps40
 (go_wp2_with fail);generalize w.alloc (.cells #[.string (qg y.maj), .string (qg y.min), .string (qg y.pat), .slice a3 n3 k3, .slice a4 n4 k4] 33) = W0 at *;go_loopw [9] (fun j wr => ∃ i : Nat, i ≤ n ∧ j = .int .i64 i ∧ Hid (Vb w y a3 a4 n3 n4 k3 k4 wr) ∧ Hid ((l.take i).any (fun cs => setL cs y) = false)) (fun j _ => n - (intOf j).toNat)
 case atStart => exact ⟨0, by omega, rfl, Q0, rfl⟩
 case round =>
  clear Q0 s0 s1 s2 s3 s4;obtain ⟨i, hin, rfl, Q, HA⟩ := hrel;obtain ⟨s0, s1, s2, s3, s4⟩ := Q.out.seen
  by_cases hlt : i < n
  ·have hlt' : (i : Int) < (n : Int) := by omega
   have i1 : i < l.length := by rw [HN.out]; exact hlt
   obtain ⟨a', k', hv', h0 | ⟨b, o, rfl, hbl, hrow⟩⟩ := HV.out.below Q.out.bel
   ·exfalso;rw [h0] at i1;simp at i1
   ·cases hv';obtain ⟨u, d0, hcs⟩ := hrow i i1;have sc := HS.out l[i] (qchj i1);have h2 := qbbt (f := fun cs => setL cs y) l i i1;rw [HA.out] at h2;have h3 : setL l[i] y = true → l.any (fun cs => setL cs y) = true := fun h => List.any_eq_true.2 ⟨l[i], qchj i1, h⟩;have SE := qb (Set_any l[i] y u _ wr hcs Q.out.sem sc.2 sy sc.1);obtain ⟨au, ku, rfl, hzz⟩ := id hcs;clear hzz;have H2 := qb h2;have H3 := qb h3;clear h2 h3 hrow hcs sc
    try dsimp only at H2
    generalize setL l[i] y = X at *;generalize l[i].length = m at *;clear i1;(go_wp2_with fail);refine SE.out.mono ?_;rintro e W3 ⟨rfl, b3⟩;have Q3 := qb (Q.out.next b3);clear b3 Q s0 s1 s2 s3 s4 SE;cases X with
    | true =>
     (go_wp2_with fail);go_ret
     exact ⟨by rw [H3.out (by first | rfl | trivial)]; rfl, Q3.out.bel⟩
    | false =>
     (go_wp2_with fail);go_roundw
     case rel => exact ⟨i + 1, by omega, by go_num, Q3, by show _ = _; rw [H2.out]; rfl⟩
     case measure => simp [intOf]; omega
  ·have hlt' : ¬ (i : Int) < (n : Int) := by omega
   have hX : l.any (fun cs => setL cs y) = false := by
    have := HA.out
    rwa [List.take_of_length_le (by rw [HN.out]; omega)] at this
   have HX := qb hX;clear hX;(go_wp2_with fail);go_ret
   exact ⟨by rw [HX.out]; rfl, Q.out.bel⟩
end Go.Proofs.YtpdlgiioahjhiaaGreat

namespace Go.Proofs.YtpdlgiioahjhiaaGreat
open Go.RowKit Go.Shelf
set_option linter.unusedVariables false
set_option maxHeartbeats 4000000
set_option maxRecDepth 100000
def qfj (l : List (List Comp)) (t : QB) : Bool := l.any (fun cs => setL cs (semP t))
def latF (p : QB → Bool) (b : QB × Bool) (t : QB) : QB × Bool := if (p t && (!b.2 || decide (0 < cmpT t b.1))) = true then (t, true) else b
def qht (p : QB → Bool) (ts : List QB) : QB × Bool := ts.foldl (latF p) ([], false)
theorem qbsh (p : QB → Bool) (ts : List QB) (i : Nat) (h : i < ts.length) : (ts.take (i + 1)).foldl (latF p) ([], false) = latF p ((ts.take i).foldl (latF p) ([], false)) ts[i] := by
 rw [List.take_succ_eq_append_getElem h, List.foldl_append]
 rfl
theorem qbvm (p : QB → Bool) (B : Nat) (ts : List QB) (v : Value) (w : World) (hv : Txt w v ts) (hln : ts.length ≤ 9000000000000000000)
  (hp : ∀ (s : QY) (W : World), Below w.heap.size w W → Calls Tryz.prog 38 #[.string s, .pointer (some ⟨B, 0, none⟩)] W fun e W' => e = .returned (.bool (p s.data.toList)) ∧ Below W.heap.size W W')
  (hc : ∀ (s t : QY) (W : World), Calls Tryz.prog 42 #[.string s, .string t] W fun e W' => e = .returned (.int .i64 (cmpT s.data.toList t.data.toList)) ∧ Below W.heap.size W W') :
  Calls Tryz.prog 41 #[v, .func (.func 38) #[] #[.pointer (some ⟨B, 0, none⟩)], .func (.func 42) #[] #[]] w fun e w' => e = .returned (.tuple #[.string (qg (qht p ts).1), .bool (qht p ts).2]) ∧ Below w.heap.size w w' := by
 obtain ⟨a, k, rfl, _⟩ := id hv;obtain ⟨n, hn⟩ : ∃ n, ts.length = n := ⟨_, rfl⟩;rw [hn] at hv hln ⊢;have HN := qb hn;have HV := qb hv;have HP := qb hp;have HC := qb hc;clear hn hv hp hc;go_enter Tryz.func41, Tryz.ntmps41
 (go_wp2_with fail);go_loopw [8, 9, 14] (fun x f j wr => ∃ (i : Nat) (S : QB) (F : Bool), i ≤ n ∧ x = .string (qg S) ∧ f = .bool F ∧ j = .int .i64 i ∧ Hid (Below w.heap.size w wr) ∧ Hid ((ts.take i).foldl (latF p) ([], false) = (S, F))) (fun _ _ j _ => n - (intOf j).toNat)
 case atStart => exact ⟨0, [], false, by omega, rfl, rfl, rfl, Below.refl _ _, rfl⟩
 case round =>
  obtain ⟨i, S, F, hin, rfl, rfl, rfl, HB, HA⟩ := hrel
  by_cases hlt : i < n
  ·have hlt' : (i : Int) < (n : Int) := by omega
   have i1 : i < ts.length := by rw [HN.out]; exact hlt
   obtain ⟨b, o, rfl, hrow⟩ := Txt.some (HV.out.below HB.out) (by omega)
   have d0 := hrow i i1;have h2 := qbsh p ts i i1;rw [HA.out] at h2;have h3 : latF p (S, F) ts[i] = if (p ts[i] && (!F || decide (0 < cmpT ts[i] S))) = true then (ts[i], true) else (S, F) := rfl;rw [h3] at h2;have P1 := qb (fun (W : World) (hW : Below w.heap.size w W) => (by have := HP.out (qg ts[i]) W hW; rw [qj] at this; exact this : Calls Tryz.prog 38 #[.string (qg ts[i]), .pointer (some ⟨B, 0, none⟩)] W fun e W' => e = .returned (.bool (p ts[i])) ∧ Below W.heap.size W W'))
   have C1 := qb (fun (W : World) => (by have := HC.out (qg ts[i]) (qg S) W; rw [qj, qj] at this; exact this : Calls Tryz.prog 42 #[.string (qg ts[i]), .string (qg S)] W fun e W' => e = .returned (.int .i64 (cmpT ts[i] S)) ∧ Below W.heap.size W W'))
   have H2 := qb h2;clear h2 h3 hrow;generalize p ts[i] = X at *;generalize cmpT ts[i] S = C at *;generalize ts[i] = t at *;clear i1;(go_wp2_with fail);refine (P1.out _ HB.out).mono ?_;rintro e W1 ⟨rfl, b1⟩;have HB1 := qb (HB.out.trans (b1.mono HB.out.size));clear b1 HB P1 d0;cases X with
   | false =>
    (go_wp2_with fail);go_roundw
    case rel => exact ⟨i + 1, S, F, by omega, rfl, rfl, by go_num, HB1, by show _ = _; rw [H2.out]; rfl⟩
    case measure => simp [intOf]; omega
   | true =>
    cases F with
    | false =>
     (go_wp2_with fail);go_roundw
     case rel => exact ⟨i + 1, t, true, by omega, rfl, rfl, by go_num, HB1, by show _ = _; rw [H2.out]; rfl⟩
     case measure => simp [intOf]; omega
    | true =>
     (go_wp2_with fail);refine (C1.out _).mono ?_;rintro e W2 ⟨rfl, b2⟩;have HB2 := qb (HB1.out.trans (b2.mono HB1.out.size));clear b2 HB1 C1
     by_cases hC : 0 < C
     ·have hd : decide (0 < C) = true := by simpa using hC
      (go_wp2_with fail);go_roundw
      case rel => exact ⟨i + 1, t, true, by omega, rfl, rfl, by go_num, HB2, by show _ = _; rw [H2.out, hd]; rfl⟩
      case measure => simp [intOf]; omega
     ·have hd : decide (0 < C) = false := by simpa using hC
      (go_wp2_with fail);go_roundw
      case rel => exact ⟨i + 1, S, true, by omega, rfl, rfl, by go_num, HB2, by show _ = _; rw [H2.out, hd]; rfl⟩
      case measure => simp [intOf]; omega
  ·have hlt' : ¬ (i : Int) < (n : Int) := by omega
   have hX : qht p ts = (S, F) := by
    have := HA.out
    rwa [List.take_of_length_le (by rw [HN.out]; omega)] at this
   have HX := qb hX;clear hX;(go_wp2_with fail);go_ret2
   exact ⟨by rw [HX.out]; rfl, HB.out⟩
end Go.Proofs.YtpdlgiioahjhiaaGreat

namespace Go.Proofs.YtpdlgiioahjhiaaGreat
open Go.RowKit Go.Shelf
set_option linter.unusedVariables false
set_option maxHeartbeats 4000000
set_option maxRecDepth 100000
theorem qcbq (l : List (List Comp)) (B : Nat) (v : Value) (s : QY) (w : World) (hb : Boxed w B 22 v) (hv : qnp w v l) (hs : ∀ cs ∈ l, cs.length ≤ 9000000000000000000 ∧ ∀ c ∈ cs, qct c.2) (hln : l.length ≤ 9000000000000000000) :
  Calls Tryz.prog 38 #[.string s, .pointer (some ⟨B, 0, none⟩)] w fun e w' => e = .returned (.bool (qfj l s.data.toList)) ∧ Below w.heap.size w w' := by
 have PT := qb (qxc qvp s w);have AS := qb (fun u W (hW : qnp W v l) (hu : qfd W u (semP s.data.toList)) => qbxl l (semP s.data.toList) v u W hW hu hs (qbww _) hln);have hX : qfj l s.data.toList = l.any (fun cs => setL cs (semP s.data.toList)) := rfl;rw [← hX] at AS;generalize qfj l s.data.toList = X at *;generalize semP s.data.toList = y at *;generalize fauP s.data.toList = f at *;obtain ⟨a, k, rfl, _⟩ := id hv;have HBX := qb hb;have HV := qb hv;clear hb hv hs hX;go_enter Tryz.func38, Tryz.ntmps38
 (go_wp2_with fail);refine PT.out.mono ?_;rintro e w1 ⟨b1, vs, rfl, ⟨vp, vb, rfl, t1, t2, _⟩, _⟩;obtain ⟨a1, k1, rfl, _⟩ := id t1;obtain ⟨a2, k2, rfl, _⟩ := id t2;have bb := ((Below.refl _ w1).alloc (Nat.le_refl _) (.cells #[.string (qg y.maj), .string (qg y.min), .string (qg y.pat), .slice a1 y.pre.length k1, .slice a2 y.bld.length k2] 33)).alloc (by simp) (.cells #[.int .i64 f.1, .int .i64 (f.2 : Int)] 25)
 have b2 := b1.trans (bb.mono b1.size);have hbx : Boxed ((w1.alloc (.cells #[.string (qg y.maj), .string (qg y.min), .string (qg y.pat), .slice a1 y.pre.length k1, .slice a2 y.bld.length k2] 33)).alloc (.cells #[.int .i64 f.1, .int .i64 (f.2 : Int)] 25)) B 22 (.slice a l.length k) := (b2.block B HBX.out.lt).trans HBX.out;have hc := hbx.cell;have S2 := qb (AS.out _ _ (HV.out.below b2) ⟨_, _, rfl, t1.below bb, t2.below bb⟩);have HB2 := qb b2;clear b1 bb b2 hbx t1 t2 AS PT;(go_wp2_with fail);refine S2.out.mono ?_;rintro e w3 ⟨rfl, b3⟩;(go_wp2_with fail);go_ret
 exact ⟨rfl, HB2.out.trans (b3.mono HB2.out.size)⟩
end Go.Proofs.YtpdlgiioahjhiaaGreat

namespace Go.Proofs.YtpdlgiioahjhiaaGreat
set_option linter.unusedVariables false
def qhn : Int → List Comp → List Item → Int × Int × List Comp
 | a, cs, [] => (0, a, cs)
 | a, cs, x :: xs => if x.err ≠ 0 then (x.err, x.pos, cs) else qhn x.pos (cs ++ qr x.f x.p) xs
def qbr (l : QB) (a : Nat) : Int × Int × List Comp := qhn (a : Int) [] (qfw l a)
def npGo (l : QB) : Nat → Nat → List (List Comp) → Int × Int × List (List Comp)
 | 0, a, _ => (0, (a : Int), [])
 | n + 1, a, sets =>
  if (qbr l a).1 ≠ 0 then ((qbr l a).1, (qbr l a).2.1, [])
  else if blk l (qbr l a).2.1.toNat = l.length then (0, 0, sets ++ [(qbr l a).2.2])
  else if (qgg l (blk l (qbr l a).2.1.toNat) (sets.length + 1)).2 ≠ 0 then ((qgg l (blk l (qbr l a).2.1.toNat) (sets.length + 1)).2, ((qgg l (blk l (qbr l a).2.1.toNat) (sets.length + 1)).1 : Int), [])
  else npGo l n (qgg l (blk l (qbr l a).2.1.toNat) (sets.length + 1)).1 (sets ++ [(qbr l a).2.2])
def qbq (l : QB) : Int × Int × List (List Comp) := if 256 < l.length then (12, 256, []) else npGo l 33 0 []
def qvd (a : Int) : List Item → Int
 | [] => a
 | x :: xs => qvd x.pos xs
theorem qlv {a : Int} {cs : List Comp} {x : Item} {xs : List Item} (h : x.err = 0) : qhn a cs (x :: xs) = qhn x.pos (cs ++ qr x.f x.p) xs := by
 conv => lhs; unfold qhn
 rw [if_neg (by simp [h])]
theorem qsx : ∀ (pre : List Item) (a : Int) (cs : List Comp) (xs : List Item), (∀ x ∈ pre, x.err = 0) →
  qhn a cs (pre ++ xs) = qhn (qvd a pre) (cs ++ pre.flatMap (fun x => qr x.f x.p)) xs
 | [], a, cs, xs, _ => by rw [List.flatMap_nil, List.append_nil]; rfl
 | y :: ys, a, cs, xs, h => by
  rw [List.cons_append, qlv (h y List.mem_cons_self), qsx ys y.pos (cs ++ qr y.f y.p) xs (fun x hx => h x (List.mem_cons_of_mem _ hx)), List.flatMap_cons, List.append_assoc]
  rfl
end Go.Proofs.YtpdlgiioahjhiaaGreat
