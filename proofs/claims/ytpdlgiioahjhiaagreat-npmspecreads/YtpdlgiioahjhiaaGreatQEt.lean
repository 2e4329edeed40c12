/-
  Walks: the next one behind a partial's number. · Walks: two comparators, from a partial's beginning up to behind one of its numbers. · Walks: what the operators mean. · A loop over an iterator whose items lie in memory: the iterator pays a condition on the item and the world, the round is given it. · Walks: the iterator over a row of parts.
-/
import Derived.Test.YtpdlgiioahjhiaaGreatQEo
import Derived.RangeFuncNested
import Derived.RangeFuncBound
import Derived.RangeFuncCalls
import Derived.RangeFuncLeaves
import Derived.Test.YtpdlgiioahjhiaaGreatQWf
import Derived.Shelf.Abstract
import Derived.Shelf.RegionOpen
import Derived.OwnWalkIn
import Derived.TacticsInMore
import Derived.LoopNIn
import Derived.LoopIn
import Derived.Sort.QuietIn
namespace Go.Proofs.YtpdlgiioahjhiaaGreat
open Go.RowKit
set_option linter.unusedVariables false
variable {A : Nat → Prop}

set_option maxRecDepth 100000 in
set_option maxHeartbeats 1000000 in
theorem first_new (x : SemL) (a1 a2 : Option Addr) (n1 k1 n2 k2 : Nat) (w : World) :
    Calls Tryz.prog 148 #[.agg #[.string (ofL x.maj), .string (ofL x.min), .string (ofL x.pat), .slice a1 n1 k1, .slice a2 n2 k2]] w fun e w' => Below w.heap.size w w' ∧
      ∃ b, e = .returned (.agg #[.string (ofL x.maj), .string (ofL x.min), .string (ofL x.pat), .slice (some ⟨b, 0, none⟩) 1 1, .slice a2 n2 k2]) ∧ w.heap.size ≤ b ∧ Txt w' (.slice (some ⟨b, 0, none⟩) 1 1) [[48]] := by
  go_enter Tryz.func148, Tryz.ntmps148
  go_wp2_with fail
  refine fin146 _ _ (w.heap.size + 1) _ _ _ _ _ ⟨_, _, _, rfl⟩ ⟨_, _, _, rfl⟩ rfl (heap_a1 w _ _ _) ⟨below_a3 w _ _ _, w.heap.size + 1 + 1, rfl, by omega, ?_⟩
  exact ⟨_, 1, rfl, .inr ⟨w.heap.size + 1 + 1, 0, rfl, by simp, fun i hi => by
    have : i = 0 := by simpa using hi
    subst this
    exact cell_at 0 (heap_a2 w _ _ _) rfl⟩⟩

theorem txt_nil' {W W' : World} {v : Value} (h : Txt W v []) : Txt W' v [] := by
  obtain ⟨a, c, hv, _⟩ := h
  exact ⟨a, c, hv, .inl rfl⟩
theorem next_nil (x : SemL) (p : Int) : (nextW x p).pre = [] ∧ (nextW x p).bld = [] := by
  unfold nextW
  split
  · split
    · split
      · unfold rais; repeat' split
        all_goals exact ⟨rfl, rfl⟩
      · exact ⟨rfl, rfl⟩
    · exact ⟨rfl, rfl⟩
  · exact ⟨rfl, rfl⟩
def begL (p : PartL) : SemL := ⟨p.maj, p.min, p.pat, p.pre, []⟩
def behL (p : PartL) (k : Int) : SemL := firstL (nextW (begL p) k)
structure PShort (p : PartL) : Prop where
  a : p.maj.length ≤ 1024
  b : p.min.length ≤ 1024
  c : p.pat.length ≤ 1024
  d : p.pre.length ≤ 1024 ∧ ∀ t ∈ p.pre, t.length ≤ 1024
  t : p.told ≤ 3
theorem PShort.sem {p : PartL} (h : PShort p) : ShortS (begL p) :=
  ⟨by have := h.a; simp only [begL]; omega, by have := h.b; simp only [begL]; omega, by have := h.c; simp only [begL]; omega, ⟨by have := h.d.1; simp only [begL]; omega, fun t ht => by have := h.d.2 t ht; omega⟩, ⟨by simp [begL], by simp [begL]⟩⟩
def PartV (A : Nat → Prop) (W : World) (v : Value) (p : PartL) : Prop := ∃ vp, v = partW p vp ∧ Txt W vp p.pre ∧ CapA A vp ∧ ∃ a n c, vp = .slice a n c
theorem PartV.below {W W' : World} {v : Value} {p : PartL} (h : PartV A W v p) (hb : Below W.heap.size W W') : PartV A W' v p := by
  obtain ⟨vp, h1, h2, h3, h4⟩ := h
  exact ⟨vp, h1, h2.below hb, h3, h4⟩
theorem semv_first {W : World} {y : SemL} {vp vb : Value} (h1 : Txt W vp [[48]]) (h2 : Txt W vb y.bld) (c1 : CapA A vp) (c2 : CapA A vb) : SemV A W (.agg #[.string (ofL y.maj), .string (ofL y.min), .string (ofL y.pat), vp, vb]) (firstL y) := ⟨vp, vb, rfl, h1, h2, c1, c2⟩
theorem put5 {W : World} {B : Nat} {t : TypeId} {u0 u1 u2 u3 u4 : Value} (v0 v1 v2 v3 v4 : Value) (h : W.heap[B]? = some (.cells #[u0, u1, u2, u3, u4] t (0, 0))) :
    (((((W.setCell ⟨B, 0, none⟩ v0).setCell ⟨B, 1, none⟩ v1).setCell ⟨B, 2, none⟩ v2).setCell ⟨B, 3, none⟩ v3).setCell ⟨B, 4, none⟩ v4).heap[B]? = some (.cells #[v0, v1, v2, v3, v4] t (0, 0)) :=
  set_lies 4 v4 (set_lies 3 v3 (set_lies 2 v2 (set_lies 1 v1 (set_lies 0 v0 h))))
theorem below5 {w W : World} {B : Nat} (h : Below w.heap.size w W) (hB : w.heap.size ≤ B) (v0 v1 v2 v3 v4 : Value) :
    Below w.heap.size w (((((W.setCell ⟨B, 0, none⟩ v0).setCell ⟨B, 1, none⟩ v1).setCell ⟨B, 2, none⟩ v2).setCell ⟨B, 3, none⟩ v3).setCell ⟨B, 4, none⟩ v4) :=
  ((((h.setCell hB _).setCell hB _).setCell hB _).setCell hB _).setCell hB _
theorem txt5 {W : World} {v : Value} {ts : List (List UInt8)} {n B : Nat} (h : Txt W v ts) (hf : Fresh n v) (hB : B < n) (v0 v1 v2 v3 v4 : Value) :
    Txt (((((W.setCell ⟨B, 0, none⟩ v0).setCell ⟨B, 1, none⟩ v1).setCell ⟨B, 2, none⟩ v2).setCell ⟨B, 3, none⟩ v3).setCell ⟨B, 4, none⟩ v4) v ts :=
  txt_set (txt_set (txt_set (txt_set (txt_set h hf hB _ _) hf hB _ _) hf hB _ _) hf hB _ _) hf hB _ _

set_option maxRecDepth 100000 in
set_option maxHeartbeats 2000000 in
theorem behind_any (v : Value) (p : PartL) (k : Int) (w : World) (hA : ∀ b, w.heap.size ≤ b → A b) (hv : PartV A w v p) (hp : PShort p) :
    Calls Tryz.prog 122 #[v, .int .i64 k] w fun e w' => Below w.heap.size w w' ∧ ∃ u, e = .returned u ∧ SemV A w' u (behL p k) := by
  obtain ⟨vp, rfl, t1, c1, a1, n1, k1, rfl⟩ := hv
  have HN := hide (fun W (hW : Below w.heap.size w W) => NextV_any (.agg #[.string (ofL p.maj), .string (ofL p.min), .string (ofL p.pat), .slice a1 n1 k1, .slice none 0 0]) (begL p) k W ⟨_, _, rfl, t1.below hW, txt_nil W⟩ hp.sem (by have := hp.a; simp only [begL]; omega) (by have := hp.b; simp only [begL]; omega) (by have := hp.c; simp only [begL]; omega))
  have hnil := next_nil (begL p) k
  have HA := hide hA
  clear t1 c1 hp hA
  unfold partW behL
  generalize nextW (begL p) k = y at *
  obtain ⟨z1, z2⟩ := hnil
  have hz := hide (heap_b1 w (.cells #[.string (ofL p.maj), .string (ofL p.min), .string (ofL p.pat), .slice a1 n1 k1, .slice none 0 0, .int .i64 (p.told : Int)] 54) (.cells #[.string ⟨#[]⟩, .string ⟨#[]⟩, .string ⟨#[]⟩, .slice none 0 0, .slice none 0 0] 33))
  have hb0 := hide (below_a2 w (.cells #[.string (ofL p.maj), .string (ofL p.min), .string (ofL p.pat), .slice a1 n1 k1, .slice none 0 0, .int .i64 (p.told : Int)] 54) (.cells #[.string ⟨#[]⟩, .string ⟨#[]⟩, .string ⟨#[]⟩, .slice none 0 0, .slice none 0 0] 33))
  go_enter Tryz.func122, Tryz.ntmps122
  go_wp2_with fail
  generalize (w.alloc _).alloc _ = W0 at *
  refine (HN.out _ hb0.out).mono ?_
  rintro e w2 ⟨hb2, u, rfl, hu⟩
  obtain ⟨q1, q2, rfl, s1, s2⟩ := hu
  rw [z1] at s1
  rw [z2] at s2
  obtain ⟨aa, ca, rfl, _⟩ := id s1
  obtain ⟨ab, cb, rfl, _⟩ := id s2
  have S2 := hide s2
  have hl0 := (Array.getElem?_eq_some_iff.1 hz.out).1
  have hz2 := hide ((hb2.block _ hl0).trans hz.out)
  have hl2 := hide (Nat.lt_of_lt_of_le hl0 hb2.size)
  have hb3 := hide (hb0.out.trans (hb2.mono hb0.out.size))
  clear hb2 s1 s2 hz hb0 hl0 HN
  go_wp2_with fail
  refine (first_new y _ _ _ _ _ _ _).mono ?_
  rintro e w3 ⟨hb4, b, rfl, hbb, tb⟩
  have hz3 := hide ((hb4.block _ hl2.out).trans hz2.out)
  have hb5 := hide (hb3.out.trans (hb4.mono hb3.out.size))
  have TB := hide tb
  obtain ⟨f0, f1, f2, f3, f4, g0, g1, g2, g3, g4⟩ : w3.frozen? ⟨w.heap.size + 1, 0, none⟩ = false ∧ w3.frozen? ⟨w.heap.size + 1, 1, none⟩ = false ∧ w3.frozen? ⟨w.heap.size + 1, 2, none⟩ = false ∧ w3.frozen? ⟨w.heap.size + 1, 3, none⟩ = false ∧ w3.frozen? ⟨w.heap.size + 1, 4, none⟩ = false ∧ w3.cell? ⟨w.heap.size + 1, 0, none⟩ = some (.string ⟨#[]⟩) ∧ w3.cell? ⟨w.heap.size + 1, 1, none⟩ = some (.string ⟨#[]⟩) ∧ w3.cell? ⟨w.heap.size + 1, 2, none⟩ = some (.string ⟨#[]⟩) ∧ w3.cell? ⟨w.heap.size + 1, 3, none⟩ = some (.slice none 0 0) ∧ w3.cell? ⟨w.heap.size + 1, 4, none⟩ = some (.slice none 0 0) :=
    ⟨one_free 0 hz3.out, one_free 1 hz3.out, one_free 2 hz3.out, one_free 3 hz3.out, one_free 4 hz3.out, cell_at 0 hz3.out rfl, cell_at 1 hz3.out rfl, cell_at 2 hz3.out rfl, cell_at 3 hz3.out rfl, cell_at 4 hz3.out rfl⟩
  have HBB := hide hbb
  clear hb4 tb hbb
  try dsimp only
  go_wp2_with fail
  have hput := put5 (.string (ofL y.maj)) (.string (ofL y.min)) (.string (ofL y.pat)) (.slice (some ⟨b, 0, none⟩) 1 1) (.slice ab 0 cb) hz3.out
  have hbel := below5 hb5.out (Nat.le_succ _) (.string (ofL y.maj)) (.string (ofL y.min)) (.string (ofL y.pat)) (.slice (some ⟨b, 0, none⟩) 1 1) (.slice ab 0 cb)
  have htx := txt5 TB.out (n := w2.heap.size) (by rintro a i c h; cases h; exact HBB.out) hl2.out (.string (ofL y.maj)) (.string (ofL y.min)) (.string (ofL y.pat)) (.slice (some ⟨b, 0, none⟩) 1 1) (.slice ab 0 cb)
  have htn : Txt w2 (.slice ab 0 cb) [] := S2.out
  generalize ((((w3.setCell ⟨w.heap.size + 1, 0, none⟩ (.string (ofL y.maj))).setCell ⟨w.heap.size + 1, 1, none⟩ (.string (ofL y.min))).setCell ⟨w.heap.size + 1, 2, none⟩ (.string (ofL y.pat))).setCell ⟨w.heap.size + 1, 3, none⟩ (.slice (some ⟨b, 0, none⟩) 1 1)).setCell ⟨w.heap.size + 1, 4, none⟩ (.slice ab 0 cb) = WF at *
  have hc1 : CapA A (.slice (some ⟨b, 0, none⟩) 1 1) := capA_one (HA.out b (Nat.le_trans hb3.out.size HBB.out))
  have hsv : SemV A WF (.agg #[.string (ofL y.maj), .string (ofL y.min), .string (ofL y.pat), .slice (some ⟨b, 0, none⟩) 1 1, .slice ab 0 cb]) (firstL y) := semv_first htx (by rw [z2]; exact txt_nil' htn) hc1 (capZ htn)
  exact fin120 _ _ (w.heap.size + 1) _ _ _ _ _ ⟨_, _, _, rfl⟩ ⟨_, _, _, rfl⟩ rfl hput ⟨hbel, _, rfl, hsv⟩

end Go.Proofs.YtpdlgiioahjhiaaGreat

namespace Go.Proofs.YtpdlgiioahjhiaaGreat
open Go.RowKit
set_option linter.unusedVariables false
variable {A : Nat → Prop}

def withL (p : PartL) (k : Int) : List Comp := [(4, begL p), (1, behL p k)]
theorem two_comps {w W : World} {x y : SemL} {b : Nat} {vp vb vq vc : Value} {o1 o2 : Int} (hb : Below w.heap.size w W) (hw : w.heap.size ≤ b)
    (h : W.heap[b]? = some (.cells #[.int .i64 o1, .string (ofL x.maj), .string (ofL x.min), .string (ofL x.pat), vp, vb, .int .i64 o2, .string (ofL y.maj), .string (ofL y.min), .string (ofL y.pat), vq, vc] 35 (0, 0)))
    (t1 : Txt W vp x.pre) (t2 : Txt W vb x.bld) (t3 : Txt W vq y.pre) (t4 : Txt W vc y.bld) (c1 : CapA A vp) (c2 : CapA A vb) (c3 : CapA A vq) (c4 : CapA A vc) :
    CompsP A w [(o1, x), (o2, y)] (.returned (.slice (some ⟨b, 0, none⟩) 2 2)) W :=
  ⟨hb, .inr ⟨b, [.int .i64 o1, .string (ofL x.maj), .string (ofL x.min), .string (ofL x.pat), vp, vb, .int .i64 o2, .string (ofL y.maj), .string (ofL y.min), .string (ofL y.pat), vq, vc], rfl, hw, h,
    [.int .i64 o1, .string (ofL x.maj), .string (ofL x.min), .string (ofL x.pat), vp, vb], [.int .i64 o2, .string (ofL y.maj), .string (ofL y.min), .string (ofL y.pat), vq, vc], rfl, ⟨vp, vb, rfl, t1, t2, c1, c2⟩,
    [.int .i64 o2, .string (ofL y.maj), .string (ofL y.min), .string (ofL y.pat), vq, vc], [], rfl, ⟨vq, vc, rfl, t3, t4, c3, c4⟩, rfl⟩⟩

set_option maxRecDepth 100000 in
set_option maxHeartbeats 2000000 in
theorem withinP_any (v : Value) (p : PartL) (k : Int) (w : World) (hA : ∀ b, w.heap.size ≤ b → A b) (hv : PartV A w v p) (hp : PShort p) :
    Calls Tryz.prog 167 #[v, .int .i64 k] w (CompsP A w (withL p k)) := by
  have BH := hide (fun W (hW : Below w.heap.size w W) => behind_any v p k W (fun b hb => hA b (Nat.le_trans hW.size hb)) (hv.below hW) hp)
  obtain ⟨vp, rfl, t1, c1, a1, n1, k1, rfl⟩ := hv
  have T1 := hide t1
  have C1 := hide c1
  clear t1 c1 hp hA
  unfold withL
  generalize behL p k = y at *
  unfold partW at BH ⊢
  have b0 := hide ((Below.refl _ w).alloc (Nat.le_refl _) (.cells #[.string (ofL p.maj), .string (ofL p.min), .string (ofL p.pat), .slice a1 n1 k1, .slice none 0 0, .int .i64 (p.told : Int)] 54))
  have n0 := World.alloc_heap_new w (.cells #[.string (ofL p.maj), .string (ofL p.min), .string (ofL p.pat), .slice a1 n1 k1, .slice none 0 0, .int .i64 (p.told : Int)] 54)
  go_enter Tryz.func167, Tryz.ntmps167
  go_wp2_with fail
  generalize w.alloc _ = W0 at *
  have q0 := cell_at 0 n0 rfl
  have q1 := cell_at 1 n0 rfl
  have q2 := cell_at 2 n0 rfl
  have q3 := cell_at 3 n0 rfl
  have q4 := cell_at 4 n0 rfl
  have q5 := cell_at 5 n0 rfl
  have hl0 := hide (Array.getElem?_eq_some_iff.1 n0).1
  have bD := hide (b0.out.trans (drew_below w.heap.size W0))
  have N0 := hide n0
  clear n0
  go_region_held3 (fun W' => W'.cell? ⟨w.heap.size, 0, none⟩ = some (.string (ofL p.maj)) ∧ W'.cell? ⟨w.heap.size, 1, none⟩ = some (.string (ofL p.min)) ∧ W'.cell? ⟨w.heap.size, 2, none⟩ = some (.string (ofL p.pat)) ∧ W'.cell? ⟨w.heap.size, 3, none⟩ = some (.slice a1 n1 k1) ∧ W'.cell? ⟨w.heap.size, 4, none⟩ = some (.slice none 0 0) ∧ W'.cell? ⟨w.heap.size, 5, none⟩ = some (.int .i64 (p.told : Int))) (go_keep) ((first
    | (go_at_call 122; refine (BH.out _ bD.out).mono ?_; rintro e w2 ⟨hb2, u, rfl, hu⟩; obtain ⟨wp, wb, rfl, t3, t4, c3, c4⟩ := hu; obtain ⟨a3, k3, rfl, _⟩ := id t3; obtain ⟨a4, k4, rfl, _⟩ := id t4; have T3 := hide t3; have T4 := hide t4; have C3 := hide c3; have C4 := hide c4; have B2 := hide (bD.out.trans (hb2.mono bD.out.size)); have n2 := (hb2.block w.heap.size hl0.out).trans N0.out; have e0 := cell_at 0 n2 rfl; have e1 := cell_at 1 n2 rfl; have e2 := cell_at 2 n2 rfl; have e3 := cell_at 3 n2 rfl; have e4 := cell_at 4 n2 rfl; have e5 := cell_at 5 n2 rfl; clear t3 t4 c3 c4 hb2 n2)
    | fail))
  try dsimp only
  go_wp2_with fail
  go_ret
  have al : Below w2.heap.size w2 (w2.alloc (.cells #[.int .i64 4, .string (ofL p.maj), .string (ofL p.min), .string (ofL p.pat), .slice a1 n1 k1, .slice none 0 0, .int .i64 1, .string (ofL y.maj), .string (ofL y.min), .string (ofL y.pat), .slice a3 y.pre.length k3, .slice a4 y.bld.length k4] 35)) := (Below.refl _ w2).alloc (Nat.le_refl _) _
  exact two_comps (x := begL p) (y := y) (B2.out.alloc B2.out.size _) B2.out.size (World.alloc_heap_new w2 _) ((T1.out.below B2.out).below al) (txt_nil _) (T3.out.below al) (T4.out.below al) C1.out (capZ (txt_nil w)) C3.out C4.out

def noneL : List Comp := [(1, ⟨[48], [48], [48], [[48]], []⟩)]
theorem CompsP.back {w W W' : World} {cs : List Comp} {e : Ending} (h : CompsP A W cs e W') (hb : Below w.heap.size w W) : CompsP A w cs e W' := by
  obtain ⟨h1, h2⟩ := h
  refine ⟨hb.trans (h1.mono hb.size), ?_⟩
  rcases h2 with h2 | ⟨b, xs, h3, h4, h5⟩
  · exact .inl h2
  · exact .inr ⟨b, xs, h3, Nat.le_trans hb.size h4, h5⟩

set_option maxRecDepth 100000 in
theorem none_any (w : World) (hA : ∀ b, w.heap.size ≤ b → A b) : Calls Tryz.prog 168 #[] w (CompsP A w noneL) := by
  have HA := hide hA
  clear hA
  have F := hide (fun W => first_new ⟨[48], [48], [48], [], []⟩ none none 0 0 0 0 W)
  have O := hide (fun u W h => one_any (A := A) 1 u ⟨[48], [48], [48], [[48]], []⟩ W h)
  go_enter Tryz.func168, Tryz.ntmps168
  go_wp2_with fail
  refine (F.out _).mono ?_
  rintro e w1 ⟨hb1, b, rfl, hbb, tb⟩
  have TB := hide tb
  clear tb
  go_wp2_with fail
  refine (O.out _ _ ⟨_, _, rfl, TB.out, txt_nil _, capA_one (HA.out b hbb), capZ (txt_nil w)⟩).mono ?_
  rintro e w2 h
  have hc := h.back hb1
  obtain ⟨_, h1 | ⟨b2, xs, rfl, h4, h5⟩⟩ := id h
  · cases h1.1
  have HC := hide hc
  clear hc h h4 h5
  try dsimp only
  go_wp2_with fail
  go_ret
  exact HC.out

end Go.Proofs.YtpdlgiioahjhiaaGreat

namespace Go.Proofs.YtpdlgiioahjhiaaGreat
open Go.RowKit
set_option linter.unusedVariables false
variable {A : Nat → Prop}

def equalL (p : PartL) : List Comp := if p.told = 0 then [] else if p.told = 3 then [(5, begL p)] else withL p ((p.told : Int) - 1)
def lessL (p : PartL) : List Comp := if p.told = 0 then noneL else if p.told = 3 then [(1, begL p)] else [(1, firstL (begL p))]
def upToL (p : PartL) : List Comp := if p.told = 0 then [] else if p.told = 3 then [(2, begL p)] else [(1, behL p ((p.told : Int) - 1))]
def moreL (p : PartL) : List Comp := if p.told = 0 then noneL else if p.told = 3 then [(3, begL p)] else [(4, nextW (begL p) ((p.told : Int) - 1))]
def fromL (p : PartL) : List Comp := if p.told = 0 then [] else [(4, begL p)]
def tildeL (p : PartL) : List Comp := if p.told = 0 then [] else withL p (min ((p.told : Int) - 1) 1)
def caretL (p : PartL) : List Comp := if p.told = 0 then [] else if p.told = 1 ∨ p.maj ≠ [48] then withL p 0 else if p.told = 2 ∨ p.min ≠ [48] then withL p 1 else withL p 2
theorem next_semv (v : Value) (p : PartL) (k : Int) (w : World) (hv : SemV A w v (begL p)) (hp : PShort p) :
    Calls Tryz.prog 149 #[v, .int .i64 k] w fun e w' => Below w.heap.size w w' ∧ ∃ u, e = .returned u ∧ SemV A w' u (nextW (begL p) k) := by
  refine (NextV_any v (begL p) k w hv.toAt hp.sem (by have := hp.a; simp only [begL]; omega) (by have := hp.b; simp only [begL]; omega) (by have := hp.c; simp only [begL]; omega)).mono ?_
  rintro e w' ⟨hb, u, rfl, q1, q2, rfl, s1, s2⟩
  obtain ⟨z1, z2⟩ := next_nil (begL p) k
  exact ⟨hb, _, rfl, q1, q2, rfl, s1, s2, capZ (by rw [z1] at s1; exact s1), capZ (by rw [z2] at s2; exact s2)⟩
theorem str_ne {x : List UInt8} (h : x ≠ [48]) : ((ofL x).toList == [48]) = false := by
  rw [Bool.eq_false_iff]
  intro e
  have := LawfulBEq.eq_of_beq e
  exact h (by simpa [toL, ofL_data] using this)
theorem str_eq {x : List UInt8} (h : x = [48]) : ((ofL x).toList == [48]) = true := by subst h; rw [toL, ofL_data]; rfl

set_option maxRecDepth 100000 in
set_option maxHeartbeats 2000000 in
theorem equal_any (v : Value) (p : PartL) (w : World) (hA : ∀ b, w.heap.size ≤ b → A b) (hv : PartV A w v p) (hp : PShort p) :
    Calls Tryz.prog 160 #[v] w (CompsP A w (equalL p)) := by
  have hv0 := hide hv
  have WI := hide (fun (k : Int) W (hW : Below w.heap.size w W) => withinP_any v p k W (fun b hb => hA b (Nat.le_trans hW.size hb)) (hv.below hW) hp)
  have BE := hide (fun (k : Int) W (hW : Below w.heap.size w W) => behind_any v p k W (fun b hb => hA b (Nat.le_trans hW.size hb)) (hv.below hW) hp)
  obtain ⟨vp, rfl, t1, c1, a1, n1, k1, rfl⟩ := hv
  have SB := hide (fun W (hW : Below w.heap.size w W) => (⟨_, _, rfl, t1.below hW, txt_nil W, c1, capZ (txt_nil W)⟩ : SemV A W (.agg #[.string (ofL p.maj), .string (ofL p.min), .string (ofL p.pat), .slice a1 n1 k1, .slice none 0 0]) (begL p)))
  have O := hide (fun (op : Int) x u W (h : SemV A W u x) => one_any op u x W h)
  have NO := hide (fun W (hW : Below w.heap.size w W) => none_any W (fun b hb => hA b (Nat.le_trans hW.size hb)))
  have HA := hide hA
  clear hA
  have hle := hp.t
  have PS := hide hp
  clear t1 c1 hv0 hp
  unfold partW at WI BE ⊢
  have b0 := hide ((Below.refl _ w).alloc (Nat.le_refl _) (.cells #[.string (ofL p.maj), .string (ofL p.min), .string (ofL p.pat), .slice a1 n1 k1, .slice none 0 0, .int .i64 (p.told : Int)] 54))
  by_cases h0 : p.told = 0
  · have e0 : ((p.told : Int) == 0) = true := by simp; omega
    have HP : equalL p = _ := if_pos h0
    rw [HP]
    clear HP h0
    go_enter Tryz.func160, Tryz.ntmps160
    go_wp2_with fail
    go_ret
    exact ⟨b0.out, .inl ⟨rfl, rfl⟩⟩
  have e0 : ((p.told : Int) == 0) = false := by simp; omega
  by_cases h3 : p.told = 3
  · have e3 : ((p.told : Int) == 3) = true := by simp; omega
    have HP : equalL p = _ := (if_neg h0).trans (if_pos h3)
    rw [HP]
    clear HP h0 h3
    go_enter Tryz.func160, Tryz.ntmps160
    go_wp2_with fail
    generalize w.alloc _ = W0 at *
    refine (O.out 5 (begL p) _ _ (SB.out _ b0.out)).mono ?_
    rintro e w2 h
    have HC := hide (h.back b0.out)
    obtain ⟨_, h1 | ⟨b2, xs, rfl, h4, h5⟩⟩ := id h
    · cases h1.1
    clear h h4 h5
    try dsimp only
    go_wp2_with fail
    go_ret
    exact HC.out
  have e3 : ((p.told : Int) == 3) = false := by simp; omega
  have HP : equalL p = _ := (if_neg h0).trans (if_neg h3)
  rw [HP]
  clear HP h0 h3
  go_enter Tryz.func160, Tryz.ntmps160
  go_wp2_with fail
  generalize w.alloc _ = W0 at *
  refine (WI.out ((p.told : Int) - 1) _ b0.out).mono ?_
  rintro e w2 h
  have HC := hide (h.back b0.out)
  obtain ⟨_, h1 | ⟨b2, xs, rfl, h4, h5⟩⟩ := id h
  · cases h1.1
  clear h h4 h5
  try dsimp only
  go_wp2_with fail
  go_ret
  exact HC.out

set_option maxRecDepth 100000 in
set_option maxHeartbeats 2000000 in
theorem less_any (v : Value) (p : PartL) (w : World) (hA : ∀ b, w.heap.size ≤ b → A b) (hv : PartV A w v p) (hp : PShort p) :
    Calls Tryz.prog 161 #[v] w (CompsP A w (lessL p)) := by
  have hv0 := hide hv
  have WI := hide (fun (k : Int) W (hW : Below w.heap.size w W) => withinP_any v p k W (fun b hb => hA b (Nat.le_trans hW.size hb)) (hv.below hW) hp)
  have BE := hide (fun (k : Int) W (hW : Below w.heap.size w W) => behind_any v p k W (fun b hb => hA b (Nat.le_trans hW.size hb)) (hv.below hW) hp)
  obtain ⟨vp, rfl, t1, c1, a1, n1, k1, rfl⟩ := hv
  have SB := hide (fun W (hW : Below w.heap.size w W) => (⟨_, _, rfl, t1.below hW, txt_nil W, c1, capZ (txt_nil W)⟩ : SemV A W (.agg #[.string (ofL p.maj), .string (ofL p.min), .string (ofL p.pat), .slice a1 n1 k1, .slice none 0 0]) (begL p)))
  have O := hide (fun (op : Int) x u W (h : SemV A W u x) => one_any op u x W h)
  have NO := hide (fun W (hW : Below w.heap.size w W) => none_any W (fun b hb => hA b (Nat.le_trans hW.size hb)))
  have HA := hide hA
  clear hA
  have hle := hp.t
  have PS := hide hp
  clear t1 c1 hv0 hp
  unfold partW at WI BE ⊢
  have b0 := hide ((Below.refl _ w).alloc (Nat.le_refl _) (.cells #[.string (ofL p.maj), .string (ofL p.min), .string (ofL p.pat), .slice a1 n1 k1, .slice none 0 0, .int .i64 (p.told : Int)] 54))
  by_cases h0 : p.told = 0
  · have e0 : ((p.told : Int) == 0) = true := by simp; omega
    have HP : lessL p = _ := if_pos h0
    rw [HP]
    clear HP h0
    go_enter Tryz.func161, Tryz.ntmps161
    go_wp2_with fail
    generalize w.alloc _ = W0 at *
    refine (NO.out _ b0.out).mono ?_
    rintro e w2 h
    have HC := hide (h.back b0.out)
    obtain ⟨_, h1 | ⟨b2, xs, rfl, h4, h5⟩⟩ := id h
    · cases h1.1
    clear h h4 h5
    try dsimp only
    go_wp2_with fail
    go_ret
    exact HC.out
  have e0 : ((p.told : Int) == 0) = false := by simp; omega
  by_cases h3 : p.told = 3
  · have e3 : ((p.told : Int) == 3) = true := by simp; omega
    have HP : lessL p = _ := (if_neg h0).trans (if_pos h3)
    rw [HP]
    clear HP h0 h3
    go_enter Tryz.func161, Tryz.ntmps161
    go_wp2_with fail
    generalize w.alloc _ = W0 at *
    refine (O.out 1 (begL p) _ _ (SB.out _ b0.out)).mono ?_
    rintro e w2 h
    have HC := hide (h.back b0.out)
    obtain ⟨_, h1 | ⟨b2, xs, rfl, h4, h5⟩⟩ := id h
    · cases h1.1
    clear h h4 h5
    try dsimp only
    go_wp2_with fail
    go_ret
    exact HC.out
  have e3 : ((p.told : Int) == 3) = false := by simp; omega
  have HP : lessL p = _ := (if_neg h0).trans (if_neg h3)
  rw [HP]
  clear HP h0 h3
  go_enter Tryz.func161, Tryz.ntmps161
  go_wp2_with fail
  generalize w.alloc _ = W0 at *
  refine (first_any _ (begL p) _ (fun b hb => HA.out b (Nat.le_trans b0.out.size hb)) (SB.out _ b0.out)).mono ?_
  rintro e w1 ⟨hb1, u, rfl, hu⟩
  obtain ⟨q1, q2, rfl, s1, s2, s3, s4⟩ := hu
  obtain ⟨z1, y1, rfl, _⟩ := id s1
  obtain ⟨z2, y2, rfl, _⟩ := id s2
  have SU := hide (⟨_, _, rfl, s1, s2, s3, s4⟩ : SemV A w1 _ _)
  have b1 := hide (b0.out.trans (hb1.mono b0.out.size))
  clear s1 s2 s3 s4 hb1
  try dsimp only
  go_wp2_with fail
  refine (O.out 1 (firstL (begL p)) _ _ SU.out).mono ?_
  rintro e w2 h
  have HC := hide (h.back b1.out)
  obtain ⟨_, h1 | ⟨b2, xs, rfl, h4, h5⟩⟩ := id h
  · cases h1.1
  clear h h4 h5
  try dsimp only
  go_wp2_with fail
  go_ret
  exact HC.out

set_option maxRecDepth 100000 in
set_option maxHeartbeats 2000000 in
theorem upTo_any (v : Value) (p : PartL) (w : World) (hA : ∀ b, w.heap.size ≤ b → A b) (hv : PartV A w v p) (hp : PShort p) :
    Calls Tryz.prog 87 #[v] w (CompsP A w (upToL p)) := by
  have hv0 := hide hv
  have WI := hide (fun (k : Int) W (hW : Below w.heap.size w W) => withinP_any v p k W (fun b hb => hA b (Nat.le_trans hW.size hb)) (hv.below hW) hp)
  have BE := hide (fun (k : Int) W (hW : Below w.heap.size w W) => behind_any v p k W (fun b hb => hA b (Nat.le_trans hW.size hb)) (hv.below hW) hp)
  obtain ⟨vp, rfl, t1, c1, a1, n1, k1, rfl⟩ := hv
  have SB := hide (fun W (hW : Below w.heap.size w W) => (⟨_, _, rfl, t1.below hW, txt_nil W, c1, capZ (txt_nil W)⟩ : SemV A W (.agg #[.string (ofL p.maj), .string (ofL p.min), .string (ofL p.pat), .slice a1 n1 k1, .slice none 0 0]) (begL p)))
  have O := hide (fun (op : Int) x u W (h : SemV A W u x) => one_any op u x W h)
  have NO := hide (fun W (hW : Below w.heap.size w W) => none_any W (fun b hb => hA b (Nat.le_trans hW.size hb)))
  have HA := hide hA
  clear hA
  have hle := hp.t
  have PS := hide hp
  clear t1 c1 hv0 hp
  unfold partW at WI BE ⊢
  have b0 := hide ((Below.refl _ w).alloc (Nat.le_refl _) (.cells #[.string (ofL p.maj), .string (ofL p.min), .string (ofL p.pat), .slice a1 n1 k1, .slice none 0 0, .int .i64 (p.told : Int)] 54))
  by_cases h0 : p.told = 0
  · have e0 : ((p.told : Int) == 0) = true := by simp; omega
    have HP : upToL p = _ := if_pos h0
    rw [HP]
    clear HP h0
    go_enter Tryz.func87, Tryz.ntmps87
    go_wp2_with fail
    go_ret
    exact ⟨b0.out, .inl ⟨rfl, rfl⟩⟩
  have e0 : ((p.told : Int) == 0) = false := by simp; omega
  by_cases h3 : p.told = 3
  · have e3 : ((p.told : Int) == 3) = true := by simp; omega
    have HP : upToL p = _ := (if_neg h0).trans (if_pos h3)
    rw [HP]
    clear HP h0 h3
    go_enter Tryz.func87, Tryz.ntmps87
    go_wp2_with fail
    generalize w.alloc _ = W0 at *
    refine (O.out 2 (begL p) _ _ (SB.out _ b0.out)).mono ?_
    rintro e w2 h
    have HC := hide (h.back b0.out)
    obtain ⟨_, h1 | ⟨b2, xs, rfl, h4, h5⟩⟩ := id h
    · cases h1.1
    clear h h4 h5
    try dsimp only
    go_wp2_with fail
    go_ret
    exact HC.out
  have e3 : ((p.told : Int) == 3) = false := by simp; omega
  have HP : upToL p = _ := (if_neg h0).trans (if_neg h3)
  rw [HP]
  clear HP h0 h3
  go_enter Tryz.func87, Tryz.ntmps87
  go_wp2_with fail
  generalize w.alloc _ = W0 at *
  refine (BE.out ((p.told : Int) - 1) _ b0.out).mono ?_
  rintro e w1 ⟨hb1, u, rfl, hu⟩
  obtain ⟨q1, q2, rfl, s1, s2, s3, s4⟩ := hu
  obtain ⟨z1, y1, rfl, _⟩ := id s1
  obtain ⟨z2, y2, rfl, _⟩ := id s2
  have SU := hide (⟨_, _, rfl, s1, s2, s3, s4⟩ : SemV A w1 _ _)
  have b1 := hide (b0.out.trans (hb1.mono b0.out.size))
  clear s1 s2 s3 s4 hb1
  try dsimp only
  go_wp2_with fail
  refine (O.out 1 (behL p ((p.told : Int) - 1)) _ _ SU.out).mono ?_
  rintro e w2 h
  have HC := hide (h.back b1.out)
  obtain ⟨_, h1 | ⟨b2, xs, rfl, h4, h5⟩⟩ := id h
  · cases h1.1
  clear h h4 h5
  try dsimp only
  go_wp2_with fail
  go_ret
  exact HC.out

set_option maxRecDepth 100000 in
set_option maxHeartbeats 2000000 in
theorem more_any (v : Value) (p : PartL) (w : World) (hA : ∀ b, w.heap.size ≤ b → A b) (hv : PartV A w v p) (hp : PShort p) :
    Calls Tryz.prog 162 #[v] w (CompsP A w (moreL p)) := by
  have hv0 := hide hv
  have WI := hide (fun (k : Int) W (hW : Below w.heap.size w W) => withinP_any v p k W (fun b hb => hA b (Nat.le_trans hW.size hb)) (hv.below hW) hp)
  have BE := hide (fun (k : Int) W (hW : Below w.heap.size w W) => behind_any v p k W (fun b hb => hA b (Nat.le_trans hW.size hb)) (hv.below hW) hp)
  obtain ⟨vp, rfl, t1, c1, a1, n1, k1, rfl⟩ := hv
  have SB := hide (fun W (hW : Below w.heap.size w W) => (⟨_, _, rfl, t1.below hW, txt_nil W, c1, capZ (txt_nil W)⟩ : SemV A W (.agg #[.string (ofL p.maj), .string (ofL p.min), .string (ofL p.pat), .slice a1 n1 k1, .slice none 0 0]) (begL p)))
  have O := hide (fun (op : Int) x u W (h : SemV A W u x) => one_any op u x W h)
  have NO := hide (fun W (hW : Below w.heap.size w W) => none_any W (fun b hb => hA b (Nat.le_trans hW.size hb)))
  have HA := hide hA
  clear hA
  have hle := hp.t
  have PS := hide hp
  clear t1 c1 hv0 hp
  unfold partW at WI BE ⊢
  have b0 := hide ((Below.refl _ w).alloc (Nat.le_refl _) (.cells #[.string (ofL p.maj), .string (ofL p.min), .string (ofL p.pat), .slice a1 n1 k1, .slice none 0 0, .int .i64 (p.told : Int)] 54))
  by_cases h0 : p.told = 0
  · have e0 : ((p.told : Int) == 0) = true := by simp; omega
    have HP : moreL p = _ := if_pos h0
    rw [HP]
    clear HP h0
    go_enter Tryz.func162, Tryz.ntmps162
    go_wp2_with fail
    generalize w.alloc _ = W0 at *
    refine (NO.out _ b0.out).mono ?_
    rintro e w2 h
    have HC := hide (h.back b0.out)
    obtain ⟨_, h1 | ⟨b2, xs, rfl, h4, h5⟩⟩ := id h
    · cases h1.1
    clear h h4 h5
    try dsimp only
    go_wp2_with fail
    go_ret
    exact HC.out
  have e0 : ((p.told : Int) == 0) = false := by simp; omega
  by_cases h3 : p.told = 3
  · have e3 : ((p.told : Int) == 3) = true := by simp; omega
    have HP : moreL p = _ := (if_neg h0).trans (if_pos h3)
    rw [HP]
    clear HP h0 h3
    go_enter Tryz.func162, Tryz.ntmps162
    go_wp2_with fail
    generalize w.alloc _ = W0 at *
    refine (O.out 3 (begL p) _ _ (SB.out _ b0.out)).mono ?_
    rintro e w2 h
    have HC := hide (h.back b0.out)
    obtain ⟨_, h1 | ⟨b2, xs, rfl, h4, h5⟩⟩ := id h
    · cases h1.1
    clear h h4 h5
    try dsimp only
    go_wp2_with fail
    go_ret
    exact HC.out
  have e3 : ((p.told : Int) == 3) = false := by simp; omega
  have HP : moreL p = _ := (if_neg h0).trans (if_neg h3)
  rw [HP]
  clear HP h0 h3
  go_enter Tryz.func162, Tryz.ntmps162
  go_wp2_with fail
  generalize w.alloc _ = W0 at *
  refine (next_semv _ p ((p.told : Int) - 1) _ (SB.out _ b0.out) PS.out).mono ?_
  rintro e w1 ⟨hb1, u, rfl, hu⟩
  obtain ⟨q1, q2, rfl, s1, s2, s3, s4⟩ := hu
  obtain ⟨z1, y1, rfl, _⟩ := id s1
  obtain ⟨z2, y2, rfl, _⟩ := id s2
  have SU := hide (⟨_, _, rfl, s1, s2, s3, s4⟩ : SemV A w1 _ _)
  have b1 := hide (b0.out.trans (hb1.mono b0.out.size))
  clear s1 s2 s3 s4 hb1
  try dsimp only
  go_wp2_with fail
  refine (O.out 4 (nextW (begL p) ((p.told : Int) - 1)) _ _ SU.out).mono ?_
  rintro e w2 h
  have HC := hide (h.back b1.out)
  obtain ⟨_, h1 | ⟨b2, xs, rfl, h4, h5⟩⟩ := id h
  · cases h1.1
  clear h h4 h5
  try dsimp only
  go_wp2_with fail
  go_ret
  exact HC.out

set_option maxRecDepth 100000 in
set_option maxHeartbeats 2000000 in
theorem from_any (v : Value) (p : PartL) (w : World) (hA : ∀ b, w.heap.size ≤ b → A b) (hv : PartV A w v p) (hp : PShort p) :
    Calls Tryz.prog 85 #[v] w (CompsP A w (fromL p)) := by
  have hv0 := hide hv
  have WI := hide (fun (k : Int) W (hW : Below w.heap.size w W) => withinP_any v p k W (fun b hb => hA b (Nat.le_trans hW.size hb)) (hv.below hW) hp)
  have BE := hide (fun (k : Int) W (hW : Below w.heap.size w W) => behind_any v p k W (fun b hb => hA b (Nat.le_trans hW.size hb)) (hv.below hW) hp)
  obtain ⟨vp, rfl, t1, c1, a1, n1, k1, rfl⟩ := hv
  have SB := hide (fun W (hW : Below w.heap.size w W) => (⟨_, _, rfl, t1.below hW, txt_nil W, c1, capZ (txt_nil W)⟩ : SemV A W (.agg #[.string (ofL p.maj), .string (ofL p.min), .string (ofL p.pat), .slice a1 n1 k1, .slice none 0 0]) (begL p)))
  have O := hide (fun (op : Int) x u W (h : SemV A W u x) => one_any op u x W h)
  have NO := hide (fun W (hW : Below w.heap.size w W) => none_any W (fun b hb => hA b (Nat.le_trans hW.size hb)))
  have HA := hide hA
  clear hA
  have hle := hp.t
  have PS := hide hp
  clear t1 c1 hv0 hp
  unfold partW at WI BE ⊢
  have b0 := hide ((Below.refl _ w).alloc (Nat.le_refl _) (.cells #[.string (ofL p.maj), .string (ofL p.min), .string (ofL p.pat), .slice a1 n1 k1, .slice none 0 0, .int .i64 (p.told : Int)] 54))
  by_cases h0 : p.told = 0
  · have e0 : ((p.told : Int) == 0) = true := by simp; omega
    have HP : fromL p = _ := if_pos h0
    rw [HP]
    clear HP h0
    go_enter Tryz.func85, Tryz.ntmps85
    go_wp2_with fail
    go_ret
    exact ⟨b0.out, .inl ⟨rfl, rfl⟩⟩
  have e0 : ((p.told : Int) == 0) = false := by simp; omega
  have HP : fromL p = _ := if_neg h0
  rw [HP]
  clear HP h0
  go_enter Tryz.func85, Tryz.ntmps85
  go_wp2_with fail
  generalize w.alloc _ = W0 at *
  refine (O.out 4 (begL p) _ _ (SB.out _ b0.out)).mono ?_
  rintro e w2 h
  have HC := hide (h.back b0.out)
  obtain ⟨_, h1 | ⟨b2, xs, rfl, h4, h5⟩⟩ := id h
  · cases h1.1
  clear h h4 h5
  try dsimp only
  go_wp2_with fail
  go_ret
  exact HC.out

set_option maxRecDepth 100000 in
set_option maxHeartbeats 2000000 in
theorem tilde_any (v : Value) (p : PartL) (w : World) (hA : ∀ b, w.heap.size ≤ b → A b) (hv : PartV A w v p) (hp : PShort p) :
    Calls Tryz.prog 163 #[v] w (CompsP A w (tildeL p)) := by
  have hv0 := hide hv
  have WI := hide (fun (k : Int) W (hW : Below w.heap.size w W) => withinP_any v p k W (fun b hb => hA b (Nat.le_trans hW.size hb)) (hv.below hW) hp)
  have BE := hide (fun (k : Int) W (hW : Below w.heap.size w W) => behind_any v p k W (fun b hb => hA b (Nat.le_trans hW.size hb)) (hv.below hW) hp)
  obtain ⟨vp, rfl, t1, c1, a1, n1, k1, rfl⟩ := hv
  have SB := hide (fun W (hW : Below w.heap.size w W) => (⟨_, _, rfl, t1.below hW, txt_nil W, c1, capZ (txt_nil W)⟩ : SemV A W (.agg #[.string (ofL p.maj), .string (ofL p.min), .string (ofL p.pat), .slice a1 n1 k1, .slice none 0 0]) (begL p)))
  have O := hide (fun (op : Int) x u W (h : SemV A W u x) => one_any op u x W h)
  have NO := hide (fun W (hW : Below w.heap.size w W) => none_any W (fun b hb => hA b (Nat.le_trans hW.size hb)))
  have HA := hide hA
  clear hA
  have hle := hp.t
  have PS := hide hp
  clear t1 c1 hv0 hp
  unfold partW at WI BE ⊢
  have b0 := hide ((Below.refl _ w).alloc (Nat.le_refl _) (.cells #[.string (ofL p.maj), .string (ofL p.min), .string (ofL p.pat), .slice a1 n1 k1, .slice none 0 0, .int .i64 (p.told : Int)] 54))
  by_cases h0 : p.told = 0
  · have e0 : ((p.told : Int) == 0) = true := by simp; omega
    have HP : tildeL p = _ := if_pos h0
    rw [HP]
    clear HP h0
    go_enter Tryz.func163, Tryz.ntmps163
    go_wp2_with fail
    go_ret
    exact ⟨b0.out, .inl ⟨rfl, rfl⟩⟩
  have e0 : ((p.told : Int) == 0) = false := by simp; omega
  have HP : tildeL p = _ := if_neg h0
  rw [HP]
  clear HP h0
  go_enter Tryz.func163, Tryz.ntmps163
  go_wp2_with fail
  generalize w.alloc _ = W0 at *
  refine (WI.out (min ((p.told : Int) - 1) 1) _ b0.out).mono ?_
  rintro e w2 h
  have HC := hide (h.back b0.out)
  obtain ⟨_, h1 | ⟨b2, xs, rfl, h4, h5⟩⟩ := id h
  · cases h1.1
  clear h h4 h5
  try dsimp only
  go_wp2_with fail
  go_ret
  exact HC.out

set_option maxRecDepth 100000 in
set_option maxHeartbeats 2000000 in
theorem caret_any (v : Value) (p : PartL) (w : World) (hA : ∀ b, w.heap.size ≤ b → A b) (hv : PartV A w v p) (hp : PShort p) :
    Calls Tryz.prog 164 #[v] w (CompsP A w (caretL p)) := by
  have hv0 := hide hv
  have WI := hide (fun (k : Int) W (hW : Below w.heap.size w W) => withinP_any v p k W (fun b hb => hA b (Nat.le_trans hW.size hb)) (hv.below hW) hp)
  have BE := hide (fun (k : Int) W (hW : Below w.heap.size w W) => behind_any v p k W (fun b hb => hA b (Nat.le_trans hW.size hb)) (hv.below hW) hp)
  obtain ⟨vp, rfl, t1, c1, a1, n1, k1, rfl⟩ := hv
  have SB := hide (fun W (hW : Below w.heap.size w W) => (⟨_, _, rfl, t1.below hW, txt_nil W, c1, capZ (txt_nil W)⟩ : SemV A W (.agg #[.string (ofL p.maj), .string (ofL p.min), .string (ofL p.pat), .slice a1 n1 k1, .slice none 0 0]) (begL p)))
  have O := hide (fun (op : Int) x u W (h : SemV A W u x) => one_any op u x W h)
  have NO := hide (fun W (hW : Below w.heap.size w W) => none_any W (fun b hb => hA b (Nat.le_trans hW.size hb)))
  have HA := hide hA
  clear hA
  have hle := hp.t
  have PS := hide hp
  clear t1 c1 hv0 hp
  unfold partW at WI BE ⊢
  have b0 := hide ((Below.refl _ w).alloc (Nat.le_refl _) (.cells #[.string (ofL p.maj), .string (ofL p.min), .string (ofL p.pat), .slice a1 n1 k1, .slice none 0 0, .int .i64 (p.told : Int)] 54))
  by_cases h0 : p.told = 0
  · have e0 : ((p.told : Int) == 0) = true := by simp; omega
    have HP : caretL p = _ := if_pos h0
    rw [HP]
    clear HP h0
    go_enter Tryz.func164, Tryz.ntmps164
    go_wp2_with fail
    go_ret
    exact ⟨b0.out, .inl ⟨rfl, rfl⟩⟩
  have e0 : ((p.told : Int) == 0) = false := by simp; omega
  by_cases h1 : p.told = 1
  · have e1 : ((p.told : Int) == 1) = true := by simp; omega
    have HP : caretL p = _ := (if_neg h0).trans (if_pos (.inl h1))
    rw [HP]
    clear HP h0 h1
    go_enter Tryz.func164, Tryz.ntmps164
    go_wp2_with fail
    generalize w.alloc _ = W0 at *
    refine (WI.out 0 _ b0.out).mono ?_
    rintro e w2 h
    have HC := hide (h.back b0.out)
    obtain ⟨_, h1 | ⟨b2, xs, rfl, h4, h5⟩⟩ := id h
    · cases h1.1
    clear h h4 h5
    try dsimp only
    go_wp2_with fail
    go_ret
    exact HC.out
  have e1 : ((p.told : Int) == 1) = false := by simp; omega
  by_cases hm : p.maj = [48]
  · have m0 := str_eq hm
    by_cases h2 : p.told = 2
    · have e2 : ((p.told : Int) == 2) = true := by simp; omega
      have HP : caretL p = _ := (if_neg h0).trans ((if_neg (fun h => h.elim h1 (fun x => x hm))).trans (if_pos (.inl h2)))
      rw [HP]
      clear HP h0 h1 h2 hm
      go_enter Tryz.func164, Tryz.ntmps164
      go_wp2_with fail
      generalize w.alloc _ = W0 at *
      refine (WI.out 1 _ b0.out).mono ?_
      rintro e w2 h
      have HC := hide (h.back b0.out)
      obtain ⟨_, h1 | ⟨b2, xs, rfl, h4, h5⟩⟩ := id h
      · cases h1.1
      clear h h4 h5
      try dsimp only
      go_wp2_with fail
      go_ret
      exact HC.out
    have e2 : ((p.told : Int) == 2) = false := by simp; omega
    by_cases hn : p.min = [48]
    · have n0 := str_eq hn
      have HP : caretL p = _ := (if_neg h0).trans ((if_neg (fun h => h.elim h1 (fun x => x hm))).trans (if_neg (fun h => h.elim h2 (fun x => x hn))))
      rw [HP]
      clear HP h0 h1 h2 hm hn
      go_enter Tryz.func164, Tryz.ntmps164
      go_wp2_with fail
      generalize w.alloc _ = W0 at *
      refine (WI.out 2 _ b0.out).mono ?_
      rintro e w2 h
      have HC := hide (h.back b0.out)
      obtain ⟨_, h1 | ⟨b2, xs, rfl, h4, h5⟩⟩ := id h
      · cases h1.1
      clear h h4 h5
      try dsimp only
      go_wp2_with fail
      go_ret
      exact HC.out
    have n0 := str_ne hn
    have HP : caretL p = _ := (if_neg h0).trans ((if_neg (fun h => h.elim h1 (fun x => x hm))).trans (if_pos (.inr hn)))
    rw [HP]
    clear HP h0 h1 h2 hm hn
    go_enter Tryz.func164, Tryz.ntmps164
    go_wp2_with fail
    generalize w.alloc _ = W0 at *
    refine (WI.out 1 _ b0.out).mono ?_
    rintro e w2 h
    have HC := hide (h.back b0.out)
    obtain ⟨_, h1 | ⟨b2, xs, rfl, h4, h5⟩⟩ := id h
    · cases h1.1
    clear h h4 h5
    try dsimp only
    go_wp2_with fail
    go_ret
    exact HC.out
  have m0 := str_ne hm
  have HP : caretL p = _ := (if_neg h0).trans (if_pos (.inr hm))
  rw [HP]
  clear HP h0 h1 hm
  go_enter Tryz.func164, Tryz.ntmps164
  go_wp2_with fail
  generalize w.alloc _ = W0 at *
  refine (WI.out 0 _ b0.out).mono ?_
  rintro e w2 h
  have HC := hide (h.back b0.out)
  obtain ⟨_, h1 | ⟨b2, xs, rfl, h4, h5⟩⟩ := id h
  · cases h1.1
  clear h h4 h5
  try dsimp only
  go_wp2_with fail
  go_ret
  exact HC.out

end Go.Proofs.YtpdlgiioahjhiaaGreat

namespace Go.Proofs.YtpdlgiioahjhiaaGreat
open Go.RowKit Go.Shelf
set_option linter.unusedVariables false

def Book (l D : Nat) (r : Loop) (W : World) : Prop := W.heap[l]? = some (.loop r) ∧ W.heap[D]? = some (.deferred (some []))
theorem Book.grown {l D : Nat} {r : Loop} {A B : World} {row : Option Nat} (h : Book l D r A) (hg : A.grownBy B row) (hr : ∀ k, row = some k → ∃ o : Obj, A.heap[k]? = some o ∧ o.isWalk = true) : Book l D r B :=
  ⟨(grownBy_keeps hg hr h.1 rfl).trans h.1, (grownBy_keeps hg hr h.2 rfl).trans h.2⟩
theorem Book.keeps {l D n : Nat} {r : Loop} {A B : World} (h : Book l D r A) (hk : KeepsFrom n A B) (h1 : n ≤ l) (h2 : n ≤ D) : Book l D r B :=
  ⟨hk.same l _ h1 h.1 rfl, hk.same D _ h2 h.2 rfl⟩
theorem Book.turn {l D : Nat} {r : Loop} {A : World} (h : Book l D r A) (hne : l ≠ D) (r' : Loop) : Book l D r' (A.putObj l (.loop r')) :=
  ⟨World.putObj_heap_same (Array.getElem?_eq_some_iff.1 h.1).1, (World.putObj_heap_other (Ne.symm hne)).trans h.2⟩

def SeqC {α : Type} (F : Fence) (n : Nat) (P : Program) (g : Nat) (lb : Array Value) (encs : α → Array Value) (C : List α → α → World → World → Prop) (G : α → Prop) (Kp : World → World → Prop) (S Sp : List α → Prop) (w : World) : Prop :=
  ∀ (l : Nat) (J Jx : List α → World → Prop) (W : World), Below w.heap.size w W → AbidesFrom W.heap.size J → AbidesFrom W.heap.size Jx →
    (∀ pre x W0 W1, J pre W0 → J pre W1 → Below W0.heap.size W0 W1 → C pre x W0 W1 → YieldAt F (n - 1) P l (encs x) W1 fun e W' => (e = .returned (.bool true) ∧ G x ∧ J (pre ++ [x]) W' ∧ Kp W1 W') ∨ (e = .returned (.bool false) ∧ Jx (pre ++ [x]) W')) →
    J [] W → CallsIn F n P g (#[.func (.yield l) #[] #[]] ++ lb) W fun e W' => (∃ v, e = .returned v) ∧ ((∃ xs, S xs ∧ J xs W') ∨ (∃ pre, Sp pre ∧ Jx pre W'))

theorem range_cond {F : Fence} {n : Nat} {P : Program} {α : Type} {g : Operand} {ps : Array Tmp} {assign body : Code} {Q : Exit → Act → World → Prop} {a : Act} {w : World}
    (hro : F.round = none) (h1 : 1 ≤ n) {gf : Nat} {lb : Array Value} (hg : a.eval g = .func (.func gf) #[] lb) (hF : F.fn gf) (eg : ∀ args w, (callFunc gf args).run P w = .ok (.enter gf args) w)
    {encs : α → Array Value} {C : List α → α → World → World → Prop} {G : α → Prop} {Kp : World → World → Prop} {S Sp : List α → Prop} {w0 : World} (hseq : SeqC F (n - 1) P gf lb encs C G Kp S Sp w0) (hw0 : Below w0.heap.size w0 w)
    (hKt : ∀ {A B D : World}, Kp A B → Kp B D → Kp A D) (hKb : ∀ (W : World) (l : Nat) (o o' : Obj), w.heap.size ≤ l → W.heap[l]? = some o → o.isCells = false → o.isWalk = false → Kp W (W.putObj l o'))
    (hps : ∀ x, (encs x).size = ps.size) (I : List α → World → Prop) (Ix : Code → List α → World → Prop) (hI : OwnFrom w.heap.size I) (hIx : ∀ c, OwnFrom w.heap.size (Ix c)) (h0 : I [] w) (hG : ∀ pre x W, I (pre ++ [x]) W → G x)
    (Ax : List α → α → Act → World → Prop) (hAx : ∀ pre x b, OwnFrom w.heap.size (fun (_ : Unit) W => Ax pre x b W))
    (hassign : ∀ (l : Nat) (pre : List α) (x : α) (W0 W : World) (K : Act → World → Prop), I pre W0 → I pre W → Below W0.heap.size W0 W → C pre x W0 W → (∀ b W', KeepsFrom w.heap.size W W' → Kp W W' → I pre W' → Ax pre x b W' → K b W') →
      assign.wpIn (F.inRound l) (n - 1 - 1) P (Exit.then K (fun _ _ _ => False)) ⟨(ps.zip (encs x)).foldl (fun t (p, v) => t.setIfInBounds p v) a.tmps, []⟩ W)
    (hbody : ∀ (l : Nat) (pre : List α) (x : α) (b : Act) (W : World), w.heap.size ≤ l → (∃ r, W.heap[l]? = some (.loop r)) → I pre W → Ax pre x b W → body.wpIn (F.inRound l) (n - 1 - 1) P (ownPostG w.heap.size Kp I Ix (pre ++ [x]) W) b W)
    (hdone : ∀ (D : Nat) (xs : List α) (W : World), w.heap.size ≤ D → S xs → I xs W → W.heap[D]? = some (.deferred (some [])) → Q .normal ⟨a.tmps, ⟨.collected D, #[]⟩ :: a.defers⟩ W)
    (hstop : ∀ (D : Nat) (c : Code) (pre : List α) (W : World), w.heap.size ≤ D → Sp pre → Ix c pre W → W.heap[D]? = some (.deferred (some [])) → c.wpIn F n P Q ⟨a.tmps, ⟨.collected D, #[]⟩ :: a.defers⟩ W) :
    (Code.rangeFunc g ps assign body).wpIn F n P Q a w := by
  refine wpIn_rangeFunc fun fn hfn => ?_
  rw [hro]
  -- the record in its states
  let R : LoopState → Option Code → Loop := fun st pe => ⟨st, pe, fn, a.tmps, ps, assign, body, w.heap.size⟩
  have hne : w.heap.size + 1 ≠ w.heap.size := by omega
  have hbk : Book (w.heap.size + 1) w.heap.size (R .ready none) ((w.alloc (.deferred (some []))).alloc (.loop (R .ready none))) :=
    ⟨by have := World.alloc_heap_new (w.alloc (.deferred (some []))) (.loop (R .ready none)); rwa [World.size_alloc] at this, (Below.heap_alloc _ _ _ (by simp)).trans (World.alloc_heap_new w _)⟩
  refine ⟨w.heap.size + 1, [⟨.collected w.heap.size, #[]⟩], ((w.alloc (.deferred (some []))).alloc (.loop (R .ready none))), ⟨.fn (.func gf) lb, #[.func (.yield (w.heap.size + 1)) #[] #[]]⟩, ((w.alloc (.deferred (some []))).alloc (.loop (R .ready none))), gf, #[.func (.yield (w.heap.size + 1)) #[] #[]] ++ lb, ((w.alloc (.deferred (some []))).alloc (.loop (R .ready none))), run_enterLoop_outer fn a.tmps ps assign body, ?_, ?_, ?_, fun _ => h1, ?_⟩
  · simp only [resolve, hg]
    simp [go_sem]
  · intro f hf
    simp [Target.leads] at hf
    subst hf
    exact hF
  · simp [invoke, go_sem, eg]
  have hsz : ((w.alloc (.deferred (some []))).alloc (.loop (R .ready none))).heap.size = w.heap.size + 2 := by simp
  have hst : Below w0.heap.size w0 ((w.alloc (.deferred (some []))).alloc (.loop (R .ready none))) := hw0.trans ((((Below.refl _ w).alloc (Nat.le_refl _) _).alloc (by simp) _).mono hw0.size)
  have hi0 : I [] ((w.alloc (.deferred (some []))).alloc (.loop (R .ready none))) := hI.alloc _ (hI.alloc _ h0)
  change CallsIn F (n - 1) P gf _ ((w.alloc (.deferred (some []))).alloc (.loop (R .ready none))) _
  generalize (w.alloc (.deferred (some []))).alloc (.loop (R .ready none)) = V at *
  have hrow : ∀ {A : World} {row : Option Nat}, (∀ r, row = some r → V.heap.size ≤ r ∧ ∃ o : Obj, A.heap[r]? = some o ∧ o.isWalk = true) → ∀ r, row = some r → w.heap.size ≤ r ∧ ∃ o : Obj, A.heap[r]? = some o ∧ o.isCells = false := by
    intro A row h r e
    obtain ⟨hr, o, ho, hw⟩ := h r e
    exact ⟨by omega, o, ho, Obj.not_cells_of_walk hw⟩
  refine (hseq (w.heap.size + 1) (fun pre W => I pre W ∧ Book (w.heap.size + 1) w.heap.size (R .ready none) W) (fun pre W => ∃ c, Ix c pre W ∧ Book (w.heap.size + 1) w.heap.size (R .done (some c)) W) V hst
    (fun s A B row h hgr hr => ⟨hI s A B row h.1 hgr (hrow hr), h.2.grown hgr (fun r e => (hr r e).2)⟩)
    (fun s A B row h hgr hr => by obtain ⟨c, hc, hb⟩ := h; exact ⟨c, hIx c s A B row hc hgr (hrow hr), hb.grown hgr (fun r e => (hr r e).2)⟩) ?round ⟨hi0, hbk⟩).mono ?after
  case after =>
    rintro e W ⟨⟨v, rfl⟩, ⟨xs, hS, hi, hb⟩ | ⟨pre, hS, c, hi, hb⟩⟩
    · exact ⟨none, _, run_endLoop (P := P) hb.1 (by simp [R]), hdone _ xs _ (Nat.le_refl _) hS (hI.putObj _ hi (by omega) hb.1 rfl) (hb.turn hne _).2⟩
    · exact ⟨some c, _, run_endLoop (P := P) hb.1 (by simp [R]), hstop _ c pre _ (Nat.le_refl _) hS ((hIx c).putObj _ hi (by omega) hb.1 rfl) (hb.turn hne _).2⟩
  case round =>
    rintro pre x W0 W ⟨hi9, _⟩ ⟨hi, hb⟩ hbl hc
    refine ⟨fn, _, assign, body, run_yield (P := P) (args := encs x) hb.1 (hps x), roundIn_of_wpIn hfn (hassign _ pre x W0 W _ hi9 hi hbl hc ?_)⟩
    intro b V1 hk1 hp1 hi1 ha1
    have hb1 := hb.keeps hk1 (Nat.le_succ _) (Nat.le_refl _)
    refine ⟨_, run_beginRound (P := P) hb1.1 rfl, ?_⟩
    have hb2 := hb1.turn hne { R .ready none with state := .busy }
    refine wpIn_mono (hbody _ pre x b _ (Nat.le_succ _) ⟨_, hb2.1⟩ (hI.putObj _ hi1 (by omega) hb1.1 rfl) ((hAx pre x b).putObj (s := ()) _ ha1 (by omega) hb1.1 rfl)) ?_
    have hp2 := hKb V1 (w.heap.size + 1) (.loop (R .ready none)) (.loop { R .ready none with state := .busy }) (by omega) hb1.1 rfl rfl
    intro e b3 V3 hp
    cases e with
    | normal =>
      obtain ⟨hk3, hp3, hi3⟩ := hp
      have hb3 := hb2.keeps hk3 (Nat.le_succ _) (Nat.le_refl _)
      exact ⟨_, _, run_endRound (P := P) none hb3.1, .inl ⟨rfl, hG _ _ _ hi3, ⟨hI.putObj _ hi3 (by omega) hb3.1 rfl, hb3.turn hne _⟩, hKt hp1 (hKt (hKt hp2 hp3) (hKb _ _ _ _ (by omega) hb3.1 rfl rfl))⟩⟩
    | ret =>
      obtain ⟨hk3, hi3⟩ := hp
      have hb3 := hb2.keeps hk3 (Nat.le_succ _) (Nat.le_refl _)
      exact ⟨_, _, run_endRound (P := P) (some .ret) hb3.1, .inr ⟨rfl, .ret, (hIx _).putObj _ hi3 (by omega) hb3.1 rfl, hb3.turn hne _⟩⟩
    | exit id =>
      obtain ⟨hk3, hi3⟩ := hp
      have hb3 := hb2.keeps hk3 (Nat.le_succ _) (Nat.le_refl _)
      exact ⟨_, _, run_endRound (P := P) (some (.exit id)) hb3.1, .inr ⟨rfl, .exit id, (hIx _).putObj _ hi3 (by omega) hb3.1 rfl, hb3.turn hne _⟩⟩
    | goto t =>
      obtain ⟨hk3, hi3⟩ := hp
      have hb3 := hb2.keeps hk3 (Nat.le_succ _) (Nat.le_refl _)
      exact ⟨_, _, run_endRound (P := P) (some (.goto t)) hb3.1, .inr ⟨rfl, .goto t, (hIx _).putObj _ hi3 (by omega) hb3.1 rfl, hb3.turn hne _⟩⟩
    | panic ch => exact hp.elim
    | outgrown => exact hp.elim

end Go.Proofs.YtpdlgiioahjhiaaGreat

namespace Go.Proofs.YtpdlgiioahjhiaaGreat
open Go.RowKit Go.Shelf
set_option linter.unusedVariables false

attribute [local go_sem] Oper.semAt_some

structure Item where
  p : PartL
  f : Nat
  err : Int
  pos : Int
def itemL (l : List UInt8) (a : Nat) : Item := ⟨(rpL l (opE l a)).1, (opL l a).2, (rpL l (opE l a)).2.2, (rpL l (opE l a)).2.1⟩
def rowG (l : List UInt8) : Nat → Nat → Nat → List Item
  | 0, _, _ => []
  | n + 1, k, a => if endsL l a = true then [] else if k = 32 then [⟨partN, 0, 12, (a : Int)⟩] else if (itemL l a).err ≠ 0 then [itemL l a] else itemL l a :: rowG l n (k + 1) (blk l (itemL l a).pos.toNat)
def rowL (l : List UInt8) (a : Nat) : List Item := rowG l 33 0 a
theorem rowG_end {l : List UInt8} {n k a : Nat} (h : endsL l a = true) : rowG l (n + 1) k a = [] := if_pos h
theorem rowG_many {l : List UInt8} {n a : Nat} (h : endsL l a = false) : rowG l (n + 1) 32 a = [⟨partN, 0, 12, (a : Int)⟩] := by
  unfold rowG; rw [if_neg (by rw [h]; decide), if_pos rfl]
theorem rowG_bad {l : List UInt8} {n k a : Nat} (h : endsL l a = false) (hk : k ≠ 32) (he : (itemL l a).err ≠ 0) : rowG l (n + 1) k a = [itemL l a] := by
  unfold rowG; rw [if_neg (by rw [h]; decide), if_neg hk, if_pos he]
theorem rowG_go {l : List UInt8} {n k a : Nat} (h : endsL l a = false) (hk : k ≠ 32) (he : (itemL l a).err = 0) : rowG l (n + 1) k a = itemL l a :: rowG l n (k + 1) (blk l (itemL l a).pos.toNat) := by
  rw [rowG, if_neg (by rw [h]; decide), if_neg hk, if_neg (by rw [he]; decide)]
def encI (x : Item × Value) : Array Value := #[partF x.1.p x.2 (fnV x.1.f) x.1.err, .int .i64 x.1.pos]
def CX (R Z : Nat) (items : List Item) (pre : List (Item × Value)) (x : Item × Value) (W0 W : World) : Prop :=
  pre.map Prod.fst ++ [x.1] <+: items ∧ Txt W x.2 x.1.p.pre ∧ Cap x.2 ∧ ((pre = [] ∧ CapA (fun b => R ≤ b ∧ b < Z) x.2) ∨ Fresh W0.heap.size x.2) ∧ ∃ a n c, x.2 = .slice a n c
theorem grown_below {W W' : World} (h : Below W.heap.size W W') : W.grownBy W' none := ⟨h.os, h.tape, h.output, h.size, fun k hk _ => h.block k hk⟩
theorem boxed_below {W W' : World} {B : Nat} {t : TypeId} {v : Value} (h : Boxed W B t v) (hb : Below W.heap.size W W') : Boxed W' B t v := (hb.block B h.lt).trans h
theorem pre_app {A B : List Item} {x : Item} (r : List Item) (h : A = B ++ x :: r) : B ++ [x] <+: A := ⟨r, by rw [h]; simp⟩

set_option maxRecDepth 100000 in
set_option maxHeartbeats 4000000 in
theorem row1_in (n : Nat) (hn : 1 ≤ n) (l Ba Bs : Nat) (s : ByteArray) (a : Nat) (ha : a ≤ s.size) (hs : s.size ≤ 256) (J Jx : List (Item × Value) → World → Prop) (B0 : Nat) (hJ : AbidesFrom B0 J)
    (R Z : Nat) (hY : ∀ pre x W0 W, J pre W0 → J pre W → Below W0.heap.size W0 W → CX R Z (rowL s.data.toList a) pre x W0 W → YieldAt Fence.wide (n - 1) Tryz.prog l (encI x) W fun e W' =>
      (e = .returned (.bool true) ∧ x.1.err = 0 ∧ J (pre ++ [x]) W' ∧ Two Ba Bs W W') ∨ (e = .returned (.bool false) ∧ Jx (pre ++ [x]) W'))
    (W : World) (hBa : Boxed W Ba 3 (.int .i64 (a : Int))) (hBs : Boxed W Bs 9 (.string s)) (h0 : J [] W) :
    CallsIn Fence.wide n Tryz.prog 89 #[.func (.yield l) #[] #[], .pointer (some ⟨Ba, 0, none⟩), .pointer (some ⟨Bs, 0, none⟩)] W fun e W' => (∃ v, e = .returned v) ∧
      ((∃ xs : List (Item × Value), xs.map Prod.fst = rowL s.data.toList a ∧ J xs W') ∨ (∃ pre : List (Item × Value), pre.map Prod.fst <+: rowL s.data.toList a ∧ Jx pre W')) := by
  have cA0 := hBa.cell
  refine callsIn_of_wp Tryz.func89 rfl trivial ?_ rfl
  simp only [Tryz.ntmps89, List.size_toArray, List.length_cons, List.length_nil, Nat.reduceAdd, Nat.reduceSub, Array.replicate_succ, Array.replicate_zero, List.push_toArray, List.append_toArray, List.nil_append, List.cons_append]
  gi_wp2
  gi_quiet (fail)
  have hJ0 : J [] (W.drewN nq) := hJ [] W (W.drewN nq) none h0 (grown_below (below_drewN _ _ _)) (fun r e => by cases e)
  have hBs0 : Boxed (W.drewN nq) Bs 9 (.string s) := boxed_below hBs (below_drewN _ _ _)
  have hBa0 : Boxed (W.drewN nq) Ba 3 (.int .i64 (a : Int)) := boxed_below hBa (below_drewN _ _ _)
  generalize W.drewN nq = V0 at *
  gi_wp2
  gi_loopw [4, 5] (fun x y wr => ∃ (k c : Nat) (pre : List (Item × Value)), k ≤ 32 ∧ c ≤ s.size ∧ x = .int .i64 k ∧ y = .int .i64 c ∧ J pre wr ∧ Boxed wr Ba 3 (.int .i64 (a : Int)) ∧ Boxed wr Bs 9 (.string s) ∧
      Hid (rowL s.data.toList a = pre.map Prod.fst ++ rowG s.data.toList (33 - k) k c))
    (fun x _ _ => 33 - (intOf x).toNat)
  case atStart => exact ⟨0, a, [], by omega, ha, rfl, rfl, hJ0, hBa0, hBs0, rfl⟩
  case round =>
    obtain ⟨k, c, pre, hk, hc, rfl, rfl, hJs, bA, bS, HR⟩ := hrel
    have cS := bS.cell
    have CE := fun w => setEnds_any s c w hc
    obtain ⟨f, hf⟩ : ∃ f, 33 - k = f + 1 := ⟨32 - k, by omega⟩
    rw [hf] at HR
    cases he : endsL s.data.toList c
    · rw [he] at CE
      have CE := hide CE
      by_cases hk32 : k = 32
      · subst hk32
        rw [rowG_many he] at HR
        have Y0 : YieldAt Fence.wide (n - 1) Tryz.prog l #[.agg #[.string ⟨#[]⟩, .string ⟨#[]⟩, .string ⟨#[]⟩, .slice none 0 0, .slice none 0 0, .int .i64 0, .nilFunc, .int .i64 12], .int .i64 (c : Int)] wr _ := hY pre (⟨partN, 0, 12, (c : Int)⟩, .slice none 0 0) wr wr hJs hJs (Below.refl _ _) ⟨by rw [HR.out]; exact ⟨[], by simp⟩, txt_nil _, capN (txt_nil wr), .inr (by rintro a i c h; cases h), _, _, _, rfl⟩
        clear he hf
        gi_wp2
        refine ⟨trivial, (callsIn_wide.2 (CE.out _)).mono ?_⟩
        rintro e' w' ⟨rfl, hw'⟩
        rw [hw']; clear hw' w'
        obtain ⟨fn, tmps, assign, body, hy, hRd⟩ := Y0
        gi_wp2
        refine hRd.mono ?_
        rintro e' W5 (⟨rfl, h12, _⟩ | ⟨rfl, hJx5⟩)
        · cases h12
        · gi_wp2
          refine bodyPost_ret (results_none rfl _ _ _) rfl ?_
          exact ⟨⟨_, rfl⟩, .inr ⟨_, by rw [HR.out, List.map_append]; exact List.prefix_refl _, hJx5⟩⟩
      · have hko : k ≠ 32 := hk32
        have hkb : ((k : Int) == 32) = false := by simp; omega
        have RQ := hide (fun W => readPart_any s c W hs hc)
        have hfn : (itemL s.data.toList c).f ≠ 0 := op_fn (s.data.toList.drop c) 9 (by omega) (by omega)
        have hE : opE s.data.toList c ≤ s.data.toList.length := blk_le (op_in (by rw [len_data]; exact hc))
        have hok := fun h => rp_ok (l := s.data.toList) hE h
        change Hid (∀ W, Calls Tryz.prog 90 #[.string s, .int .i64 (c : Int)] W (PartQ W (itemL s.data.toList c).f ((itemL s.data.toList c).p, (itemL s.data.toList c).pos, (itemL s.data.toList c).err))) at RQ
        change (itemL s.data.toList c).err = 0 → ∃ e : Nat, (itemL s.data.toList c).pos = (e : Int) ∧ _ at hok
        have hB := fun h => rowG_bad (n := f) he hko h
        have hG := fun h => rowG_go (n := f) he hko h
        generalize itemL s.data.toList c = X at *
        have hfv : fnV X.f = .func (.func X.f) #[] #[] := if_neg hfn
        have HB := hide hB
        have HG := hide hG
        have HOK := hide hok
        have HFV := hide hfv
        clear he hB hG hok hfv hfn hE hk32
        gi_wp2
        refine ⟨trivial, (callsIn_wide.2 (CE.out _)).mono ?_⟩
        rintro e' w' ⟨rfl, hw'⟩
        rw [hw']; clear hw' w'
        gi_wp2
        refine ⟨trivial, (callsIn_wide.2 (RQ.out _)).mono ?_⟩
        rintro e' w1 ⟨hb1, v, rfl, t1, fr, cp, av, nv, cv, rfl⟩
        unfold partF
        try dsimp only
        have hA1 : Below wr.heap.size wr (w1.alloc (.cells #[.string (ofL X.p.maj), .string (ofL X.p.min), .string (ofL X.p.pat), .slice av nv cv, .slice none 0 0, .int .i64 (X.p.told : Int), .func (.func X.f) #[] #[], .int .i64 X.err] 58)) := hb1.alloc hb1.size _
        have hJ1 := hJ pre wr _ none hJs (grown_below hA1) (fun r e => by cases e)
        have bA1 := boxed_below bA hA1
        have bS1 := boxed_below bS hA1
        have t2 := t1.below ((Below.refl _ w1).alloc (Nat.le_refl _) (.cells #[.string (ofL X.p.maj), .string (ofL X.p.min), .string (ofL X.p.pat), .slice av nv cv, .slice none 0 0, .int .i64 (X.p.told : Int), .func (.func X.f) #[] #[], .int .i64 X.err] 58))
        have hpre : pre.map Prod.fst ++ [X] <+: rowL s.data.toList a := by
          by_cases hx : X.err = 0
          · exact pre_app _ (by rw [HR.out, HG.out hx])
          · exact pre_app [] (by rw [HR.out, HB.out hx])
        have Y0 := hY pre (X, .slice av nv cv) wr _ hJs hJ1 hA1 ⟨hpre, t2, cp, .inr fr, _, _, _, rfl⟩
        unfold encI partF at Y0
        dsimp only at Y0
        rw [HFV.out] at Y0
        have n1 := World.alloc_heap_new w1 (.cells #[.string (ofL X.p.maj), .string (ofL X.p.min), .string (ofL X.p.pat), .slice av nv cv, .slice none 0 0, .int .i64 (X.p.told : Int), .func (.func X.f) #[] #[], .int .i64 X.err] 58)
        have Y1 := hide Y0
        have HJ1 := hide hJ1
        have HP := hide hpre
        clear t1 t2 fr cp hJ1 hpre Y0 hb1 cS
        obtain ⟨fn, tmps, assign, body, hy, hRd⟩ := Y1.out
        gi_wp2
        refine hRd.mono ?_
        rintro e' W5 (⟨rfl, herr, hJ5, hT⟩ | ⟨rfl, hJx5⟩)
        · obtain ⟨e, hpe, _, hel⟩ := HOK.out herr
          rw [len_data] at hel
          obtain ⟨bA5, bS5⟩ := hT.boxed bA1 bS1
          have cS5 := bS5.cell
          have R6 := hide (Run6 s e hs hel X.pos hpe)
          have hle := blk_le (l := s.data.toList) (a := e) (by rw [len_data]; exact hel)
          rw [len_data] at hle
          have HQ : Hid (rowL s.data.toList a = (pre ++ [(X, Value.slice av nv cv)]).map Prod.fst ++ rowG s.data.toList f (k + 1) (blk s.data.toList e)) := by
            show _ = _
            rw [HR.out, HG.out herr, hpe, Int.toNat_natCast]
            simp
          have HE := hide hpe
          clear hpe hy hRd
          gi_wp2
          refine ⟨trivial, (callsIn_wide.2 (R6.out _)).mono ?_⟩
          rintro e' w' ⟨rfl, hw'⟩
          rw [hw']; clear hw' w'
          gi_wp2
          go_roundw
          case rel => exact ⟨k + 1, blk s.data.toList e, pre ++ [(X, .slice av nv cv)], by omega, hle, by go_num, rfl, hJ5, bA5, bS5, by show _ = _; rw [HQ.out, show 33 - (k + 1) = f by omega]⟩
          case measure => simp [intOf]; omega
        · gi_wp2
          refine bodyPost_ret (results_none rfl _ _ _) rfl ?_
          exact ⟨⟨_, rfl⟩, .inr ⟨_, by rw [List.map_append]; exact HP.out, hJx5⟩⟩
    · rw [he] at CE
      have CE := hide CE
      rw [rowG_end he, List.append_nil] at HR
      clear he hf
      gi_wp2
      refine ⟨trivial, (callsIn_wide.2 (CE.out _)).mono ?_⟩
      rintro e' w' ⟨rfl, hw'⟩
      rw [hw']; clear hw' w'
      gi_wp2
      refine bodyPost_end (results_none rfl _ _ _) rfl ?_
      exact ⟨⟨_, rfl⟩, .inl ⟨pre, HR.out.symm, hJs⟩⟩

end Go.Proofs.YtpdlgiioahjhiaaGreat
