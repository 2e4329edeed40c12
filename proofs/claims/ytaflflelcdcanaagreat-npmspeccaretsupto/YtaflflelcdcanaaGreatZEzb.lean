/-
  Walks: does a version hold to a comparator? · Walks: have two versions the same numbers? · Walks: how an Op is written. · Rows of comparators in memory; what a set says of a version.
-/
import Derived.Test.YtaflflelcdcanaaGreatZEx
import Derived.Test.YtaflflelcdcanaaGreatZFc
namespace Go.Proofs.YtaflflelcdcanaaGreat
open Go.RowKit Go.Shelf
set_option linter.unusedVariables false

/-- What an Op asks of an order. -/
def cmpO (op n : Int) : Bool := if op = 1 then decide (n < 0) else if op = 2 then decide (n ≤ 0) else if op = 3 then decide (0 < n) else if op = 4 then decide (0 ≤ n) else if op = 5 then (n == 0) else false
/-- A version is what a comparator asks for. -/
def holdsL (c : Comp) (y : SemL) : Bool := fitW c.2 && fitW y && cmpO c.1 (ordW y c.2)
/-- The two boxes of Holds. -/
structure HB (w W : World) (op : Int) (x y : SemL) (a1 a2 a3 a4 : Option Addr) (k1 k2 k3 k4 : Nat) : Prop where
  c : W.heap[w.heap.size]? = some (.cells #[.int .i64 op, .string (ofL x.maj), .string (ofL x.min), .string (ofL x.pat), .slice a1 x.pre.length k1, .slice a2 x.bld.length k2] 35 (0, 0))
  v : W.heap[w.heap.size + 1]? = some (.cells #[.string (ofL y.maj), .string (ofL y.min), .string (ofL y.pat), .slice a3 y.pre.length k3, .slice a4 y.bld.length k4] 33 (0, 0))
theorem HB.below {w W : World} {op : Int} {x y : SemL} {a1 a2 a3 a4 : Option Addr} {k1 k2 k3 k4 : Nat} {W' : World} (h : HB w W op x y a1 a2 a3 a4 k1 k2 k3 k4) (hb : Below W.heap.size W W') : HB w W' op x y a1 a2 a3 a4 k1 k2 k3 k4 :=
  ⟨(hb.block _ (Array.getElem?_eq_some_iff.1 h.c).1).trans h.c, (hb.block _ (Array.getElem?_eq_some_iff.1 h.v).1).trans h.v⟩
theorem HB.seen {w W : World} {op : Int} {x y : SemL} {a1 a2 a3 a4 : Option Addr} {k1 k2 k3 k4 : Nat} (h : HB w W op x y a1 a2 a3 a4 k1 k2 k3 k4) : W.cell? ⟨w.heap.size, 0, none⟩ = some (.int .i64 op) ∧ W.cell? ⟨w.heap.size, 1, none⟩ = some (.string (ofL x.maj)) ∧ W.cell? ⟨w.heap.size, 2, none⟩ = some (.string (ofL x.min)) ∧ W.cell? ⟨w.heap.size, 3, none⟩ = some (.string (ofL x.pat)) ∧ W.cell? ⟨w.heap.size, 4, none⟩ = some (.slice a1 x.pre.length k1) ∧ W.cell? ⟨w.heap.size, 5, none⟩ = some (.slice a2 x.bld.length k2) ∧ W.cell? ⟨w.heap.size + 1, 0, none⟩ = some (.string (ofL y.maj)) ∧ W.cell? ⟨w.heap.size + 1, 1, none⟩ = some (.string (ofL y.min)) ∧ W.cell? ⟨w.heap.size + 1, 2, none⟩ = some (.string (ofL y.pat)) ∧ W.cell? ⟨w.heap.size + 1, 3, none⟩ = some (.slice a3 y.pre.length k3) ∧ W.cell? ⟨w.heap.size + 1, 4, none⟩ = some (.slice a4 y.bld.length k4) :=
  ⟨cell_at 0 h.c rfl, cell_at 1 h.c rfl, cell_at 2 h.c rfl, cell_at 3 h.c rfl, cell_at 4 h.c rfl, cell_at 5 h.c rfl, cell_at 0 h.v rfl, cell_at 1 h.v rfl, cell_at 2 h.v rfl, cell_at 3 h.v rfl, cell_at 4 h.v rfl⟩

set_option maxRecDepth 100000 in
set_option maxHeartbeats 4000000 in
theorem Holds_any (op : Int) (x y : SemL) (vp vb : Value) (u : Value) (w : World) (t1 : Txt w vp x.pre) (t2 : Txt w vb x.bld) (hu : SemAt w u y) (sx : ShortS x) (sy : ShortS y) :
    Calls Tryz.prog 15 #[.agg #[.int .i64 op, .string (ofL x.maj), .string (ofL x.min), .string (ofL x.pat), vp, vb], u] w fun e w' => e = .returned (.bool (holdsL (op, x) y)) ∧ Below w.heap.size w w' := by
  obtain ⟨a1, k1, rfl, _⟩ := id t1
  obtain ⟨a2, k2, rfl, _⟩ := id t2
  obtain ⟨vq, vc, rfl, t3, t4⟩ := hu
  obtain ⟨a3, k3, rfl, _⟩ := id t3
  obtain ⟨a4, k4, rfl, _⟩ := id t4
  have FX := hide (fun W (hW : Below w.heap.size w W) => Fit_any (.agg #[.string (ofL x.maj), .string (ofL x.min), .string (ofL x.pat), .slice a1 x.pre.length k1, .slice a2 x.bld.length k2]) x W ⟨_, _, rfl, t1.below hW, t2.below hW⟩ sx)
  have FY := hide (fun W (hW : Below w.heap.size w W) => Fit_any (.agg #[.string (ofL y.maj), .string (ofL y.min), .string (ofL y.pat), .slice a3 y.pre.length k3, .slice a4 y.bld.length k4]) y W ⟨_, _, rfl, t3.below hW, t4.below hW⟩ sy)
  have OO := hide (fun W (hW : Below w.heap.size w W) => Order_any (.agg #[.string (ofL y.maj), .string (ofL y.min), .string (ofL y.pat), .slice a3 y.pre.length k3, .slice a4 y.bld.length k4]) (.agg #[.string (ofL x.maj), .string (ofL x.min), .string (ofL x.pat), .slice a1 x.pre.length k1, .slice a2 x.bld.length k2]) y x W ⟨_, _, rfl, t3.below hW, t4.below hW⟩ ⟨_, _, rfl, t1.below hW, t2.below hW⟩ sy sx)
  have hH : holdsL (op, x) y = (fitW x && fitW y && cmpO op (ordW y x)) := rfl
  generalize holdsL (op, x) y = R at *
  generalize fitW x = fx at *
  generalize fitW y = fy at *
  generalize ordW y x = n at *
  generalize hc : cmpO op n = cc at *
  have HC := hide hc
  clear hc
  have B0 : HB w ((w.alloc (.cells #[.int .i64 op, .string (ofL x.maj), .string (ofL x.min), .string (ofL x.pat), .slice a1 x.pre.length k1, .slice a2 x.bld.length k2] 35)).alloc (.cells #[.string (ofL y.maj), .string (ofL y.min), .string (ofL y.pat), .slice a3 y.pre.length k3, .slice a4 y.bld.length k4] 33)) op x y a1 a2 a3 a4 k1 k2 k3 k4 := ⟨heap_b0 w _ _, heap_b1 w _ _⟩
  have b0 := below_a2 w (.cells #[.int .i64 op, .string (ofL x.maj), .string (ofL x.min), .string (ofL x.pat), .slice a1 x.pre.length k1, .slice a2 x.bld.length k2] 35) (.cells #[.string (ofL y.maj), .string (ofL y.min), .string (ofL y.pat), .slice a3 y.pre.length k3, .slice a4 y.bld.length k4] 33)
  clear t1 t2 t3 t4 sx sy
  subst hH
  go_enter Tryz.func15, Tryz.ntmps15
  go_wp2_with fail
  generalize (w.alloc _).alloc _ = W0 at *
  refine (FX.out _ b0).mono ?_
  rintro e w1 ⟨rfl, h1⟩
  have B1 := B0.below h1
  have hb1 := b0.trans (h1.mono b0.size)
  clear B0 b0 h1
  cases fx
  · go_wp2_with fail
    go_ret
    exact ⟨rfl, hb1⟩
  obtain ⟨g0, g1, g2, g3, g4, g5, g6, g7, g8, g9, g10⟩ := B1.seen
  try dsimp only
  go_wp2_with fail
  refine (FY.out _ hb1).mono ?_
  rintro e w2 ⟨rfl, h2⟩
  have B2 := B1.below h2
  have hb2 := hb1.trans (h2.mono hb1.size)
  clear B1 hb1 h2 g0 g1 g2 g3 g4 g5 g6 g7 g8 g9 g10
  cases fy
  · go_wp2_with fail
    go_ret
    exact ⟨rfl, hb2⟩
  obtain ⟨g0, g1, g2, g3, g4, g5, g6, g7, g8, g9, g10⟩ := B2.seen
  try dsimp only
  go_wp2_with fail
  refine (OO.out _ hb2).mono ?_
  rintro e w3 ⟨rfl, h3⟩
  have B3 := B2.below h3
  have hb3 := hb2.trans (h3.mono hb2.size)
  clear B2 hb2 h3 g0 g1 g2 g3 g4 g5 g6 g7 g8 g9 g10
  obtain ⟨g0, g1, g2, g3, g4, g5, g6, g7, g8, g9, g10⟩ := B3.seen
  clear B3
  try dsimp only
  by_cases o1 : op = 1
  · have HO : cmpO op n = decide (n < 0) := if_pos o1
    have HP := HC.out.symm.trans HO
    clear HC HO
    subst HP
    subst o1
    go_wp2_with fail
    go_ret
    refine ⟨?_, hb3⟩
    generalize decide (n < 0) = q
    simp only [Bool.true_and]
    exact rfl
  have p1 : (op == 1) = false := by simpa using o1
  by_cases o2 : op = 2
  · have HO : cmpO op n = decide (n ≤ 0) := (if_neg o1).trans (if_pos o2)
    have HP := HC.out.symm.trans HO
    clear HC HO
    subst HP
    subst o2
    go_wp2_with fail
    go_ret
    refine ⟨?_, hb3⟩
    generalize decide (n ≤ 0) = q
    simp only [Bool.true_and]
    exact rfl
  have p2 : (op == 2) = false := by simpa using o2
  by_cases o3 : op = 3
  · have HO : cmpO op n = decide (0 < n) := (if_neg o1).trans ((if_neg o2).trans (if_pos o3))
    have HP := HC.out.symm.trans HO
    clear HC HO
    subst HP
    subst o3
    go_wp2_with fail
    go_ret
    refine ⟨?_, hb3⟩
    generalize decide (0 < n) = q
    simp only [Bool.true_and]
    exact rfl
  have p3 : (op == 3) = false := by simpa using o3
  by_cases o4 : op = 4
  · have HO : cmpO op n = decide (0 ≤ n) := (if_neg o1).trans ((if_neg o2).trans ((if_neg o3).trans (if_pos o4)))
    have HP := HC.out.symm.trans HO
    clear HC HO
    subst HP
    subst o4
    go_wp2_with fail
    go_ret
    refine ⟨?_, hb3⟩
    generalize decide (0 ≤ n) = q
    simp only [Bool.true_and]
    exact rfl
  have p4 : (op == 4) = false := by simpa using o4
  by_cases o5 : op = 5
  · have HO : cmpO op n = (n == 0) := (if_neg o1).trans ((if_neg o2).trans ((if_neg o3).trans ((if_neg o4).trans (if_pos o5))))
    have HP := HC.out.symm.trans HO
    clear HC HO
    subst HP
    subst o5
    go_wp2_with fail
    go_ret
    refine ⟨?_, hb3⟩
    generalize (n == 0) = q
    simp only [Bool.true_and]
    exact rfl
  have p5 : (op == 5) = false := by simpa using o5
  have HO : cmpO op n = false := (if_neg o1).trans ((if_neg o2).trans ((if_neg o3).trans ((if_neg o4).trans (if_neg o5))))
  have HP := HC.out.symm.trans HO
  clear HC HO
  subst HP
  clear o1 o2 o3 o4 o5
  go_wp2_with fail
  go_ret
  exact ⟨rfl, hb3⟩

end Go.Proofs.YtaflflelcdcanaaGreat

namespace Go.Proofs.YtaflflelcdcanaaGreat
open Go.RowKit Go.Shelf
set_option linter.unusedVariables false

/-- Two versions have the same numbers. -/
def sameL (x y : SemL) : Bool := x.maj == y.maj && x.min == y.min && x.pat == y.pat
theorem ofL_toL (l : List UInt8) : (ofL l).toList = l := by rw [toL, ofL_data]
theorem same_t {x y : SemL} {q : Bool} (h : (ofL x.maj).toList = (ofL y.maj).toList) (g : (ofL x.min).toList = (ofL y.min).toList) (hq : ((ofL x.pat).toList == (ofL y.pat).toList) = q) : sameL x y = q := by
  rw [ofL_toL, ofL_toL] at h g
  rw [ofL_toL, ofL_toL] at hq
  unfold sameL
  rw [h, g, hq, beq_self_eq_true, beq_self_eq_true]
  rfl
theorem same_f {x y : SemL} (g : ¬ (ofL x.min).toList = (ofL y.min).toList) : sameL x y = false := by
  rw [ofL_toL, ofL_toL] at g
  unfold sameL
  rw [beq_eq_false_iff_ne.2 g, Bool.and_false]
  rfl
theorem same_e {x y : SemL} (g : ¬ (ofL x.maj).toList = (ofL y.maj).toList) : sameL x y = false := by
  rw [ofL_toL, ofL_toL] at g
  unfold sameL
  rw [beq_eq_false_iff_ne.2 g]
  rfl

set_option maxRecDepth 100000 in
set_option maxHeartbeats 4000000 in
theorem sameNumbers_any (x y : SemL) (u v : Value) (w : World) (hu : SemAt w u x) (hv : SemAt w v y) :
    Calls Tryz.prog 37 #[u, v] w fun e w' => e = .returned (.bool (sameL x y)) ∧ Below w.heap.size w w' := by
  obtain ⟨vp, vb, rfl, t1, t2⟩ := hu
  obtain ⟨a1, k1, rfl, _⟩ := id t1
  obtain ⟨a2, k2, rfl, _⟩ := id t2
  obtain ⟨vq, vc, rfl, t3, t4⟩ := hv
  obtain ⟨a3, k3, rfl, _⟩ := id t3
  obtain ⟨a4, k4, rfl, _⟩ := id t4
  clear t1 t2 t3 t4
  have b0 := below_a2 w (.cells #[.string (ofL x.maj), .string (ofL x.min), .string (ofL x.pat), .slice a1 x.pre.length k1, .slice a2 x.bld.length k2] 33) (.cells #[.string (ofL y.maj), .string (ofL y.min), .string (ofL y.pat), .slice a3 y.pre.length k3, .slice a4 y.bld.length k4] 33)
  go_enter Tryz.func37, Tryz.ntmps37
  go_wp2_with fail
  · rename_i h g
    generalize hq : ((ofL x.pat).toList == (ofL y.pat).toList) = q at *
    rw [same_t h g hq]
    go_ret
    exact ⟨rfl, b0⟩
  · rename_i h g
    rw [same_f g]
    go_ret
    exact ⟨rfl, b0⟩
  · rename_i g
    rw [same_e g]
    go_ret
    exact ⟨rfl, b0⟩

end Go.Proofs.YtaflflelcdcanaaGreat

namespace Go.Proofs.YtaflflelcdcanaaGreat
open Go.RowKit Go.Shelf
set_option linter.unusedVariables false

/-- How an Op is written, and whether there is one such. -/
def signL (op : Int) : ByteArray × Bool := if op = 1 then (ofL [60], true) else if op = 2 then (ofL [60, 61], true) else if op = 3 then (ofL [62], true) else if op = 4 then (ofL [62, 61], true) else if op = 5 then (ofL [], true) else (ofL [], false)

set_option maxRecDepth 100000 in
set_option maxHeartbeats 4000000 in
theorem sign_any (op : Int) (w : World) :
    Calls Tryz.prog 61 #[.int .i64 op] w fun e w' => e = .returned (.tuple #[.string (signL op).1, .bool (signL op).2]) ∧ w' = w := by
  by_cases o1 : op = 1
  · have HO : signL op = (ofL [60], true) := if_pos o1
    rw [HO]
    subst o1
    clear HO
    go_enter Tryz.func61, Tryz.ntmps61
    go_wp2_with fail
    go_ret2
    exact ⟨rfl, rfl⟩
  have p1 : (op == 1) = false := by simpa using o1
  by_cases o2 : op = 2
  · have HO : signL op = (ofL [60, 61], true) := (if_neg o1).trans (if_pos o2)
    rw [HO]
    subst o2
    clear HO
    go_enter Tryz.func61, Tryz.ntmps61
    go_wp2_with fail
    go_ret2
    exact ⟨rfl, rfl⟩
  have p2 : (op == 2) = false := by simpa using o2
  by_cases o3 : op = 3
  · have HO : signL op = (ofL [62], true) := (if_neg o1).trans ((if_neg o2).trans (if_pos o3))
    rw [HO]
    subst o3
    clear HO
    go_enter Tryz.func61, Tryz.ntmps61
    go_wp2_with fail
    go_ret2
    exact ⟨rfl, rfl⟩
  have p3 : (op == 3) = false := by simpa using o3
  by_cases o4 : op = 4
  · have HO : signL op = (ofL [62, 61], true) := (if_neg o1).trans ((if_neg o2).trans ((if_neg o3).trans (if_pos o4)))
    rw [HO]
    subst o4
    clear HO
    go_enter Tryz.func61, Tryz.ntmps61
    go_wp2_with fail
    go_ret2
    exact ⟨rfl, rfl⟩
  have p4 : (op == 4) = false := by simpa using o4
  by_cases o5 : op = 5
  · have HO : signL op = (ofL [], true) := (if_neg o1).trans ((if_neg o2).trans ((if_neg o3).trans ((if_neg o4).trans (if_pos o5))))
    rw [HO]
    subst o5
    clear HO
    go_enter Tryz.func61, Tryz.ntmps61
    go_wp2_with fail
    go_ret2
    exact ⟨rfl, rfl⟩
  have p5 : (op == 5) = false := by simpa using o5
  have HO : signL op = (ofL [], false) := (if_neg o1).trans ((if_neg o2).trans ((if_neg o3).trans ((if_neg o4).trans (if_neg o5))))
  rw [HO]
  clear HO o1 o2 o3 o4 o5
  go_enter Tryz.func61, Tryz.ntmps61
  go_wp2_with fail
  go_ret2
  exact ⟨rfl, rfl⟩

end Go.Proofs.YtaflflelcdcanaaGreat

namespace Go.Proofs.YtaflflelcdcanaaGreat
open Go.RowKit Go.Shelf
set_option linter.unusedVariables false

/-- A comparator lies at a place. -/
def CompAt (W : World) (b o : Nat) (c : Comp) : Prop :=
  ∃ vp vb, W.cell? ⟨b, o, none⟩ = some (.int .i64 c.1) ∧ W.cell? ⟨b, o + 1, none⟩ = some (.string (ofL c.2.maj)) ∧ W.cell? ⟨b, o + 2, none⟩ = some (.string (ofL c.2.min)) ∧ W.cell? ⟨b, o + 3, none⟩ = some (.string (ofL c.2.pat)) ∧ W.cell? ⟨b, o + 4, none⟩ = some (vp) ∧ W.cell? ⟨b, o + 5, none⟩ = some (vb) ∧ Txt W vp c.2.pre ∧ Txt W vb c.2.bld ∧ Cap vp ∧ Cap vb
theorem CompAt.below {W W' : World} {b o : Nat} {c : Comp} (hl : b < W.heap.size) (h : CompAt W b o c) (hb : Below W.heap.size W W') : CompAt W' b o c := by
  obtain ⟨vp, vb, h0, h1, h2, h3, h4, h5, t1, t2, cp⟩ := h
  exact ⟨vp, vb, (hb.cell hl).trans h0, (hb.cell hl).trans h1, (hb.cell hl).trans h2, (hb.cell hl).trans h3, (hb.cell hl).trans h4, (hb.cell hl).trans h5, t1.below hb, t2.below hb, cp⟩
/-- A row of comparators in memory. -/
def CompsAt (W : World) (v : Value) (cs : List Comp) : Prop :=
  ∃ a k, v = .slice a cs.length k ∧ (cs = [] ∨ ∃ b o, a = some ⟨b, o, none⟩ ∧ b < W.heap.size ∧ ∀ i (h : i < cs.length), CompAt W b (o + i * 6) cs[i])
theorem CompsAt.below {W W' : World} {v : Value} {cs : List Comp} (h : CompsAt W v cs) (hb : Below W.heap.size W W') : CompsAt W' v cs := by
  obtain ⟨a, k, rfl, h | ⟨b, o, rfl, hl, h⟩⟩ := h
  · exact ⟨a, k, rfl, .inl h⟩
  · exact ⟨_, k, rfl, .inr ⟨b, o, rfl, Nat.lt_of_lt_of_le hl hb.size, fun i hi => (h i hi).below hl hb⟩⟩
/-- What a set says of a version. -/
def setL (cs : List Comp) (y : SemL) : Bool :=
  fitW y && cs.all (fun c => holdsL c y) && (y.pre.isEmpty || cs.any (fun c => !c.2.pre.isEmpty && sameL c.2 y))

/-- Sets of comparators in memory. -/
def SetsAt (W : World) (v : Value) (l : List (List Comp)) : Prop :=
  ∃ a k, v = .slice a l.length k ∧ (l = [] ∨ ∃ b o, a = some ⟨b, o, none⟩ ∧ b < W.heap.size ∧ ∀ i (h : i < l.length), ∃ u, W.cell? ⟨b, o + i, none⟩ = some u ∧ CompsAt W u l[i])
theorem SetsAt.below {W W' : World} {v : Value} {l : List (List Comp)} (h : SetsAt W v l) (hb : Below W.heap.size W W') : SetsAt W' v l := by
  obtain ⟨a, k, rfl, h | ⟨b, o, rfl, hl, h⟩⟩ := h
  · exact ⟨a, k, rfl, .inl h⟩
  · refine ⟨_, k, rfl, .inr ⟨b, o, rfl, Nat.lt_of_lt_of_le hl hb.size, fun i hi => ?_⟩⟩
    obtain ⟨u, h1, h2⟩ := h i hi
    exact ⟨u, (hb.cell hl).trans h1, h2.below hb⟩

end Go.Proofs.YtaflflelcdcanaaGreat
