/-
  Sets of comparators, a comparator and a version that came in, opened; how long a range's text can be. · Walks: the law on texts and on what is in a set.
-/
import Derived.Test.YtplbdciikkpjoaaGreatZKd
import Derived.Test.YtplbdciikkpjoaaGreatZGa
import Derived.ProofKit
import Derived.OpenShut
import Derived.ShutString
import Derived.ChangeOld
import Derived.Below
import Derived.SizedLaws
import Derived.SliceStrings
import Derived.Deep.Slices
namespace Go.Proofs.YtplbdciikkpjoaaGreat
open Go.ChangeShapes Go.WideShapes Go.ChangeAt Go.RowKit
set_option linter.unusedVariables false

theorem Tryz.cells3 : Tryz.prog.cellsOf 3 = 1 := by kernel_rfl
theorem Tryz.cells35 : Tryz.prog.cellsOf 35 = 6 := by kernel_rfl
theorem Tryz.cells39 : Tryz.prog.cellsOf 39 = 1 := by kernel_rfl
theorem open_cap8 {H : Type} {enc : TypeId × Value → H} {W : World} {fuel : Nat} {c : Value} {y : DataW H × List MemPlace} (h : DataW.trod enc Tryz.prog W 0 (fun _ => true) true fuel 31 [c] = some y) : Cap c := by
  rcases open_strings Tryz.underlying31 Tryz.underlying9 Tryz.cells9 h with ⟨hcs, _⟩ | ⟨a, len, cap, ss, hcs, _, hl, _, _, _, _, _⟩
  · obtain rfl : c = .slice none 0 0 := by simpa using hcs
    rintro a n c h; cases h; exact Nat.le_refl _
  · obtain rfl : c = .slice (some a) len cap := by simpa using hcs
    rintro a' n' c' h'
    cases h'
    exact hl
/-- A version's cells. -/
structure SemC (W : World) (c0 c1 c2 c3 c4 : Value) (x : SemL) : Prop where
  e0 : c0 = .string (ofL x.maj)
  e1 : c1 = .string (ofL x.min)
  e2 : c2 = .string (ofL x.pat)
  t3 : Txt W c3 x.pre
  t4 : Txt W c4 x.bld
  k3 : Cap c3
  k4 : Cap c4
set_option maxRecDepth 100000 in
theorem open_semC {H : Type} {enc : TypeId × Value → H} {W : World} {fuel : Nat} {c0 c1 c2 c3 c4 : Value} {y : DataW H × List MemPlace} (hm : DataW.trod enc Tryz.prog W 0 (fun _ => true) true fuel 33 [c0, c1, c2, c3, c4] = some y) :
    ∃ x : SemL, SemC W c0 c1 c2 c3 c4 x ∧ lenS x ≤ Rows.uptoBulk y.1 := by
  obtain ⟨xs, n, _, hx, _, hxl, hf⟩ := DataW.trod_struct Tryz.underlying33 hm
  obtain ⟨y0, y1, y2, y3, y4, rfl⟩ : ∃ y0 y1 y2 y3 y4, xs = [y0, y1, y2, y3, y4] := by
    match xs, hxl with
    | [y0, y1, y2, y3, y4], _ => exact ⟨y0, y1, y2, y3, y4, rfl⟩
  have e9 := Tryz.cells9
  have e22 := Tryz.cells31
  have f0 := hf 0 _ rfl
  have f1 := hf 1 _ rfl
  have f2 := hf 2 _ rfl
  have f3 := hf 3 _ rfl
  have f4 := hf 4 _ rfl
  obtain ⟨s0, g0, hy0, _⟩ := DataW.trod_string (cs := [c0]) Tryz.underlying9 (f0 : DataW.trod enc Tryz.prog W 0 _ true n 9 [c0] = some y0)
  obtain ⟨s1, g1, hy1, _⟩ := DataW.trod_string (cs := [c1]) Tryz.underlying9 (f1 : DataW.trod enc Tryz.prog W 0 _ true n 9 [c1] = some y1)
  obtain ⟨s2, g2, hy2, _⟩ := DataW.trod_string (cs := [c2]) Tryz.underlying9 (f2 : DataW.trod enc Tryz.prog W 0 _ true n 9 [c2] = some y2)
  obtain ⟨t3, T3, l3⟩ := open_txt (f3 : DataW.trod enc Tryz.prog W 0 _ true n 31 [c3] = some y3)
  obtain ⟨t4, T4, l4⟩ := open_txt (f4 : DataW.trod enc Tryz.prog W 0 _ true n 31 [c4] = some y4)
  have k3 := open_cap8 (f3 : DataW.trod enc Tryz.prog W 0 _ true n 31 [c3] = some y3)
  have k4 := open_cap8 (f4 : DataW.trod enc Tryz.prog W 0 _ true n 31 [c4] = some y4)
  obtain rfl : c0 = .string s0 := by simpa using g0
  obtain rfl : c1 = .string s1 := by simpa using g1
  obtain rfl : c2 = .string s2 := by simpa using g2
  subst hy0 hy1 hy2
  refine ⟨⟨s0.data.toList, s1.data.toList, s2.data.toList, t3, t4⟩, ⟨by simp only [ofL_self], by simp only [ofL_self], by simp only [ofL_self], T3, T4, k3, k4⟩, ?_⟩
  rw [hx]
  simp only [lenS, List.map_cons, List.map_nil, Rows.uptoBulk, Rows.uptoBulkAll]
  omega
set_option maxRecDepth 100000 in
theorem open_compC {H : Type} {enc : TypeId × Value → H} {W : World} {fuel : Nat} {c0 c1 c2 c3 c4 c5 : Value} {y : DataW H × List MemPlace} (hm : DataW.trod enc Tryz.prog W 0 (fun _ => true) true fuel 35 [c0, c1, c2, c3, c4, c5] = some y) :
    ∃ (op : Int) (x : SemL), c0 = .int .i64 op ∧ SemC W c1 c2 c3 c4 c5 x ∧ lenS x + 2 ≤ Rows.uptoBulk y.1 := by
  obtain ⟨xs, n, _, hx, _, hxl, hf⟩ := DataW.trod_struct Tryz.underlying35 hm
  obtain ⟨y0, y1, rfl⟩ : ∃ y0 y1, xs = [y0, y1] := by
    match xs, hxl with
    | [y0, y1], _ => exact ⟨y0, y1, rfl⟩
  have e3 := Tryz.cells3
  have e33 := Tryz.cells33
  have f0 := hf 0 _ rfl
  have f1 := hf 1 _ rfl
  obtain ⟨op, g0, hy0, _⟩ := DataW.trod_int (cs := [c0]) Tryz.underlying3 (f0 : DataW.trod enc Tryz.prog W 0 _ true n 3 [c0] = some y0)
  obtain ⟨x, hX, lx⟩ := open_semC (f1 : DataW.trod enc Tryz.prog W 0 _ true n 33 [c1, c2, c3, c4, c5] = some y1)
  obtain rfl : c0 = .int .i64 op := by simpa using g0
  subst hy0
  refine ⟨op, x, rfl, hX, ?_⟩
  rw [hx]
  simp only [List.map_cons, List.map_nil, Rows.uptoBulk, Rows.uptoBulkAll]
  omega
theorem SemC.at_ {W : World} {c0 c1 c2 c3 c4 : Value} {x : SemL} (h : SemC W c0 c1 c2 c3 c4 x) : SemAt W (.agg #[c0, c1, c2, c3, c4]) x := ⟨c3, c4, by rw [h.e0, h.e1, h.e2], h.t3, h.t4⟩

theorem sum_bulk {H : Type} (D : Nat → DataW H) (f : Nat → Nat) (K : Nat) : ∀ l : List Nat, (∀ i ∈ l, f i ≤ K * Rows.uptoBulk (D i)) → (l.map f).sum ≤ K * Rows.uptoBulkAll (l.map D)
  | [], _ => Nat.zero_le _
  | j :: r, h => by
    have h1 := sum_bulk D f K r (fun i hi => h i (List.mem_cons_of_mem _ hi))
    have h2 := h j List.mem_cons_self
    simp only [List.map_cons, List.sum_cons, Rows.uptoBulkAll]
    rw [Nat.mul_add]
    omega
theorem one_bulk {H : Type} (D : Nat → DataW H) : ∀ (l : List Nat) (i : Nat), i ∈ l → Rows.uptoBulk (D i) ≤ Rows.uptoBulkAll (l.map D)
  | [], _, h => by cases h
  | j :: r, i, h => by
    simp only [List.map_cons, Rows.uptoBulkAll]
    rcases List.mem_cons.1 h with rfl | h
    · omega
    · have := one_bulk D r i h; omega
theorem bulk_pos {H : Type} : ∀ d : DataW H, 1 ≤ Rows.uptoBulk d
  | .lit l => by cases l <;> simp [Rows.uptoBulk]
  | .nil => by simp [Rows.uptoBulk]
  | .ptr d => by simp [Rows.uptoBulk]
  | .slice e s => by simp [Rows.uptoBulk]
  | .agg p => by simp [Rows.uptoBulk]
  | .iface _ d => by simp [Rows.uptoBulk]
  | .map e => by simp [Rows.uptoBulk]
  | .held _ => by simp [Rows.uptoBulk]
theorem len_bulk {H : Type} (D : Nat → DataW H) : ∀ l : List Nat, l.length ≤ Rows.uptoBulkAll (l.map D)
  | [] => Nat.zero_le _
  | j :: r => by
    have h1 := len_bulk D r
    have h2 := bulk_pos (D j)
    simp only [List.map_cons, Rows.uptoBulkAll, List.length_cons]
    omega
theorem add_at8 (b o j : Nat) : (Addr.add ⟨b, o, none⟩ j) = ⟨b, o + j, none⟩ := by
  by_cases e0 : j = 0
  · subst e0; rfl
  · simp [Addr.add, e0]
instance : Inhabited Comp := ⟨(0, semN)⟩

set_option maxRecDepth 100000 in
/-- A set that came in. -/
theorem open_comps {H : Type} {enc : TypeId × Value → H} {W : World} {fuel : Nat} {c : Value} {y : DataW H × List MemPlace} (h : DataW.trod enc Tryz.prog W 0 (fun _ => true) true fuel 39 [c] = some y) :
    ∃ cs : List Comp, CompsAt W c cs ∧ cs.length ≤ Rows.uptoBulk y.1 ∧ (∀ x ∈ cs, lenS x.2 ≤ Rows.uptoBulk y.1) ∧ totC cs ≤ 2 * Rows.uptoBulk y.1 := by
  rcases Go.Deep.open_slice Tryz.underlying39 h with ⟨hcs, rfl⟩ | ⟨a, len, cap, m, n, D, Pl, hcs, _, hl, hm, hmm, rfl, hx⟩
  · obtain rfl : c = .slice none 0 0 := by simpa using hcs
    exact ⟨[], ⟨none, 0, rfl, .inl rfl⟩, Nat.zero_le _, (fun t ht => by cases ht), Nat.zero_le _⟩
  · obtain rfl : c = .slice (some a) len cap := by simpa using hcs
    have hmc : m = cap := by simpa using hmm
    have each : ∀ i, i < len → ∃ t : Comp, (∃ vp vb, W.cell? (a.add (i * 6)) = some (.int .i64 t.1) ∧ W.cell? (a.add (i * 6 + 1)) = some (.string (ofL t.2.maj)) ∧ W.cell? (a.add (i * 6 + 2)) = some (.string (ofL t.2.min)) ∧ W.cell? (a.add (i * 6 + 3)) = some (.string (ofL t.2.pat)) ∧ W.cell? (a.add (i * 6 + 4)) = some vp ∧ W.cell? (a.add (i * 6 + 5)) = some vb ∧ Txt W vp t.2.pre ∧ Txt W vb t.2.bld ∧ Cap vp ∧ Cap vb) ∧ lenS t.2 + 2 ≤ Rows.uptoBulk (D i) := by
      intro i hi
      obtain ⟨cs', h1, h2⟩ := hx i (by omega)
      rw [Tryz.cells35] at h1
      obtain ⟨_, hlen, hcell⟩ := World.cells?_some h1
      match cs', hlen with
      | [v0, v1, v2, v3, v4, v5], _ =>
        obtain ⟨op, x, rfl, hX, lx⟩ := open_compC h2
        obtain ⟨rfl, rfl, rfl, t3, t4, k3, k4⟩ := hX
        have q0 := hcell 0 (by omega)
        have q1 := hcell 1 (by omega)
        have q2 := hcell 2 (by omega)
        have q3 := hcell 3 (by omega)
        have q4 := hcell 4 (by omega)
        have q5 := hcell 5 (by omega)
        rw [Go.Deep.add_add] at q0 q1 q2 q3 q4 q5
        exact ⟨(op, x), ⟨v4, v5, by simpa using q0, by simpa using q1, by simpa using q2, by simpa using q3, by simpa using q4, by simpa using q5, t3, t4, k3, k4⟩, lx⟩
    obtain ⟨τ, hτ⟩ := Go.Deep.choose_lt each
    have hlen : ((List.range len).map τ).length = len := by rw [List.length_map, List.length_range]
    have hb0 := len_bulk D (List.range len)
    rw [List.length_range] at hb0
    have hb1 := sum_bulk D (fun i => lenS (τ i).2 + 4) 2 (List.range len) (fun i hi => by have := (hτ i (List.mem_range.1 hi)).2; omega)
    refine ⟨(List.range len).map τ, ⟨some a, cap, by rw [hlen], ?_⟩, ?_, ?_, ?_⟩
    · by_cases h0 : len = 0
      · left; rw [h0]; rfl
      · right
        obtain ⟨b, off, spot⟩ := a
        obtain ⟨_, _, hc, _⟩ := (hτ 0 (by omega)).1
        have hspot : spot = none := by simpa [Addr.add] using World.cell?_spot hc
        subst hspot
        refine ⟨b, off, rfl, by have := cell_lt hc; simpa [Addr.add] using this, fun i hi => ?_⟩
        have hi' : i < len := by rw [hlen] at hi; exact hi
        obtain ⟨vp, vb, q0, q1, q2, q3, q4, q5, t3, t4, k3, k4⟩ := (hτ i hi').1
        rw [add_at8] at q0 q1 q2 q3 q4 q5
        have e : ((List.range len).map τ)[i] = τ i := by simp
        rw [e]
        exact ⟨vp, vb, q0, by rw [Nat.add_assoc]; exact q1, by rw [Nat.add_assoc]; exact q2, by rw [Nat.add_assoc]; exact q3, by rw [Nat.add_assoc]; exact q4, by rw [Nat.add_assoc]; exact q5, t3, t4, k3, k4⟩
    · simp only [Rows.uptoBulk]; rw [hlen]; omega
    · intro t ht
      obtain ⟨i, hi, rfl⟩ := List.mem_map.1 ht
      have h1 := one_bulk D (List.range len) i hi
      have h2 := (hτ i (List.mem_range.1 hi)).2
      simp only [Rows.uptoBulk]; omega
    · unfold totC
      rw [List.map_map]
      simp only [Rows.uptoBulk]
      have : (List.map ((fun c : Comp => lenS c.2 + 4) ∘ τ) (List.range len)) = (List.range len).map (fun i => lenS (τ i).2 + 4) := rfl
      rw [this]
      omega

set_option maxRecDepth 100000 in
/-- Sets that came in. -/
theorem open_sets {H : Type} {enc : TypeId × Value → H} {W : World} {fuel : Nat} {c : Value} {y : DataW H × List MemPlace} (h : DataW.trod enc Tryz.prog W 0 (fun _ => true) true fuel 22 [c] = some y) :
    ∃ l : List (List Comp), SetsAt W c l ∧ l.length ≤ Rows.uptoBulk y.1 ∧ (∀ cs ∈ l, cs.length ≤ Rows.uptoBulk y.1 ∧ ∀ x ∈ cs, lenS x.2 ≤ Rows.uptoBulk y.1) ∧ totS l ≤ 8 * Rows.uptoBulk y.1 := by
  rcases Go.Deep.open_slice1 Tryz.underlying22 Tryz.cells39 h with ⟨hcs, rfl⟩ | ⟨a, len, cap, m, n, V, D, Pl, hcs, _, hl, hm, hmm, rfl, hx⟩
  · obtain rfl : c = .slice none 0 0 := by simpa using hcs
    exact ⟨[], ⟨none, 0, rfl, .inl rfl⟩, Nat.zero_le _, (fun t ht => by cases ht), Nat.zero_le _⟩
  · obtain rfl : c = .slice (some a) len cap := by simpa using hcs
    have hmc : m = cap := by simpa using hmm
    have each : ∀ i, i < len → ∃ cs : List Comp, W.cell? (a.add i) = some (V i) ∧ CompsAt W (V i) cs ∧ cs.length ≤ Rows.uptoBulk (D i) ∧ (∀ x ∈ cs, lenS x.2 ≤ Rows.uptoBulk (D i)) ∧ totC cs ≤ 2 * Rows.uptoBulk (D i) := by
      intro i hi
      obtain ⟨h1, h2⟩ := hx i (by omega)
      obtain ⟨cs, q1, q2, q3, q4⟩ := open_comps h2
      exact ⟨cs, h1, q1, q2, q3, q4⟩
    obtain ⟨τ, hτ⟩ := Go.Deep.choose_lt each
    have hlen : ((List.range len).map τ).length = len := by rw [List.length_map, List.length_range]
    have hb0 := len_bulk D (List.range len)
    rw [List.length_range] at hb0
    have hb1 := sum_bulk D (fun i => totC (τ i) + 6) 8 (List.range len) (fun i hi => by have := (hτ i (List.mem_range.1 hi)).2.2.2.2; have := bulk_pos (D i); omega)
    refine ⟨(List.range len).map τ, ⟨some a, cap, by rw [hlen], ?_⟩, ?_, ?_, ?_⟩
    · by_cases h0 : len = 0
      · left; rw [h0]; rfl
      · right
        obtain ⟨b, off, spot⟩ := a
        have hc := (hτ 0 (by omega)).1
        have hspot : spot = none := by simpa [Addr.add] using World.cell?_spot hc
        subst hspot
        refine ⟨b, off, rfl, by have := cell_lt hc; simpa [Addr.add] using this, fun i hi => ?_⟩
        have hi' : i < len := by rw [hlen] at hi; exact hi
        obtain ⟨q0, q1, _⟩ := hτ i hi'
        rw [add_at8] at q0
        have e : ((List.range len).map τ)[i] = τ i := by simp
        rw [e]
        exact ⟨V i, q0, q1⟩
    · simp only [Rows.uptoBulk]; rw [hlen]; omega
    · intro cs hc
      obtain ⟨i, hi, rfl⟩ := List.mem_map.1 hc
      have h1 := one_bulk D (List.range len) i hi
      obtain ⟨_, _, h2, h3, _⟩ := hτ i (List.mem_range.1 hi)
      simp only [Rows.uptoBulk]
      exact ⟨by omega, fun x hx => by have := h3 x hx; omega⟩
    · unfold totS
      rw [List.map_map]
      simp only [Rows.uptoBulk]
      have : (List.map ((fun cs : List Comp => totC cs + 6) ∘ τ) (List.range len)) = (List.range len).map (fun i => totC (τ i) + 6) := rfl
      rw [this]
      omega

theorem tail_sum (sep : List UInt8) : ∀ r : List (List UInt8), (Lib.joinTail sep r).length = (r.map (fun x => x.length + sep.length)).sum
  | [] => rfl
  | x :: r => by
    have ih := tail_sum sep r
    unfold Lib.joinTail at ih ⊢
    simp only [List.map_cons, List.flatten_cons, List.length_append, List.sum_cons, ih]
    omega
theorem join_sum (sep : List UInt8) : ∀ xs : List (List UInt8), (Lib.join xs sep).length ≤ (xs.map (fun x => x.length + sep.length)).sum
  | [] => by simp [Lib.join_nil]
  | x :: r => by
    rw [Lib.join_cons, List.length_append, tail_sum]
    simp
theorem sum_le {α : Type} (f g : α → Nat) : ∀ l : List α, (∀ x ∈ l, f x ≤ g x) → (l.map f).sum ≤ (l.map g).sum
  | [], _ => Nat.le_refl _
  | x :: r, h => by
    have h1 := sum_le f g r (fun y hy => h y (List.mem_cons_of_mem _ hy))
    have h2 := h x List.mem_cons_self
    simp only [List.map_cons, List.sum_cons]
    omega
theorem set_tot (cs : List Comp) : (setT cs).1.length ≤ totC cs + 1 := by
  unfold setT
  split
  · simp
  · split
    · have h1 := join_sum [32] (cs.map compT)
      rw [List.map_map] at h1
      have h2 := sum_le ((fun x : List UInt8 => x.length + [(32 : UInt8)].length) ∘ compT) (fun c => lenS c.2 + 4) cs (fun c _ => by have := (comp_len c).1; simp; omega)
      unfold totC
      dsimp only
      omega
    · simp
theorem join_tot (l : List (List Comp)) : (Lib.join (l.map (fun cs => (setT cs).1)) [32, 124, 124, 32]).length ≤ totS l := by
  have h1 := join_sum [32, 124, 124, 32] (l.map (fun cs => (setT cs).1))
  rw [List.map_map] at h1
  have h2 := sum_le ((fun x : List UInt8 => x.length + [(32 : UInt8), 124, 124, 32].length) ∘ (fun cs : List Comp => (setT cs).1)) (fun cs => totC cs + 6) l (fun cs _ => by have := set_tot cs; simp; omega)
  unfold totS
  omega

end Go.Proofs.YtplbdciikkpjoaaGreat

namespace Go.Proofs.YtplbdciikkpjoaaGreat
open Go.RowKit Go.Shelf
set_option linter.unusedVariables false

/-- The law's two boxes. -/
structure LD (w : World) (op : Int) (x y : SemL) (a1 a2 a3 a4 : Option Addr) (m1 m2 n3 n4 k1 k2 k3 k4 : Nat) (W : World) : Prop where
  bel : Below w.heap.size w W
  c : W.heap[w.heap.size]? = some (.cells #[.int .i64 op, .string (ofL x.maj), .string (ofL x.min), .string (ofL x.pat), .slice a1 m1 k1, .slice a2 m2 k2] 35)
  v : W.heap[w.heap.size + 1]? = some (.cells #[.string (ofL y.maj), .string (ofL y.min), .string (ofL y.pat), .slice a3 n3 k3, .slice a4 n4 k4] 33)
theorem LD.next {w W W' : World} {op : Int} {x y : SemL} {a1 a2 a3 a4 : Option Addr} {m1 m2 n3 n4 k1 k2 k3 k4 : Nat} (h : LD w op x y a1 a2 a3 a4 m1 m2 n3 n4 k1 k2 k3 k4 W) (hb : Below W.heap.size W W') : LD w op x y a1 a2 a3 a4 m1 m2 n3 n4 k1 k2 k3 k4 W' :=
  ⟨h.bel.trans (hb.mono h.bel.size), (hb.block _ (Array.getElem?_eq_some_iff.1 h.c).1).trans h.c, (hb.block _ (Array.getElem?_eq_some_iff.1 h.v).1).trans h.v⟩
theorem LD.seen {w W' : World} {op : Int} {x y : SemL} {a1 a2 a3 a4 : Option Addr} {m1 m2 n3 n4 k1 k2 k3 k4 : Nat} (h : LD w op x y a1 a2 a3 a4 m1 m2 n3 n4 k1 k2 k3 k4 W') : W'.cell? ⟨w.heap.size, 0, none⟩ = some (.int .i64 op) ∧ W'.cell? ⟨w.heap.size, 1, none⟩ = some (.string (ofL x.maj)) ∧ W'.cell? ⟨w.heap.size, 2, none⟩ = some (.string (ofL x.min)) ∧ W'.cell? ⟨w.heap.size, 3, none⟩ = some (.string (ofL x.pat)) ∧ W'.cell? ⟨w.heap.size, 4, none⟩ = some (.slice a1 m1 k1) ∧ W'.cell? ⟨w.heap.size, 5, none⟩ = some (.slice a2 m2 k2) ∧ W'.cell? ⟨w.heap.size + 1, 0, none⟩ = some (.string (ofL y.maj)) ∧ W'.cell? ⟨w.heap.size + 1, 1, none⟩ = some (.string (ofL y.min)) ∧ W'.cell? ⟨w.heap.size + 1, 2, none⟩ = some (.string (ofL y.pat)) ∧ W'.cell? ⟨w.heap.size + 1, 3, none⟩ = some (.slice a3 n3 k3) ∧ W'.cell? ⟨w.heap.size + 1, 4, none⟩ = some (.slice a4 n4 k4) :=
  ⟨cell_at 0 h.c rfl, cell_at 1 h.c rfl, cell_at 2 h.c rfl, cell_at 3 h.c rfl, cell_at 4 h.c rfl, cell_at 5 h.c rfl, cell_at 0 h.v rfl, cell_at 1 h.v rfl, cell_at 2 h.v rfl, cell_at 3 h.v rfl, cell_at 4 h.v rfl⟩

set_option maxRecDepth 100000 in
set_option maxHeartbeats 8000000 in
theorem writes_walk (l : List (List Comp)) (v : Value) (op : Int) (x y : SemL) (vp vb u : Value) (w : World) (hv : SetsAt w v l) (hs : ∀ cs ∈ l, cs.length ≤ 2000000 ∧ ∀ c ∈ cs, lenS c.2 ≤ 1048576) (hln : l.length ≤ 2000000) (hJ : totS l ≤ 1000000000)
    (t1 : Txt w vp x.pre) (t2 : Txt w vb x.bld) (hu : SemAt w u y) (lx : lenS x ≤ 1048576) (ly : lenS y ≤ 1048576) :
    Calls Tryz.prog 4 #[v, .agg #[.int .i64 op, .string (ofL x.maj), .string (ofL x.min), .string (ofL x.pat), vp, vb], u] w fun e w' => e = .returned (.bool true) ∧ Below w.heap.size w w' := by
  have sx := short_of x lx
  have sy := short_of y ly
  obtain ⟨vq, vc, rfl, t3, t4⟩ := hu
  obtain ⟨a1, k1, rfl, _⟩ := id t1
  obtain ⟨a2, k2, rfl, _⟩ := id t2
  obtain ⟨a3, k3, rfl, _⟩ := id t3
  obtain ⟨a4, k4, rfl, _⟩ := id t4
  obtain ⟨m1, hm1⟩ : ∃ m1, x.pre.length = m1 := ⟨_, rfl⟩
  obtain ⟨m2, hm2⟩ : ∃ m2, x.bld.length = m2 := ⟨_, rfl⟩
  obtain ⟨n3, hn3⟩ : ∃ n3, y.pre.length = n3 := ⟨_, rfl⟩
  obtain ⟨n4, hn4⟩ : ∃ n4, y.bld.length = n4 := ⟨_, rfl⟩
  rw [hm1] at t1 ⊢
  rw [hm2] at t2 ⊢
  rw [hn3] at t3 ⊢
  rw [hn4] at t4 ⊢
  clear hm1 hm2 hn3 hn4
  obtain ⟨a, ka, rfl, _⟩ := id hv
  obtain ⟨n, hn⟩ : ∃ n, l.length = n := ⟨_, rfl⟩
  rw [hn] at hv hln ⊢
  have hjt : (Lib.join (l.map (fun cs => (setT cs).1)) [32, 124, 124, 32]).length ≤ 140737488355328 := by have := join_tot l; omega
  have Q0 : Hid (LD w op x y a1 a2 a3 a4 m1 m2 n3 n4 k1 k2 k3 k4 ((w.alloc (.cells #[.int .i64 op, .string (ofL x.maj), .string (ofL x.min), .string (ofL x.pat), .slice a1 m1 k1, .slice a2 m2 k2] 35)).alloc (.cells #[.string (ofL y.maj), .string (ofL y.min), .string (ofL y.pat), .slice a3 n3 k3, .slice a4 n4 k4] 33))) := ⟨below_a2 w _ _, heap_b0 w _ _, heap_b1 w _ _⟩
  have FO := hide (fun W (q : LD w op x y a1 a2 a3 a4 m1 m2 n3 n4 k1 k2 k3 k4 W) => FormatR_any l _ W (hv.below q.bel) hs (by rw [hn]; exact hln) hjt)
  have RF := hide (fun W (q : LD w op x y a1 a2 a3 a4 m1 m2 n3 n4 k1 k2 k3 k4 W) => RFormatS_any l _ W (hv.below q.bel) hs (by rw [hn]; exact hln) hJ)
  have HO := hide (fun W (q : LD w op x y a1 a2 a3 a4 m1 m2 n3 n4 k1 k2 k3 k4 W) => Holds_any op x y _ _ _ W (t1.below q.bel) (t2.below q.bel) ⟨_, _, rfl, t3.below q.bel, t4.below q.bel⟩ sx sy)
  have RH := hide (fun W (q : LD w op x y a1 a2 a3 a4 m1 m2 n3 n4 k1 k2 k3 k4 W) => RHolds_any op x y _ _ _ W (t1.below q.bel) (t2.below q.bel) ⟨_, _, rfl, t3.below q.bel, t4.below q.bel⟩ lx ly)
  have HSY : Hid (∀ W, Below w.heap.size w W → SemAt W (.agg #[.string (ofL y.maj), .string (ofL y.min), .string (ofL y.pat), .slice a3 n3 k3, .slice a4 n4 k4]) y) := fun W hW => ⟨_, _, rfl, t3.below hW, t4.below hW⟩
  have HV := hide hv
  have HS := hide hs
  have HN := hide hn
  have HSY1 := hide sy
  have HLY := hide ly
  clear hv hs hn hJ hjt t1 t2 t3 t4 sx sy lx ly
  generalize fmtSets l = F at *
  generalize holdsL (op, x) y = Hh at *
  obtain ⟨s0, s1, s2, s3, s4, s5, r0, r1, r2, r3, r4⟩ := Q0.out.seen
  go_enter Tryz.func4, Tryz.ntmps4
  go_wp2_with fail
  generalize (w.alloc (.cells #[.int .i64 op, .string (ofL x.maj), .string (ofL x.min), .string (ofL x.pat), .slice a1 m1 k1, .slice a2 m2 k2] 35)).alloc (.cells #[.string (ofL y.maj), .string (ofL y.min), .string (ofL y.pat), .slice a3 n3 k3, .slice a4 n4 k4] 33) = W0 at *
  have BD := hide (Q0.out.next (drew_below W0.heap.size W0))
  go_region_held3 (fun W' => W'.cell? ⟨w.heap.size, 0, none⟩ = some (.int .i64 op) ∧ W'.cell? ⟨w.heap.size, 1, none⟩ = some (.string (ofL x.maj)) ∧ W'.cell? ⟨w.heap.size, 2, none⟩ = some (.string (ofL x.min)) ∧ W'.cell? ⟨w.heap.size, 3, none⟩ = some (.string (ofL x.pat)) ∧ W'.cell? ⟨w.heap.size, 4, none⟩ = some (.slice a1 m1 k1) ∧ W'.cell? ⟨w.heap.size, 5, none⟩ = some (.slice a2 m2 k2) ∧ W'.cell? ⟨w.heap.size + 1, 0, none⟩ = some (.string (ofL y.maj)) ∧ W'.cell? ⟨w.heap.size + 1, 1, none⟩ = some (.string (ofL y.min)) ∧ W'.cell? ⟨w.heap.size + 1, 2, none⟩ = some (.string (ofL y.pat)) ∧ W'.cell? ⟨w.heap.size + 1, 3, none⟩ = some (.slice a3 n3 k3) ∧ W'.cell? ⟨w.heap.size + 1, 4, none⟩ = some (.slice a4 n4 k4)) (go_keep) ((first
      | (go_at_call 16; (first | refine (RH.out _ PB3.out).mono ?_ | refine (RH.out _ PB2.out).mono ?_ | refine (RH.out _ PB1.out).mono ?_ | refine (RH.out _ BD.out).mono ?_); rintro e4 v4 ⟨rfl, b4⟩; (first | have PB4 := hide (PB3.out.next b4) | have PB4 := hide (PB2.out.next b4) | have PB4 := hide (PB1.out.next b4) | have PB4 := hide (BD.out.next b4)); obtain ⟨x40, x41, x42, x43, x44, x45, z40, z41, z42, z43, z44⟩ := PB4.out.seen; clear b4)
      | (go_at_call 15; (first | refine (HO.out _ PB4.out).mono ?_ | refine (HO.out _ PB2.out).mono ?_ | refine (HO.out _ PB1.out).mono ?_ | refine (HO.out _ BD.out).mono ?_); rintro e3 v3 ⟨rfl, b3⟩; (first | have PB3 := hide (PB4.out.next b3) | have PB3 := hide (PB2.out.next b3) | have PB3 := hide (PB1.out.next b3) | have PB3 := hide (BD.out.next b3)); obtain ⟨x30, x31, x32, x33, x34, x35, z30, z31, z32, z33, z34⟩ := PB3.out.seen; clear b3)
      | (go_at_call 14; (first | refine (RF.out _ PB1.out).mono ?_ | refine (RF.out _ BD.out).mono ?_); rintro e2 v2 ⟨rfl, b2⟩; (first | have PB2 := hide (PB1.out.next b2) | have PB2 := hide (BD.out.next b2)); obtain ⟨x20, x21, x22, x23, x24, x25, z20, z21, z22, z23, z24⟩ := PB2.out.seen; clear b2)
      | (go_at_call 13; (first | refine (FO.out _ PB2.out).mono ?_ | refine (FO.out _ BD.out).mono ?_); rintro e1 v1 ⟨rfl, b1⟩; (first | have PB1 := hide (PB2.out.next b1) | have PB1 := hide (BD.out.next b1)); obtain ⟨x10, x11, x12, x13, x14, x15, z10, z11, z12, z13, z14⟩ := PB1.out.seen; clear b1)
      | fail))
  clear FO RF HO RH s0 s1 s2 s3 s4 s5 r0 r1 r2 r3 r4 Q0 BD
  go_wp2_with fail
  go_loopw [7] (fun j wr => ∃ i : Nat, i ≤ n ∧ j = .int .i64 i ∧ Hid (LD w op x y a1 a2 a3 a4 m1 m2 n3 n4 k1 k2 k3 k4 wr)) (fun j _ => n - (intOf j).toNat)
  case atStart => exact ⟨0, by omega, rfl, (by first | exact PB4 | exact PB3)⟩
  case round =>
    obtain ⟨i, hin, rfl, Q⟩ := hrel
    by_cases hlt : i < n
    · have hlt' : (i : Int) < (n : Int) := by omega
      have hi0 : (0 : Int) ≤ (i : Int) := by omega
      have i1 : i < l.length := by rw [HN.out]; exact hlt
      obtain ⟨a', k', hv', h0 | ⟨b, o, rfl, hbl, hrow⟩⟩ := HV.out
      · exfalso
        rw [h0] at i1
        simp at i1
      cases hv'
      obtain ⟨u, d0, hcs⟩ := hrow i i1
      obtain ⟨hm0, hsc⟩ := HS.out l[i] (List.getElem_mem i1)
      obtain ⟨au, ku, rfl, hjunk⟩ := id hcs
      clear hjunk
      have SE := hide (fun W (q : LD w op x y a1 a2 a3 a4 m1 m2 n3 n4 k1 k2 k3 k4 W) => Set_any l[i] y _ _ W (hcs.below q.bel) (HSY.out W q.bel) (fun c hc => short_of c.2 (hsc c hc)) HSY1.out (by omega))
      have RS := hide (fun W (q : LD w op x y a1 a2 a3 a4 m1 m2 n3 n4 k1 k2 k3 k4 W) => RSet_any l[i] y _ _ W (hcs.below q.bel) (HSY.out W q.bel) hsc HLY.out hm0)
      have HCS : Hid (∀ W, Below w.heap.size w W → W.cell? ⟨b, o + i, none⟩ = some (.slice au l[i].length ku) ∧ True) := fun W hW => ⟨(hW.cell hbl).trans d0, trivial⟩
      clear hrow d0 hcs hsc hm0
      generalize setL l[i] y = Sv at *
      generalize l[i].length = m at *
      clear i1
      obtain ⟨d0, _⟩ := HCS.out _ Q.out.bel
      obtain ⟨_, _, _, _, _, _, r0, r1, r2, r3, r4⟩ := Q.out.seen
      have BD := hide (Q.out.next (drew_below wr.heap.size wr))
      go_wp2_with fail
      go_region_held3 (fun W' => W'.cell? ⟨b, o + i, none⟩ = some (.slice au m ku) ∧ W'.cell? ⟨w.heap.size + 1, 0, none⟩ = some (.string (ofL y.maj)) ∧ W'.cell? ⟨w.heap.size + 1, 1, none⟩ = some (.string (ofL y.min)) ∧ W'.cell? ⟨w.heap.size + 1, 2, none⟩ = some (.string (ofL y.pat)) ∧ W'.cell? ⟨w.heap.size + 1, 3, none⟩ = some (.slice a3 n3 k3) ∧ W'.cell? ⟨w.heap.size + 1, 4, none⟩ = some (.slice a4 n4 k4)) (go_keep) ((first
            | (go_at_call 18; (first | refine (RS.out _ PB5.out).mono ?_ | refine (RS.out _ BD.out).mono ?_); rintro e6 v6 ⟨rfl, b6⟩; (first | have PB6 := hide (PB5.out.next b6) | have PB6 := hide (BD.out.next b6)); obtain ⟨_, _, _, _, _, _, z60, z61, z62, z63, z64⟩ := PB6.out.seen; have y6 := (HCS.out _ PB6.out.bel).1; clear b6)
            | (go_at_call 17; (first | refine (SE.out _ PB6.out).mono ?_ | refine (SE.out _ BD.out).mono ?_); rintro e5 v5 ⟨rfl, b5⟩; (first | have PB5 := hide (PB6.out.next b5) | have PB5 := hide (BD.out.next b5)); obtain ⟨_, _, _, _, _, _, z50, z51, z52, z53, z54⟩ := PB5.out.seen; have y5 := (HCS.out _ PB5.out.bel).1; clear b5)
            | fail))
      all_goals
        clear SE RS r0 r1 r2 r3 r4 d0 BD
        go_wp2_with fail
        go_roundw
        case rel => exact ⟨i + 1, by omega, by go_num, (by first | exact PB6 | exact PB5)⟩
        case measure => simp [intOf]; omega
    · have hlt' : ¬ (i : Int) < (n : Int) := by omega
      have AW := hide awake8_any
      go_wp2_with fail
      refine (AW.out _).mono ?_
      rintro e9 w9 ⟨rfl, b9⟩
      have HF := hide (Q.out.bel.trans (b9.mono Q.out.bel.size))
      clear b9
      go_wp2_with fail
      go_ret
      exact ⟨rfl, HF.out⟩

end Go.Proofs.YtplbdciikkpjoaaGreat
