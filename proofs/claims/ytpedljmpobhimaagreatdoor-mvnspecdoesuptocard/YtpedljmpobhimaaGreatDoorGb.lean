/-
  A requirement that came in, opened; and the way from a walk to a row that lists a variable and bears a condition.
-/
import Derived.Test.YtpedljmpobhimaaGreatDoorCa
import Derived.Test.YtpedljmpobhimaaGreatDoorJr
import Derived.SliceStrings
import Derived.Deep.Slices
import Derived.JoinedCond
namespace Go.Proofs.YtpedljmpobhimaaGreatDoor
open Go.ChangeShapes Go.WideShapes Go.ChangeAt Go.RowKit
set_option linter.unusedVariables false

/-- A range as data. -/
def mrD {H : Type} (m : Mr) : DataW H := .agg [.lit (.bool m.hasLo), .lit (.string m.lo), .lit (.bool m.loIn), .lit (.bool m.hasHi), .lit (.string m.hi), .lit (.bool m.hiIn)]
theorem bulk_mrs {H : Type} (D : Nat → DataW H) (τ : Nat → Mr) : ∀ l : List Nat, (∀ i ∈ l, D i = mrD (τ i)) → l.length ≤ Rows.uptoBulkAll (l.map D) ∧ ∀ i ∈ l, (τ i).lo.length ≤ Rows.uptoBulkAll (l.map D) ∧ (τ i).hi.length ≤ Rows.uptoBulkAll (l.map D)
  | [], _ => ⟨Nat.zero_le _, fun i h => by cases h⟩
  | j :: r, h => by
    obtain ⟨h1, h2⟩ := bulk_mrs D τ r (fun i hi => h i (List.mem_cons_of_mem _ hi))
    have hj := h j List.mem_cons_self
    simp only [List.map_cons, Rows.uptoBulkAll, List.length_cons]
    rw [hj]
    simp only [mrD, Rows.uptoBulk, Rows.uptoBulkAll]
    refine ⟨by omega, fun i hi => ?_⟩
    rcases List.mem_cons.1 hi with rfl | hi
    · exact ⟨by omega, by omega⟩
    · have := h2 i hi; exact ⟨by omega, by omega⟩

theorem laidOut : laidOutB Tryz.prog = true := by kernel_rfl
instance : Inhabited Mr := ⟨noM⟩
theorem c37 : Tryz.prog.cellsOf 54 = 6 := by kernel_rfl
theorem c24 : Tryz.prog.cellsOf 24 = 2 := by kernel_rfl
theorem c22 : Tryz.prog.cellsOf 22 = 1 := by kernel_rfl
theorem c4 : Tryz.prog.cellsOf 4 = 1 := by kernel_rfl
theorem add_at (b o j : Nat) : (Addr.add ⟨b, o, none⟩ j) = ⟨b, o + j, none⟩ := by
  by_cases e0 : j = 0
  · subst e0; rfl
  · simp [Addr.add, e0]
theorem flatM_inv : ∀ (xs : List Mr) (j : Nat) (u : Value), (flatM xs)[j]? = some u → ∃ i k, ∃ h : i < xs.length, j = i * 6 + k ∧ (rowM xs[i])[k]? = some u
  | [], j, u, h => by simp [flatM] at h
  | x :: xs, j, u, h => by
    rw [flatM_cons] at h
    by_cases hj : j < (rowM x).length
    · rw [List.getElem?_append_left hj] at h
      exact ⟨0, j, by simp, by simp, h⟩
    · rw [List.getElem?_append_right (by omega)] at h
      have hl : (rowM x).length = 6 := rfl
      obtain ⟨i, k, hi, hk, hr⟩ := flatM_inv xs _ u h
      exact ⟨i + 1, k, by simp; omega, by omega, by simpa using hr⟩

set_option maxRecDepth 100000 in
/-- A slice of ranges that came in. -/
theorem open_mrs {H : Type} {enc : TypeId × Value → H} {W : World} {fuel : Nat} {c : Value} {y : DataW H × List MemPlace} (h : DataW.trod enc Tryz.prog W 0 (fun _ => true) true fuel 22 [c] = some y) :
    ∃ (a : Option Addr) (n cap : Nat) (ts : List Mr), c = .slice a n cap ∧ (a = none → cap = 0) ∧ Mrs W (.slice a n cap) ts ∧ n ≤ Rows.uptoBulk y.1 ∧ ∀ t ∈ ts, t.lo.length ≤ Rows.uptoBulk y.1 ∧ t.hi.length ≤ Rows.uptoBulk y.1 := by
  rcases Go.Deep.open_slice Tryz.underlying22 h with ⟨hcs, rfl⟩ | ⟨a, len, cap, m, n, D, Pl, hcs, _, hl, hm, hmm, rfl, hx⟩
  · obtain rfl : c = .slice none 0 0 := by simpa using hcs
    exact ⟨none, 0, 0, [], rfl, fun _ => rfl, ⟨none, 0, rfl, .inl rfl⟩, Nat.zero_le _, fun t ht => by cases ht⟩
  · obtain rfl : c = .slice (some a) len cap := by simpa using hcs
    have hmc : m = cap := by simpa using hmm
    have each : ∀ i, i < len → ∃ t : Mr, (∀ k u, (rowM t)[k]? = some u → W.cell? (a.add (i * 6 + k)) = some u) ∧ D i = mrD t := by
      intro i hi
      obtain ⟨cs', h1, h2⟩ := hx i (by omega)
      rw [c37] at h1
      obtain ⟨_, hlen, hcell⟩ := World.cells?_some h1
      obtain ⟨xs, k, _, hxy, _, hxl, hf⟩ := DataW.trod_struct Tryz.underlying54 h2
      match xs, hxl, cs', hlen with
      | [y0, y1, y2, y3, y4, y5], _, [v0, v1, v2, v3, v4, v5], _ =>
        have g0 := hf 0 _ rfl
        have g1 := hf 1 _ rfl
        have g2 := hf 2 _ rfl
        have g3 := hf 3 _ rfl
        have g4 := hf 4 _ rfl
        have g5 := hf 5 _ rfl
        obtain ⟨s0, e0, z0⟩ := DataW.trod_bool (cs := [v0]) Tryz.underlying4 (g0 : DataW.trod enc Tryz.prog W 0 _ true k 4 [v0] = some y0)
        obtain rfl : v0 = .bool s0 := by simpa using e0
        obtain ⟨s1, e1, z1, _⟩ := DataW.trod_string (cs := [v1]) Tryz.underlying9 (g1 : DataW.trod enc Tryz.prog W 0 _ true k 9 [v1] = some y1)
        obtain rfl : v1 = .string s1 := by simpa using e1
        obtain ⟨s2, e2, z2⟩ := DataW.trod_bool (cs := [v2]) Tryz.underlying4 (g2 : DataW.trod enc Tryz.prog W 0 _ true k 4 [v2] = some y2)
        obtain rfl : v2 = .bool s2 := by simpa using e2
        obtain ⟨s3, e3, z3⟩ := DataW.trod_bool (cs := [v3]) Tryz.underlying4 (g3 : DataW.trod enc Tryz.prog W 0 _ true k 4 [v3] = some y3)
        obtain rfl : v3 = .bool s3 := by simpa using e3
        obtain ⟨s4, e4, z4, _⟩ := DataW.trod_string (cs := [v4]) Tryz.underlying9 (g4 : DataW.trod enc Tryz.prog W 0 _ true k 9 [v4] = some y4)
        obtain rfl : v4 = .string s4 := by simpa using e4
        obtain ⟨s5, e5, z5⟩ := DataW.trod_bool (cs := [v5]) Tryz.underlying4 (g5 : DataW.trod enc Tryz.prog W 0 _ true k 4 [v5] = some y5)
        obtain rfl : v5 = .bool s5 := by simpa using e5
        subst z0 z1 z2 z3 z4 z5
        have q0 := hcell 0 (by omega)
        have q1 := hcell 1 (by omega)
        have q2 := hcell 2 (by omega)
        have q3 := hcell 3 (by omega)
        have q4 := hcell 4 (by omega)
        have q5 := hcell 5 (by omega)
        rw [Go.Deep.add_add] at q0 q1 q2 q3 q4 q5
        simp only [Prod.mk.injEq] at hxy
        refine ⟨⟨s0, s1.data.toList, s2, s3, s4.data.toList, s5⟩, ?_, ?_⟩
        · intro k u hu
          match k, hu with
          | 0, hu => simp only [rowM, List.getElem?_cons_zero, Option.some.injEq] at hu; subst hu; simpa [ofL_self] using q0
          | 1, hu => simp only [rowM, List.getElem?_cons_zero, List.getElem?_cons_succ, Option.some.injEq] at hu; subst hu; simpa [ofL_self] using q1
          | 2, hu => simp only [rowM, List.getElem?_cons_zero, List.getElem?_cons_succ, Option.some.injEq] at hu; subst hu; simpa [ofL_self] using q2
          | 3, hu => simp only [rowM, List.getElem?_cons_zero, List.getElem?_cons_succ, Option.some.injEq] at hu; subst hu; simpa [ofL_self] using q3
          | 4, hu => simp only [rowM, List.getElem?_cons_zero, List.getElem?_cons_succ, Option.some.injEq] at hu; subst hu; simpa [ofL_self] using q4
          | 5, hu => simp only [rowM, List.getElem?_cons_zero, List.getElem?_cons_succ, Option.some.injEq] at hu; subst hu; simpa [ofL_self] using q5
          | k + 6, hu => simp [rowM] at hu
        · rw [hxy.1]; rfl
    obtain ⟨τ, hτ⟩ := Go.Deep.choose_lt each
    obtain ⟨hb1, hb2⟩ := bulk_mrs D τ (List.range len) (fun i hi => (hτ i (List.mem_range.1 hi)).2)
    rw [List.length_range] at hb1
    have hlen : ((List.range len).map τ).length = len := by rw [List.length_map, List.length_range]
    refine ⟨some a, len, cap, (List.range len).map τ, rfl, (fun h => by cases h), ⟨some a, cap, by rw [hlen], ?_⟩, ?_, ?_⟩
    · by_cases h0 : len = 0
      · left; rw [h0]; rfl
      · right
        obtain ⟨b, off, spot⟩ := a
        have hc := (hτ 0 (by omega)).1 0 _ rfl
        have hspot : spot = none := by simpa [Addr.add] using World.cell?_spot hc
        subst hspot
        refine ⟨b, off, rfl, by have := cell_lt hc; simpa [Addr.add] using this, fun j u hj => ?_⟩
        obtain ⟨i, k, hi, rfl, hr⟩ := flatM_inv _ j u hj
        rw [hlen] at hi
        have e : ((List.range len).map τ)[i]'(by rw [hlen]; exact hi) = τ i := by simp
        rw [e] at hr
        have := (hτ i hi).1 k u hr
        rw [add_at] at this
        exact this
    · simp only [Rows.uptoBulk]; omega
    · intro t ht
      obtain ⟨i, hi, rfl⟩ := List.mem_map.1 ht
      have := hb2 i hi
      simp only [Rows.uptoBulk]; exact ⟨by omega, by omega⟩

set_option maxRecDepth 100000 in
/-- A requirement that came in. -/
theorem open_mav {H : Type} {enc : TypeId × Value → H} {W : World} {base : Nat} {v : Value} {d : DataW H} {p : List MemPlace} (hok : Value.okWide Tryz.prog W .any base 24 v)
    (h : ∃ m, DataW.trod enc Tryz.prog W 0 (fun _ => true) true m 24 v.cells.toList = some (d, p)) :
    ∃ (t : List UInt8) (a : Option Addr) (c : Nat) (ms : List Mr), v = .agg #[.string (ofL t), .slice a ms.length c] ∧ (a = none → c = 0) ∧ t.length ≤ Rows.uptoBulk d ∧ Mrs W (.slice a ms.length c) ms ∧ ms.length ≤ Rows.uptoBulk d ∧ ∀ m ∈ ms, m.lo.length ≤ Rows.uptoBulk d ∧ m.hi.length ≤ Rows.uptoBulk d := by
  obtain ⟨m, hm⟩ := h
  obtain ⟨cs, rfl, hsz⟩ := okWide_struct Tryz.underlying24 hok
  rw [c24] at hsz
  obtain ⟨xs, n, _, hx, _, hxl, hf⟩ := DataW.trod_struct Tryz.underlying24 hm
  obtain ⟨c0, c1, rfl⟩ : ∃ c0 c1, cs = #[c0, c1] := by
    rcases cs with ⟨l⟩
    match l, hsz with
    | [c0, c1], _ => exact ⟨c0, c1, rfl⟩
  obtain ⟨y0, y1, rfl⟩ : ∃ y0 y1, xs = [y0, y1] := by
    match xs, hxl with
    | [y0, y1], _ => exact ⟨y0, y1, rfl⟩
  have f0 := hf 0 _ rfl
  have f1 := hf 1 _ rfl
  simp only [Value.cells] at f0 f1
  obtain ⟨s0, g0, hy0, _⟩ := DataW.trod_string (cs := [c0]) Tryz.underlying9 (f0 : DataW.trod enc Tryz.prog W 0 _ true n 9 [c0] = some y0)
  obtain rfl : c0 = .string s0 := by simpa using g0
  obtain ⟨a, k, cap, ms, rfl, hnil, hM, hl, hb⟩ := open_mrs (f1 : DataW.trod enc Tryz.prog W 0 _ true n 22 [c1] = some y1)
  obtain rfl := mrs_n hM
  simp only [Prod.mk.injEq] at hx
  have hd : Rows.uptoBulk y1.1 ≤ Rows.uptoBulk d := by
    rw [hx.1]
    simp only [List.map_cons, List.map_nil, Rows.uptoBulk, Rows.uptoBulkAll]
    omega
  have hd0 : Rows.uptoBulk y0.1 ≤ Rows.uptoBulk d := by
    rw [hx.1]
    simp only [List.map_cons, List.map_nil, Rows.uptoBulk, Rows.uptoBulkAll]
    omega
  have hd1 : s0.data.toList.length ≤ Rows.uptoBulk y0.1 := by
    rw [hy0]
    simp only [Rows.uptoBulk]
    omega
  exact ⟨s0.data.toList, a, cap, ms, by rw [ofL_self], hnil, by omega, hM, by omega, fun m hm => by have := hb m hm; exact ⟨by omega, by omega⟩⟩

/-- A row that lists variables and bears a condition of its own: what the walk owes. -/
theorem handed_cond_and {H : Type} {enc : TypeId × Value → H} {a : Assume} {C : Checked} {os : Os} {f : FuncId} {fn : Func} {s : OpenSpec} {k : (H : Type) → List (DataW H) → Bool} (hk : s.cond = some k) {F : Stop.Interp} {conds : List PathCond} {apart fresh handsOn again : Bool} {X : World → Prop}
    (hX : ∀ (w w' : World), w.heap = w'.heap → X w → X w')
    (own : ownKnob C.prog.godebug = none) (started : os.Started) (noInit : C.prog.inits.idxOf? f = none) (hfn : C.prog.funcs[f]? = some fn)
    (witness : ∃ (w : World) (tape : Tape) (i : Input), w.os = os ∧ (w.forCall tape i).Shaped C.prog ∧ i.vars = [] ∧ Input.okWide C.prog (w.forCall tape i) .any w.heap.size f i ∧
      ((s.pre enc C.prog fn conds apart (w.forCall tape i).memory i.args ∧ X (w.forCall tape i).memory) ∧ sizedMet enc C.prog fn s apart (w.forCall tape i).memory i.args) ∧ a.holds C.prog (lone (Frame.enter C.prog f i.args .normal) [] (w.forCall tape i)))
    (contract : ∀ (W : World) (base : Nat) (args : Array Value) (ds gs : List (DataW H)) (before : List MemPlace),
      (∀ (j : Nat) t v, fn.params[j]? = some t → args[j]? = some v → Value.okWide C.prog W .any base t v) →
      DataW.Whole enc C.prog fn.params.toList s.vars apart W args.toList ds gs before → k H (ds ++ gs) = true → X W →
      Calls C.prog f args W fun e W' => ∃ v, e = .returned v ∧ (s.at F).post enc C.prog fn apart fresh handsOn again W args v W') :
    ReturnsInHanded a C os f .any (fun w args => (s.pre enc C.prog fn conds apart w args ∧ X w) ∧ sizedMet enc C.prog fn s apart w args) ((s.at F).post enc C.prog fn apart fresh handsOn again) := by
  refine returnsInHanded_of_calls own started noInit witness ?_
  intro w tape i _ _ _ hok hpre hholds
  obtain ⟨_, _, _, fn', hfn', _, _, _, _, hval⟩ := hok
  have e : fn' = fn := Option.some.inj (hfn'.symm.trans hfn)
  subst e
  obtain ⟨⟨hp, hx⟩, _⟩ := hpre
  obtain ⟨ds, gs, before, hw, _, hkk⟩ := (OpenSpec.pre_some hk conds apart _ _).1 hp
  have hw' := DataW.Whole.of_heap (w' := w.forCall tape i) (by rfl) hw
  refine (contract (w.forCall tape i) w.heap.size i.args ds gs before hval hw' hkk (hX _ _ (by rfl) hx)).mono fun e W' ⟨v, he, hp⟩ => ?_
  subst he
  exact ChangeSpec.post_blind hp

end Go.Proofs.YtpedljmpobhimaaGreatDoor
