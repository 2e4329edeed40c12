/-
  Walks: is a version in a set?
-/
import Derived.Test.YtaflflelcdcanaaGreatZEzb
import Derived.Test.YtaflflelcdcanaaGreatZFc
namespace Go.Proofs.YtaflflelcdcanaaGreat
open Go.RowKit Go.Shelf
set_option linter.unusedVariables false

/-- The cells of a version, of a comparator. -/
def semO (y : SemL) (a3 a4 : Option Addr) (n3 n4 k3 k4 : Nat) : Obj := .cells #[.string (ofL y.maj), .string (ofL y.min), .string (ofL y.pat), .slice a3 n3 k3, .slice a4 n4 k4] 33 (0, 0)
def compO (op : Int) (x : SemL) (a1 a2 : Option Addr) (n1 n2 k1 k2 : Nat) : Obj := .cells #[.int .i64 op, .string (ofL x.maj), .string (ofL x.min), .string (ofL x.pat), .slice a1 n1 k1, .slice a2 n2 k2] 35 (0, 0)
/-- A version in its box. -/
structure Vb (w : World) (y : SemL) (a3 a4 : Option Addr) (n3 n4 k3 k4 : Nat) (W : World) : Prop where
  bel : Below w.heap.size w W
  box : W.heap[w.heap.size]? = some (semO y a3 a4 n3 n4 k3 k4)
  t3 : Txt W (.slice a3 n3 k3) y.pre
  t4 : Txt W (.slice a4 n4 k4) y.bld
theorem Vb.next {w W W' : World} {y : SemL} {a3 a4 : Option Addr} {n3 n4 k3 k4 : Nat} (h : Vb w y a3 a4 n3 n4 k3 k4 W) (hb : Below W.heap.size W W') : Vb w y a3 a4 n3 n4 k3 k4 W' :=
  ⟨h.bel.trans (hb.mono h.bel.size), (hb.block _ (Array.getElem?_eq_some_iff.1 h.box).1).trans h.box, h.t3.below hb, h.t4.below hb⟩
theorem Vb.sem {w W : World} {y : SemL} {a3 a4 : Option Addr} {n3 n4 k3 k4 : Nat} (h : Vb w y a3 a4 n3 n4 k3 k4 W) : SemAt W (.agg #[.string (ofL y.maj), .string (ofL y.min), .string (ofL y.pat), .slice a3 n3 k3, .slice a4 n4 k4]) y := ⟨_, _, rfl, h.t3, h.t4⟩
theorem Vb.seen {w W : World} {y : SemL} {a3 a4 : Option Addr} {n3 n4 k3 k4 : Nat} (h : Vb w y a3 a4 n3 n4 k3 k4 W) : W.cell? ⟨w.heap.size, 0, none⟩ = some (.string (ofL y.maj)) ∧ W.cell? ⟨w.heap.size, 1, none⟩ = some (.string (ofL y.min)) ∧ W.cell? ⟨w.heap.size, 2, none⟩ = some (.string (ofL y.pat)) ∧ W.cell? ⟨w.heap.size, 3, none⟩ = some (.slice a3 n3 k3) ∧ W.cell? ⟨w.heap.size, 4, none⟩ = some (.slice a4 n4 k4) :=
  ⟨cell_at 0 h.box rfl, cell_at 1 h.box rfl, cell_at 2 h.box rfl, cell_at 3 h.box rfl, cell_at 4 h.box rfl⟩
theorem Vb.start {w : World} {y : SemL} {a3 a4 : Option Addr} {n3 n4 k3 k4 : Nat} (t3 : Txt w (.slice a3 n3 k3) y.pre) (t4 : Txt w (.slice a4 n4 k4) y.bld) : Vb w y a3 a4 n3 n4 k3 k4 (w.alloc (.cells #[.string (ofL y.maj), .string (ofL y.min), .string (ofL y.pat), .slice a3 n3 k3, .slice a4 n4 k4] 33)) := by
  have hb := (Below.refl _ w).alloc (Nat.le_refl _) (.cells #[.string (ofL y.maj), .string (ofL y.min), .string (ofL y.pat), .slice a3 n3 k3, .slice a4 n4 k4] 33)
  exact ⟨hb, World.alloc_heap_new w _, t3.below hb, t4.below hb⟩
/-- A comparator in its box. -/
structure Cb (K : Nat) (op : Int) (x : SemL) (a1 a2 : Option Addr) (n1 n2 k1 k2 : Nat) (W : World) : Prop where
  box : W.heap[K]? = some (compO op x a1 a2 n1 n2 k1 k2)
  t1 : Txt W (.slice a1 n1 k1) x.pre
  t2 : Txt W (.slice a2 n2 k2) x.bld
theorem Cb.next {W W' : World} {K : Nat} {op : Int} {x : SemL} {a1 a2 : Option Addr} {n1 n2 k1 k2 : Nat} (h : Cb K op x a1 a2 n1 n2 k1 k2 W) (hb : Below W.heap.size W W') : Cb K op x a1 a2 n1 n2 k1 k2 W' :=
  ⟨(hb.block _ (Array.getElem?_eq_some_iff.1 h.box).1).trans h.box, h.t1.below hb, h.t2.below hb⟩
theorem Cb.sem {W : World} {K : Nat} {op : Int} {x : SemL} {a1 a2 : Option Addr} {n1 n2 k1 k2 : Nat} (h : Cb K op x a1 a2 n1 n2 k1 k2 W) : SemAt W (.agg #[.string (ofL x.maj), .string (ofL x.min), .string (ofL x.pat), .slice a1 n1 k1, .slice a2 n2 k2]) x := ⟨_, _, rfl, h.t1, h.t2⟩
theorem Cb.seen {W : World} {K : Nat} {op : Int} {x : SemL} {a1 a2 : Option Addr} {n1 n2 k1 k2 : Nat} (h : Cb K op x a1 a2 n1 n2 k1 k2 W) : W.cell? ⟨K, 0, none⟩ = some (.int .i64 op) ∧ W.cell? ⟨K, 1, none⟩ = some (.string (ofL x.maj)) ∧ W.cell? ⟨K, 2, none⟩ = some (.string (ofL x.min)) ∧ W.cell? ⟨K, 3, none⟩ = some (.string (ofL x.pat)) ∧ W.cell? ⟨K, 4, none⟩ = some (.slice a1 n1 k1) ∧ W.cell? ⟨K, 5, none⟩ = some (.slice a2 n2 k2) :=
  ⟨cell_at 0 h.box rfl, cell_at 1 h.box rfl, cell_at 2 h.box rfl, cell_at 3 h.box rfl, cell_at 4 h.box rfl, cell_at 5 h.box rfl⟩
theorem Txt.len {W : World} {a : Option Addr} {n k : Nat} {ts : List (List UInt8)} (h : Txt W (.slice a n k) ts) : ts.length = n := by
  obtain ⟨a', k', hv, _⟩ := h
  cases hv
  rfl
/-- What a set asks of each comparator; which lets pre-releases in. -/
def readyL (y : SemL) (c : Comp) : Bool := !c.2.pre.isEmpty && sameL c.2 y
theorem set_eq (cs : List Comp) (y : SemL) : setL cs y = (fitW y && cs.all (fun c => holdsL c y) && (y.pre.isEmpty || cs.any (readyL y))) := rfl
theorem len_empty {α : Type} {ts : List α} {n : Nat} (h : ts.length = n) : ts.isEmpty = decide (n = 0) := by
  subst h
  cases ts <;> simp
theorem all_takeE {α : Type} {f : α → Bool} (cs : List α) (i : Nat) (h : i < cs.length) (hA : (cs.take i).all f = true) : (cs.take (i + 1)).all f = f cs[i] := by
  rw [List.take_succ_eq_append_getElem h, List.all_append, hA]
  simp
theorem any_take {α : Type} {f : α → Bool} (cs : List α) (i : Nat) (h : i < cs.length) : (cs.take (i + 1)).any f = ((cs.take i).any f || f cs[i]) := by
  rw [List.take_succ_eq_append_getElem h, List.any_append]
  simp

set_option maxRecDepth 100000 in
set_option maxHeartbeats 8000000 in
theorem Set_any (cs : List Comp) (y : SemL) (v u : Value) (w : World) (hv : CompsAt w v cs) (hu : SemAt w u y) (hs : ∀ c ∈ cs, ShortS c.2) (sy : ShortS y) (hcn : cs.length ≤ 9000000000000000000) :
    Calls Tryz.prog 17 #[v, u] w fun e w' => e = .returned (.bool (setL cs y)) ∧ Below w.heap.size w w' := by
  obtain ⟨a, k, rfl, hc0⟩ := id hv
  obtain ⟨vq, vc, rfl, t3, t4⟩ := hu
  obtain ⟨a3, k3, rfl, _⟩ := id t3
  obtain ⟨a4, k4, rfl, _⟩ := id t4
  obtain ⟨n, hn⟩ : ∃ n, cs.length = n := ⟨_, rfl⟩
  obtain ⟨n3, hn3⟩ : ∃ n3, y.pre.length = n3 := ⟨_, rfl⟩
  obtain ⟨n4, hn4⟩ : ∃ n4, y.bld.length = n4 := ⟨_, rfl⟩
  rw [hn3] at t3 ⊢
  rw [hn4] at t4 ⊢
  rw [hn] at hv hcn ⊢
  have HN := hide hn
  have HN3 := hide hn3
  have HV := hide hv
  have HSC := hide hs
  have Q0 := hide (Vb.start t3 t4)
  have hX := set_eq cs y
  rw [len_empty hn3] at hX
  have FY := hide (fun W (q : Vb w y a3 a4 n3 n4 k3 k4 W) => Fit_any _ y W q.sem sy)
  clear hn hn3 hn4 t3 t4 hv hc0 hs
  generalize setL cs y = X at *
  generalize hfy : fitW y = fy at *
  clear hfy
  have HX := hide hX
  clear hX
  obtain ⟨s0, s1, s2, s3, s4⟩ := Q0.out.seen
  go_enter Tryz.func17, Tryz.ntmps17
  go_wp2_with fail
  generalize w.alloc (.cells #[.string (ofL y.maj), .string (ofL y.min), .string (ofL y.pat), .slice a3 n3 k3, .slice a4 n4 k4] 33) = W0 at *
  refine (FY.out _ Q0.out).mono ?_
  rintro e W1 ⟨rfl, b1⟩
  have Q1 := hide (Q0.out.next b1)
  clear b1 Q0 s0 s1 s2 s3 s4 FY
  obtain ⟨s0, s1, s2, s3, s4⟩ := Q1.out.seen
  cases fy with
  | false =>
    go_wp2_with fail
    go_ret
    exact ⟨by rw [HX.out]; rfl, Q1.out.bel⟩
  | true =>
    obtain ⟨E, hE⟩ : ∃ E, decide (n3 = 0) = E := ⟨_, rfl⟩
    have hEb : ((n3 : Int) == 0) = E := by rw [← hE, Bool.eq_iff_iff]; simp
    rw [hE] at HX
    clear hE
    go_wp2_with fail
    go_loopw [5, 17] (fun z j wr => ∃ (i : Nat) (R : Bool), i ≤ n ∧ z = .bool R ∧ j = .int .i64 i ∧ Hid (Vb w y a3 a4 n3 n4 k3 k4 wr) ∧ Hid (R = (E || (cs.take i).any (readyL y))) ∧ Hid ((cs.take i).all (fun c => holdsL c y) = true)) (fun _ j _ => n - (intOf j).toNat)
    case atStart => exact ⟨0, E, by omega, by first | rfl | (rw [hEb]), rfl, Q1, by show E = (E || false); simp, rfl⟩
    case round =>
      clear Q1 s0 s1 s2 s3 s4
      obtain ⟨i, R, hin, rfl, rfl, Q, HR, HA⟩ := hrel
      obtain ⟨s0, s1, s2, s3, s4⟩ := Q.out.seen
      by_cases hlt : i < n
      · have hlt' : (i : Int) < (n : Int) := by omega
        have i1 : i < cs.length := by rw [HN.out]; exact hlt
        obtain ⟨a', k', hv', h0 | ⟨b, o, rfl, hbl, hrow⟩⟩ := HV.out.below Q.out.bel
        · exfalso
          rw [h0] at i1
          simp at i1
        · cases hv'
          obtain ⟨vp, vb, d0, d1, d2, d3, d4, d5, t1, t2, _⟩ := hrow i i1
          have sc := HSC.out cs[i] (List.getElem_mem i1)
          have h1 := all_takeE cs i i1 HA.out
          have h2 := any_take (f := readyL y) cs i i1
          have h3 : cs.all (fun c => holdsL c y) = true → (fun c => holdsL c y) cs[i] = true := fun h => List.all_eq_true.1 h _ (List.getElem_mem i1)
          obtain ⟨a1, k1, rfl, _⟩ := id t1
          obtain ⟨a2, k2, rfl, _⟩ := id t2
          obtain ⟨m1, hm1⟩ : ∃ m1, cs[i].2.pre.length = m1 := ⟨_, rfl⟩
          obtain ⟨m2, hm2⟩ : ∃ m2, cs[i].2.bld.length = m2 := ⟨_, rfl⟩
          have hrd : readyL y cs[i] = (!decide (m1 = 0) && sameL cs[i].2 y) := by unfold readyL; rw [len_empty hm1]
          rw [hm1] at t1 d4
          rw [hm2] at t2 d5
          rw [hrd] at h2
          have H1 := hide h1
          have H2 := hide h2
          have H3 := hide h3
          clear hrd h1 h2 h3 hrow hm1 hm2
          generalize cs[i] = c at *
          clear i1
          obtain ⟨op, x⟩ := c
          dsimp only at *
          have bb := (Below.refl _ wr).alloc (Nat.le_refl _) (.cells #[.int .i64 op, .string (ofL x.maj), .string (ofL x.min), .string (ofL x.pat), .slice a1 m1 k1, .slice a2 m2 k2] 35)
          have C0 : Hid (Cb wr.heap.size op x a1 a2 m1 m2 k1 k2 (wr.alloc (.cells #[.int .i64 op, .string (ofL x.maj), .string (ofL x.min), .string (ofL x.pat), .slice a1 m1 k1, .slice a2 m2 k2] 35))) := ⟨World.alloc_heap_new wr _, t1.below bb, t2.below bb⟩
          have V0 := hide (Q.out.next bb)
          have HO := hide (fun W (c : Cb wr.heap.size op x a1 a2 m1 m2 k1 k2 W) (q : Vb w y a3 a4 n3 n4 k3 k4 W) => Holds_any op x y _ _ _ W c.t1 c.t2 q.sem sc sy)
          have SN := hide (fun W (c : Cb wr.heap.size op x a1 a2 m1 m2 k1 k2 W) (q : Vb w y a3 a4 n3 n4 k3 k4 W) => sameNumbers_any x y _ _ W c.sem q.sem)
          clear t1 t2 bb Q s0 s1 s2 s3 s4
          obtain ⟨s0, s1, s2, s3, s4⟩ := V0.out.seen
          obtain ⟨g0, g1, g2, g3, g4, g5⟩ := C0.out.seen
          generalize hH : holdsL (op, x) y = Hv at *
          generalize hS : sameL x y = Sv at *
          clear hH hS
          go_wp2_with fail
          generalize wr.alloc (.cells #[.int .i64 op, .string (ofL x.maj), .string (ofL x.min), .string (ofL x.pat), .slice a1 m1 k1, .slice a2 m2 k2] 35) = W2 at *
          generalize wr.heap.size = K at *
          refine (HO.out _ C0.out V0.out).mono ?_
          rintro e W3 ⟨rfl, b3⟩
          have C1 := hide (C0.out.next b3)
          have V1 := hide (V0.out.next b3)
          clear b3 C0 V0 s0 s1 s2 s3 s4 g0 g1 g2 g3 g4 g5 HO
          obtain ⟨s0, s1, s2, s3, s4⟩ := V1.out.seen
          obtain ⟨g0, g1, g2, g3, g4, g5⟩ := C1.out.seen
          cases Hv with
          | false =>
            have hX : X = false := by
              rw [HX.out]
              cases ha : cs.all (fun c => holdsL c y) with
              | false => rfl
              | true => exact absurd (H3.out ha) (by simp)
            have HX2 := hide hX
            clear hX
            go_wp2_with fail
            go_ret
            exact ⟨by rw [HX2.out]; rfl, V1.out.bel⟩
          | true =>
            cases R with
            | true =>
              have HR2 : Hid (true = (E || (cs.take (i + 1)).any (readyL y))) := by
                show _ = _
                rw [H2.out, ← Bool.or_assoc, ← HR.out]
                rfl
              go_wp2_with fail
              go_roundw
              case rel => exact ⟨i + 1, true, by omega, rfl, by go_num, V1, HR2, H1⟩
              case measure => simp [intOf]; omega
            | false =>
              by_cases hm : m1 = 0
              · have hm' : ¬ (0 : Int) < (m1 : Int) := by omega
                have hmn : ¬ 0 < m1 := by omega
                have HR2 : Hid (false = (E || (cs.take (i + 1)).any (readyL y))) := by
                  show _ = _
                  rw [H2.out, decide_eq_true hm, ← Bool.or_assoc, ← HR.out]
                  rfl
                clear hm
                go_wp2_with fail
                go_roundw
                case rel => exact ⟨i + 1, false, by omega, rfl, by go_num, V1, HR2, H1⟩
                case measure => simp [intOf]; omega
              · have hm' : (0 : Int) < (m1 : Int) := by omega
                have hmn : 0 < m1 := by omega
                have HR2 : Hid (Sv = (E || (cs.take (i + 1)).any (readyL y))) := by
                  show _ = _
                  rw [H2.out, decide_eq_false hm, ← Bool.or_assoc, ← HR.out]
                  rfl
                clear hm
                go_wp2_with fail
                refine (SN.out _ C1.out V1.out).mono ?_
                rintro e W4 ⟨rfl, b4⟩
                have V2 := hide (V1.out.next b4)
                clear b4 C1 V1 s0 s1 s2 s3 s4 g0 g1 g2 g3 g4 g5 SN
                go_wp2_with fail
                go_roundw
                case rel => exact ⟨i + 1, Sv, by omega, rfl, by go_num, V2, HR2, H1⟩
                case measure => simp [intOf]; omega
      · have hlt' : ¬ (i : Int) < (n : Int) := by omega
        have hX : X = R := by
          have h1 := HA.out
          have h2 := HR.out
          rw [List.take_of_length_le (by rw [HN.out]; omega)] at h1 h2
          rw [HX.out, h1, h2]
          rfl
        have HX2 := hide hX
        clear hX
        go_wp2_with fail
        go_ret
        exact ⟨by rw [HX2.out]; rfl, Q.out.bel⟩

set_option maxRecDepth 100000 in
set_option maxHeartbeats 4000000 in
theorem anySet_any (l : List (List Comp)) (y : SemL) (v u : Value) (w : World) (hv : SetsAt w v l) (hu : SemAt w u y) (hs : ∀ cs ∈ l, cs.length ≤ 9000000000000000000 ∧ ∀ c ∈ cs, ShortS c.2) (sy : ShortS y) (hln : l.length ≤ 9000000000000000000) :
    Calls Tryz.prog 40 #[v, u] w fun e w' => e = .returned (.bool (l.any (fun cs => setL cs y))) ∧ Below w.heap.size w w' := by
  obtain ⟨a, k, rfl, _⟩ := id hv
  obtain ⟨vq, vc, rfl, t3, t4⟩ := hu
  obtain ⟨a3, k3, rfl, _⟩ := id t3
  obtain ⟨a4, k4, rfl, _⟩ := id t4
  obtain ⟨n, hn⟩ : ∃ n, l.length = n := ⟨_, rfl⟩
  obtain ⟨n3, hn3⟩ : ∃ n3, y.pre.length = n3 := ⟨_, rfl⟩
  obtain ⟨n4, hn4⟩ : ∃ n4, y.bld.length = n4 := ⟨_, rfl⟩
  rw [hn3] at t3 ⊢
  rw [hn4] at t4 ⊢
  rw [hn] at hv hln ⊢
  have HN := hide hn
  have HV := hide hv
  have HS := hide hs
  have Q0 := hide (Vb.start t3 t4)
  clear hn hn3 hn4 t3 t4 hv hs
  obtain ⟨s0, s1, s2, s3, s4⟩ := Q0.out.seen
  go_enter Tryz.func40, Tryz.ntmps40
  go_wp2_with fail
  generalize w.alloc (.cells #[.string (ofL y.maj), .string (ofL y.min), .string (ofL y.pat), .slice a3 n3 k3, .slice a4 n4 k4] 33) = W0 at *
  go_loopw [9] (fun j wr => ∃ i : Nat, i ≤ n ∧ j = .int .i64 i ∧ Hid (Vb w y a3 a4 n3 n4 k3 k4 wr) ∧ Hid ((l.take i).any (fun cs => setL cs y) = false)) (fun j _ => n - (intOf j).toNat)
  case atStart => exact ⟨0, by omega, rfl, Q0, rfl⟩
  case round =>
    clear Q0 s0 s1 s2 s3 s4
    obtain ⟨i, hin, rfl, Q, HA⟩ := hrel
    obtain ⟨s0, s1, s2, s3, s4⟩ := Q.out.seen
    by_cases hlt : i < n
    · have hlt' : (i : Int) < (n : Int) := by omega
      have i1 : i < l.length := by rw [HN.out]; exact hlt
      obtain ⟨a', k', hv', h0 | ⟨b, o, rfl, hbl, hrow⟩⟩ := HV.out.below Q.out.bel
      · exfalso
        rw [h0] at i1
        simp at i1
      · cases hv'
        obtain ⟨u, d0, hcs⟩ := hrow i i1
        have sc := HS.out l[i] (List.getElem_mem i1)
        have h2 := any_take (f := fun cs => setL cs y) l i i1
        rw [HA.out] at h2
        have h3 : setL l[i] y = true → l.any (fun cs => setL cs y) = true := fun h => List.any_eq_true.2 ⟨l[i], List.getElem_mem i1, h⟩
        have SE := hide (Set_any l[i] y u _ wr hcs Q.out.sem sc.2 sy sc.1)
        obtain ⟨au, ku, rfl, hzz⟩ := id hcs
        clear hzz
        have H2 := hide h2
        have H3 := hide h3
        clear h2 h3 hrow hcs sc
        try dsimp only at H2
        generalize setL l[i] y = X at *
        generalize l[i].length = m at *
        clear i1
        go_wp2_with fail
        refine SE.out.mono ?_
        rintro e W3 ⟨rfl, b3⟩
        have Q3 := hide (Q.out.next b3)
        clear b3 Q s0 s1 s2 s3 s4 SE
        cases X with
        | true =>
          go_wp2_with fail
          go_ret
          exact ⟨by rw [H3.out (by first | rfl | trivial)]; rfl, Q3.out.bel⟩
        | false =>
          go_wp2_with fail
          go_roundw
          case rel => exact ⟨i + 1, by omega, by go_num, Q3, by show _ = _; rw [H2.out]; rfl⟩
          case measure => simp [intOf]; omega
    · have hlt' : ¬ (i : Int) < (n : Int) := by omega
      have hX : l.any (fun cs => setL cs y) = false := by
        have := HA.out
        rwa [List.take_of_length_le (by rw [HN.out]; omega)] at this
      have HX := hide hX
      clear hX
      go_wp2_with fail
      go_ret
      exact ⟨by rw [HX.out]; rfl, Q.out.bel⟩

end Go.Proofs.YtaflflelcdcanaaGreat
