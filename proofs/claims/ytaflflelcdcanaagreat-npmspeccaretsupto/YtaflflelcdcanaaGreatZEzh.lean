/-
  Walks: a set's text. · Walks: a range's text.
-/
import Derived.Test.YtaflflelcdcanaaGreatZEzc
import Derived.Test.YtaflflelcdcanaaGreatZFe
import Derived.Test.YtaflflelcdcanaaGreatZPlainV
import Derived.Test.YtaflflelcdcanaaGreatZBa
namespace Go.Proofs.YtaflflelcdcanaaGreat
open Go.RowKit Go.Shelf
set_option linter.unusedVariables false

theorem own_belowT {W W' : World} {B n : Nat} {v : Value} {xs : List Value} (h : W.ownsRow B 9 1 v n xs) (hb : Below W.heap.size W W') : W'.ownsRow B 9 1 v n xs :=
  h.kept (row := none) ⟨hb.os, hb.tape, hb.output, hb.size, fun k hk _ => hb.block k hk⟩ (by
    cases v.ownBlock with
    | none => exact .inl rfl
    | some k => exact .inr (by simp))
def txsN (ts : List (List UInt8)) : List Value := ts.map fun t => .string (ofL t)
theorem txsN_snoc (ts : List (List UInt8)) (t : List UInt8) : txsN (ts ++ [t]) = txsN ts ++ [.string (ofL t)] := by simp [txsN]
theorem txt_rowN {W : World} {base : Nat} {v : Value} {n : Nat} {ts : List (List UInt8)} (hn : ts.length = n) (h : W.ownsRow base 9 1 v n (txsN ts)) : Txt W v ts := by
  subst hn
  rcases h.2 with ⟨rfl, h0⟩ | ⟨g, cap, cur, rfl, hg, hh, _, _, hsz, ht⟩
  · exact ⟨none, 0, by rw [h0], .inl (List.length_eq_zero_iff.1 h0)⟩
  · have e : cur.toList = txsN ts ++ cur.toList.drop (ts.length * 1) := by rw [← ht, List.take_append_drop]
    refine ⟨_, cap, rfl, .inr ⟨g, 0, rfl, (Array.getElem?_eq_some_iff.1 hh).1, fun i hi => ?_⟩⟩
    refine cell_at _ hh ?_
    rw [Nat.zero_add, ← Array.getElem?_toList, e, List.getElem?_append_left (by simpa [txsN] using hi)]
    simp [txsN, hi]
theorem JoinS_any (sep : ByteArray) (v : Value) (ts : List (List UInt8)) (w : World) (hv : Txt w v ts) (hc : Cap v) (hn : ts.length ≤ 2000000) (hl : (Lib.join ts sep.data.toList).length ≤ 140737488355328) :
    Calls Tryz.prog 33 #[v, .string sep] w fun e w' => e = .returned (.string (ofL (Lib.join ts sep.data.toList))) ∧ Below w.heap.size w w' := by
  obtain ⟨a, cap, rfl, h⟩ := id hv
  have hcap := hc _ _ _ rfl
  by_cases h0 : ts = []
  · subst h0
    refine (Tryz.strings_Join_none a cap sep w).mono ?_
    rintro e w' ⟨rfl, rfl⟩
    exact ⟨rfl, Below.refl _ _⟩
  · rcases h with h | ⟨b, off, rfl, hlt, hcell⟩
    · exact absurd h h0
    · have hm : (ts.map ofL).map (·.data.toList) = ts := by
        rw [List.map_map]
        conv => rhs; rw [← List.map_id ts]
        refine List.map_congr_left fun t _ => ?_
        simp [ofL]
      have := Tryz.strings_Join b off cap (ts.map ofL) sep w (by
        intro j x hj
        rw [List.getElem?_map] at hj
        cases hg : ts[j]? with
        | none => rw [hg] at hj; cases hj
        | some t =>
          rw [hg] at hj
          obtain ⟨hj1, hj2⟩ := List.getElem?_eq_some_iff.1 hg
          cases hj
          rw [hcell j hj1, hj2]) hlt (by rw [List.length_map]; omega) (by rw [List.length_map]; exact hcap) (by rw [hm]; exact hl)
      rw [List.length_map, hm] at this
      exact this
theorem join_len (m : Nat) (sep : List UInt8) : ∀ ts : List (List UInt8), (∀ t ∈ ts, t.length ≤ m) → (Lib.join ts sep).length ≤ ts.length * (m + sep.length)
  | [], _ => by simp [Lib.join, List.intercalate]
  | [t], h => by
    have := h t List.mem_cons_self
    simp [Lib.join, List.intercalate]
    omega
  | t :: u :: r, h => by
    have ih := join_len m sep (u :: r) (fun x hx => h x (List.mem_cons_of_mem _ hx))
    have := h t List.mem_cons_self
    unfold Lib.join at ih ⊢
    simp only [List.intercalate] at ih ⊢
    rw [List.intersperse_cons_cons, List.flatten_cons, List.flatten_cons, List.length_append, List.length_append]
    rw [List.length_cons, Nat.add_mul]
    omega

/-- A comparator's text; whether it has one. -/
def compT (c : Comp) : List UInt8 := (signL c.1).1.data.toList ++ fmtL c.2
def okT1 (c : Comp) : Bool := (signL c.1).2 && fitW c.2 && decide (c.2.bld.length = 0)
/-- A set's text; whether it has one. -/
def setT (cs : List Comp) : List UInt8 × Bool := if cs.length = 0 then ([42], true) else if cs.all okT1 = true then (Lib.join (cs.map compT) [32], true) else ([], false)
theorem sign_len (op : Int) : (signL op).1.size ≤ 2 := by
  unfold signL
  split
  · exact Nat.le_of_ble_eq_true rfl
  · split
    · exact Nat.le_of_ble_eq_true rfl
    · split
      · exact Nat.le_of_ble_eq_true rfl
      · split
        · exact Nat.le_of_ble_eq_true rfl
        · split <;> exact Nat.le_of_ble_eq_true rfl
theorem fmtL_len (x : SemL) (h : lenS x ≤ 1048576) : (fmtL x).length ≤ 1048576 := by
  unfold fmtL
  split
  · rw [textL_length]; omega
  · simp
theorem compT_len (c : Comp) (h : lenS c.2 ≤ 1048576) : (compT c).length ≤ 1048600 := by
  have h1 := sign_len c.1
  have h2 := fmtL_len c.2 h
  unfold compT
  rw [List.length_append, len_data]
  omega

set_option maxRecDepth 100000 in
set_option maxHeartbeats 8000000 in
theorem formatSet_any (cs : List Comp) (v : Value) (w : World) (hv : CompsAt w v cs) (hs : ∀ c ∈ cs, lenS c.2 ≤ 1048576) (hcn : cs.length ≤ 2000000) :
    Calls Tryz.prog 32 #[v] w fun e w' => e = .returned (.tuple #[.string (ofL (setT cs).1), .bool (setT cs).2]) ∧ Below w.heap.size w w' := by
  obtain ⟨a, k, rfl, hc0⟩ := id hv
  obtain ⟨i0, hi, hz0, hz1, hz2⟩ := info_parts Tryz.info9
  obtain ⟨n, hn⟩ : ∃ n, cs.length = n := ⟨_, rfl⟩
  have hX : setT cs = if n = 0 then ([42], true) else if cs.all okT1 = true then (Lib.join (cs.map compT) [32], true) else ([], false) := by unfold setT; rw [hn]
  have HJ : Hid ((Lib.join (cs.map compT) [32]).length ≤ 140737488355328) := by
    have := join_len 1048600 [32] (cs.map compT) (fun t ht => by obtain ⟨c, hc, rfl⟩ := List.mem_map.1 ht; exact compT_len c (hs c hc))
    rw [List.length_map] at this
    show _ ≤ _
    simp at this ⊢
    omega
  rw [hn] at hv hcn ⊢
  have HN := hide hn
  have HV := hide hv
  have HSC := hide hs
  generalize setT cs = X at *
  have HX := hide hX
  clear hn hv hc0 hs hX
  by_cases hn0 : n = 0
  · have HX2 : Hid (X = ([42], true)) := by show _ = _; rw [HX.out, if_pos hn0]
    subst hn0
    go_enter Tryz.func32, Tryz.ntmps32
    go_wp2_with fail
    go_ret2
    exact ⟨by rw [HX2.out]; rfl, Below.refl _ _⟩
  · have hnb : ((n : Int) == 0) = false := by simp; omega
    have hX2 : X = if cs.all okT1 = true then (Lib.join (cs.map compT) [32], true) else ([], false) := by rw [HX.out, if_neg hn0]
    have HX2 := hide hX2
    clear hX2 HX hn0
    go_enter Tryz.func32, Tryz.ntmps32
    go_wp2_with fail
    go_loopw [4, 14] (fun z j wr => ∃ (i : Nat) (ao : Option Addr) (cv : Nat), i ≤ n ∧ z = .slice ao i cv ∧ j = .int .i64 i ∧ Hid (Below w.heap.size w wr) ∧ Hid (wr.ownsRow w.heap.size 9 1 (.slice ao i cv) i (txsN ((cs.take i).map compT))) ∧ Hid ((cs.take i).all okT1 = true)) (fun _ j _ => n - (intOf j).toNat)
    case atStart => exact ⟨0, none, 0, by omega, rfl, rfl, Below.refl _ _, World.ownsRow_nil _ _ _ _, rfl⟩
    case round =>
      obtain ⟨i, ao, cv, hin, rfl, rfl, HB, HO, HA⟩ := hrel
      by_cases hlt : i < n
      · have hlt' : (i : Int) < (n : Int) := by omega
        have i1 : i < cs.length := by rw [HN.out]; exact hlt
        obtain ⟨a', k', hv', h0 | ⟨b, o, rfl, hbl, hrow⟩⟩ := HV.out.below HB.out
        · exfalso
          rw [h0] at i1
          simp at i1
        · cases hv'
          obtain ⟨vp, vb, d0, d1, d2, d3, d4, d5, t1, t2, cp1, cp2⟩ := hrow i i1
          have sc := HSC.out cs[i] (List.getElem_mem i1)
          have h1 := all_takeE cs i i1 HA.out
          have h3 : cs.all okT1 = true → okT1 cs[i] = true := fun h => List.all_eq_true.1 h _ (List.getElem_mem i1)
          have h4 : (cs.take (i + 1)).map compT = (cs.take i).map compT ++ [compT cs[i]] := by rw [List.take_succ_eq_append_getElem i1, List.map_append]; rfl
          obtain ⟨a1, k1, rfl, _⟩ := id t1
          obtain ⟨a2, k2, rfl, _⟩ := id t2
          obtain ⟨m1, hm1⟩ : ∃ m1, cs[i].2.pre.length = m1 := ⟨_, rfl⟩
          obtain ⟨m2, hm2⟩ : ∃ m2, cs[i].2.bld.length = m2 := ⟨_, rfl⟩
          have hok : okT1 cs[i] = ((signL cs[i].1).2 && fitW cs[i].2 && decide (m2 = 0)) := by unfold okT1; rw [hm2]
          have hct : compT cs[i] = (signL cs[i].1).1.data.toList ++ fmtL cs[i].2 := rfl
          rw [hct] at h4
          rw [hm1] at t1 d4 cp1
          rw [hm2] at t2 d5 cp2
          have H1 := hide h1
          have H3 := hide h3
          have H4 := hide h4
          have HOK := hide hok
          clear h1 h3 h4 hok hct hrow hm1 hm2
          generalize cs[i] = c at *
          clear i1
          obtain ⟨op, x⟩ := c
          dsimp only at *
          have bb := (Below.refl _ wr).alloc (Nat.le_refl _) (.cells #[.int .i64 op, .string (ofL x.maj), .string (ofL x.min), .string (ofL x.pat), .slice a1 m1 k1, .slice a2 m2 k2] 35)
          have C0 : Hid (Cb wr.heap.size op x a1 a2 m1 m2 k1 k2 (wr.alloc (.cells #[.int .i64 op, .string (ofL x.maj), .string (ofL x.min), .string (ofL x.pat), .slice a1 m1 k1, .slice a2 m2 k2] 35))) := ⟨World.alloc_heap_new wr _, t1.below bb, t2.below bb⟩
          have HB0 := hide (HB.out.trans (bb.mono HB.out.size))
          have HO0 := hide (own_belowT HO.out bb)
          have FI := hide (fun W (c : Cb wr.heap.size op x a1 a2 m1 m2 k1 k2 W) => Fit_any _ x W c.sem (short_of x sc))
          have FM := hide (fun W (c : Cb wr.heap.size op x a1 a2 m1 m2 k1 k2 W) => Format_any _ x W c.sem (fun _ _ _ _ _ e => by cases e; exact ⟨cp1, cp2⟩) sc)
          have SI := hide (fun W => sign_any op W)
          have hsl := sign_len op
          have hfl := fmtL_len x sc
          have hfs := ofL_size (fmtL x)
          generalize signL op = sg at *
          obtain ⟨SG, ok⟩ := sg
          dsimp only at *
          generalize fitW x = fx at *
          generalize fmtL x = fm at *
          clear t1 t2 bb HB HO cp1 cp2
          obtain ⟨g0, g1, g2, g3, g4, g5⟩ := C0.out.seen
          obtain ⟨t9, hcat, hcs, hcd⟩ := cat_step SG (ofL fm)
          have HCD := hide hcd
          clear hcd
          go_wp2_with fail
          generalize wr.alloc (.cells #[.int .i64 op, .string (ofL x.maj), .string (ofL x.min), .string (ofL x.pat), .slice a1 m1 k1, .slice a2 m2 k2] 35) = W2 at *
          generalize wr.heap.size = K at *
          refine (SI.out _).mono ?_
          rintro e W3 ⟨rfl, hw3⟩
          rw [hw3]
          clear hw3 W3 SI
          cases ok with
          | false =>
            have hX : X = ([], false) := by
              rw [HX2.out, if_neg]
              intro h
              exact absurd (H3.out h) (by rw [HOK.out]; simp)
            have HX3 := hide hX
            clear hX
            go_wp2_with fail
            go_ret2
            exact ⟨by rw [HX3.out]; rfl, HB0.out⟩
          | true =>
            go_wp2_with fail
            refine (FI.out _ C0.out).mono ?_
            rintro e W3 ⟨rfl, b3⟩
            have C1 := hide (C0.out.next b3)
            have HB1 := hide (HB0.out.trans (b3.mono HB0.out.size))
            have HO1 := hide (own_belowT HO0.out b3)
            clear b3 C0 HB0 HO0 g0 g1 g2 g3 g4 g5 FI
            obtain ⟨g0, g1, g2, g3, g4, g5⟩ := C1.out.seen
            cases fx with
            | false =>
              have hX : X = ([], false) := by
                rw [HX2.out, if_neg]
                intro h
                exact absurd (H3.out h) (by rw [HOK.out]; simp)
              have HX3 := hide hX
              clear hX
              go_wp2_with fail
              go_ret2
              exact ⟨by rw [HX3.out]; rfl, HB1.out⟩
            | true =>
              by_cases hm : m2 = 0
              · have hm' : ¬ (0 : Int) < (m2 : Int) := by omega
                have hmn : ¬ 0 < m2 := by omega
                have hOK : okT1 (op, x) = true := by rw [HOK.out, decide_eq_true hm]; rfl
                have HOK2 := hide hOK
                clear hm hOK
                go_wp2_with fail
                refine (FM.out _ C1.out).mono ?_
                rintro e W4 ⟨rfl, b4⟩
                have HB2 := hide (HB1.out.trans (b4.mono HB1.out.size))
                have HO2 := hide (own_belowT HO1.out b4)
                clear b4 C1 HB1 HO1 g0 g1 g2 g3 g4 g5 FM
                have hbase : w.heap.size ≤ W4.heap.size := HB2.out.size
                go_wp2_with (at_builtin; refine wpList_append_own _ rfl _ _ 31 rfl w.heap.size 9 i0 (.string .empty) 1 16 Tryz.underlying31 hi hz0 hz1 hz2 rfl (by decide) _ _ _ rfl (HO2.out.alloc _) ⟨W4.heap.size, 0, none⟩ 1 1 [.string t9] rfl rfl (by intro j u hj; match j, hj with | 0, hj => simp at hj; subst hj; simp [Addr.add]) (by intro u hu; simp at hu; subst hu; rfl) (by unfold maxLen; omega) (by omega) (by simp; omega) ?_; intro v' w5 hown' hgrow _; obtain ⟨g', cap', rfl⟩ := ownsRow_succ hown')
                have HO3 : Hid (w5.ownsRow w.heap.size 9 1 (.slice (some ⟨g', 0, none⟩) (i + 1) cap') (i + 1) (txsN ((cs.take (i + 1)).map compT))) := by
                  show World.ownsRow _ _ _ _ _ _ _
                  have ht9 : t9 = ofL (SG.data.toList ++ fm) := by rw [← ofL_self t9, HCD.out, ofL_data]
                  rw [H4.out, txsN_snoc, ← ht9]
                  exact hown'
                have HB3 := hide (((HB2.out.alloc HB2.out.size _).grown hgrow (by simp; omega) (fun k hk => (HO2.out.lt k hk).1)))
                clear hown' hgrow
                go_wp2_with fail
                go_roundw
                case rel => exact ⟨i + 1, _, cap', by omega, rfl, by go_num, HB3, HO3, by show _ = _; rw [H1.out]; exact HOK2.out⟩
                case measure => simp [intOf]; omega
              · have hm' : (0 : Int) < (m2 : Int) := by omega
                have hmn : 0 < m2 := by omega
                have hX : X = ([], false) := by
                  rw [HX2.out, if_neg]
                  intro h
                  exact absurd (H3.out h) (by rw [HOK.out, decide_eq_false hm]; simp)
                have HX3 := hide hX
                clear hX hm
                go_wp2_with fail
                go_ret2
                exact ⟨by rw [HX3.out]; rfl, HB1.out⟩
      · have hlt' : ¬ (i : Int) < (n : Int) := by omega
        have hin2 : i = n := by omega
        have hA := HA.out
        have hO := HO.out
        rw [List.take_of_length_le (by rw [HN.out]; omega)] at hA hO
        have hX : X = (Lib.join (cs.map compT) [32], true) := by rw [HX2.out, if_pos hA]
        have HX3 := hide hX
        have JN := hide (fun W hW hc => JoinS_any ⟨#[32]⟩ (.slice ao i cv) (cs.map compT) W hW hc (by rw [List.length_map, HN.out]; omega) HJ.out)
        have HT := hide (txt_rowN (by rw [List.length_map, HN.out]; omega) hO)
        have HCP := hide (cap_row hO)
        clear hX hA hO hin2
        go_wp2_with fail
        refine (JN.out _ HT.out HCP.out).mono ?_
        rintro e W9 ⟨rfl, b9⟩
        go_wp2_with fail
        go_ret2
        exact ⟨by rw [HX3.out]; rfl, HB.out.trans (b9.mono HB.out.size)⟩

end Go.Proofs.YtaflflelcdcanaaGreat

namespace Go.Proofs.YtaflflelcdcanaaGreat
open Go.RowKit Go.Shelf
set_option linter.unusedVariables false

/-- A range's text. -/
def fmtSets (l : List (List Comp)) : List UInt8 := if l.all (fun cs => (setT cs).2) = true then Lib.join (l.map (fun cs => (setT cs).1)) [32, 124, 124, 32] else []

set_option maxRecDepth 100000 in
set_option maxHeartbeats 8000000 in
theorem FormatR_any (l : List (List Comp)) (v : Value) (w : World) (hv : SetsAt w v l) (hs : ∀ cs ∈ l, cs.length ≤ 2000000 ∧ ∀ c ∈ cs, lenS c.2 ≤ 1048576) (hln : l.length ≤ 2000000) (hJ : (Lib.join (l.map (fun cs => (setT cs).1)) [32, 124, 124, 32]).length ≤ 140737488355328) :
    Calls Tryz.prog 13 #[v] w fun e w' => e = .returned (.string (ofL (fmtSets l))) ∧ Below w.heap.size w w' := by
  obtain ⟨a, k, rfl, hc0⟩ := id hv
  obtain ⟨i0, hi, hz0, hz1, hz2⟩ := info_parts Tryz.info9
  obtain ⟨n, hn⟩ : ∃ n, l.length = n := ⟨_, rfl⟩
  have hX : fmtSets l = if l.all (fun cs => (setT cs).2) = true then Lib.join (l.map (fun cs => (setT cs).1)) [32, 124, 124, 32] else [] := rfl
  rw [hn] at hv hln ⊢
  have HN := hide hn
  have HV := hide hv
  have HSC := hide hs
  have HJ := hide hJ
  generalize fmtSets l = X at *
  have HX := hide hX
  clear hn hv hc0 hs hX hJ
  go_enter Tryz.func13, Tryz.ntmps13
  go_wp2_with fail
  go_loopw [3, 10] (fun z j wr => ∃ (i : Nat) (ao : Option Addr) (cv : Nat), i ≤ n ∧ z = .slice ao i cv ∧ j = .int .i64 i ∧ Hid (Below w.heap.size w wr) ∧ Hid (wr.ownsRow w.heap.size 9 1 (.slice ao i cv) i (txsN ((l.take i).map (fun cs => (setT cs).1)))) ∧ Hid ((l.take i).all (fun cs => (setT cs).2) = true)) (fun _ j _ => n - (intOf j).toNat)
  case atStart => exact ⟨0, none, 0, by omega, rfl, rfl, Below.refl _ _, World.ownsRow_nil _ _ _ _, rfl⟩
  case round =>
    obtain ⟨i, ao, cv, hin, rfl, rfl, HB, HO, HA⟩ := hrel
    by_cases hlt : i < n
    · have hlt' : (i : Int) < (n : Int) := by omega
      have i1 : i < l.length := by rw [HN.out]; exact hlt
      obtain ⟨a', k', hv', h0 | ⟨b, o, rfl, hbl, hrow⟩⟩ := HV.out.below HB.out
      · exfalso
        rw [h0] at i1
        simp at i1
      · cases hv'
        obtain ⟨u, d0, hcs⟩ := hrow i i1
        have sc := HSC.out l[i] (List.getElem_mem i1)
        have h1 := all_takeE (f := fun cs => (setT cs).2) l i i1 HA.out
        have h3 : l.all (fun cs => (setT cs).2) = true → (setT l[i]).2 = true := fun h => List.all_eq_true.1 h _ (List.getElem_mem i1)
        have h4 : (l.take (i + 1)).map (fun cs => (setT cs).1) = (l.take i).map (fun cs => (setT cs).1) ++ [(setT l[i]).1] := by rw [List.take_succ_eq_append_getElem i1, List.map_append]; rfl
        have FS := hide (formatSet_any l[i] u wr hcs sc.2 sc.1)
        obtain ⟨au, ku, rfl, hzz⟩ := id hcs
        clear hzz
        have H1 := hide h1
        have H3 := hide h3
        have H4 := hide h4
        clear h1 h3 h4 hrow hcs sc
        try dsimp only at H1
        generalize setT l[i] = st at *
        generalize l[i].length = m at *
        clear i1
        obtain ⟨T, ok⟩ := st
        dsimp only at *
        go_wp2_with fail
        refine FS.out.mono ?_
        rintro e W3 ⟨rfl, b3⟩
        have HB2 := hide (HB.out.trans (b3.mono HB.out.size))
        have HO2 := hide (own_belowT HO.out b3)
        clear b3 HB HO FS d0
        cases ok with
        | false =>
          have hX : X = [] := by
            rw [HX.out, if_neg]
            intro h
            exact absurd (H3.out h) (by simp)
          have HX3 := hide hX
          clear hX
          go_wp2_with fail
          go_ret
          exact ⟨by rw [HX3.out]; rfl, HB2.out⟩
        | true =>
          have hbase : w.heap.size ≤ W3.heap.size := HB2.out.size
          go_wp2_with (at_builtin; refine wpList_append_own _ rfl _ _ 31 rfl w.heap.size 9 i0 (.string .empty) 1 16 Tryz.underlying31 hi hz0 hz1 hz2 rfl (by decide) _ _ _ rfl (HO2.out.alloc _) ⟨W3.heap.size, 0, none⟩ 1 1 [.string (ofL T)] rfl rfl (by intro j u hj; match j, hj with | 0, hj => simp at hj; subst hj; simp [Addr.add]) (by intro u hu; simp at hu; subst hu; rfl) (by unfold maxLen; omega) (by omega) (by simp; omega) ?_; intro v' w5 hown' hgrow _; obtain ⟨g', cap', rfl⟩ := ownsRow_succ hown')
          have HO3 : Hid (w5.ownsRow w.heap.size 9 1 (.slice (some ⟨g', 0, none⟩) (i + 1) cap') (i + 1) (txsN ((l.take (i + 1)).map (fun cs => (setT cs).1)))) := by
            show World.ownsRow _ _ _ _ _ _ _
            rw [H4.out, txsN_snoc]
            exact hown'
          have HB3 := hide (((HB2.out.alloc HB2.out.size _).grown hgrow (by simp; omega) (fun k hk => (HO2.out.lt k hk).1)))
          clear hown' hgrow
          go_wp2_with fail
          go_roundw
          case rel => exact ⟨i + 1, _, cap', by omega, rfl, by go_num, HB3, HO3, by show _ = _; rw [H1.out]⟩
          case measure => simp [intOf]; omega
    · have hlt' : ¬ (i : Int) < (n : Int) := by omega
      have hin2 : i = n := by omega
      have hA := HA.out
      have hO := HO.out
      rw [List.take_of_length_le (by rw [HN.out]; omega)] at hA hO
      have hX : X = Lib.join (l.map (fun cs => (setT cs).1)) [32, 124, 124, 32] := by rw [HX.out, if_pos hA]
      have HX3 := hide hX
      have JN := hide (fun W hW hc => JoinS_any ⟨#[32, 124, 124, 32]⟩ (.slice ao i cv) (l.map (fun cs => (setT cs).1)) W hW hc (by rw [List.length_map, HN.out]; omega) HJ.out)
      have HT := hide (txt_rowN (by rw [List.length_map, HN.out]; omega) hO)
      have HCP := hide (cap_row hO)
      clear hX hA hO hin2
      go_wp2_with fail
      refine (JN.out _ HT.out HCP.out).mono ?_
      rintro e W9 ⟨rfl, b9⟩
      go_wp2_with fail
      go_ret
      exact ⟨by rw [HX3.out]; rfl, HB.out.trans (b9.mono HB.out.size)⟩

end Go.Proofs.YtaflflelcdcanaaGreat
