/-
  Walks: a requirement's text.
-/
import Derived.Test.YtpedljmpobhimaaGreatDoorHk
import Derived.Test.YtpedljmpobhimaaGreatDoorJoin
import Derived.Laws.AppendOwnNone
namespace Go.Proofs.YtpedljmpobhimaaGreatDoor
open Go.RowKit Go.Shelf
set_option linter.unusedVariables false

theorem ofL_app (a b : List UInt8) : ofL a ++ ofL b = ofL (a ++ b) := by
  apply ba_ext
  rw [ByteArray.data_append, Array.toList_append, ofL_data, ofL_data, ofL_data]
theorem lit_ofL (c : UInt8) : (⟨#[c]⟩ : ByteArray) = ofL [c] := rfl

set_option maxRecDepth 100000 in
set_option maxHeartbeats 4000000 in
theorem writeRange_any (m : Mr) (w : World) (hlo : m.lo.length ≤ 10000000) (hhi : m.hi.length ≤ 10000000) :
    Calls Tryz.prog 55 #[mV m] w fun e w' => e = .returned (.string (ofL (wrR m))) ∧ Below w.heap.size w w' := by
  obtain ⟨hl, lo, li, hh, hi, hin⟩ := m
  dsimp only at hlo hhi
  have s1 := ofL_size lo
  have s2 := ofL_size hi
  have b0 := hide (fun o => (Below.refl _ w).alloc (Nat.le_refl _) o)
  have heq : ((ofL lo).toList == (ofL hi).toList) = (lo == hi) := by rw [toL, toL, ofL_data, ofL_data]
  have HW : Hid (∀ t, ofL t = ofL (wrR ⟨hl, lo, li, hh, hi, hin⟩) ↔ ofL t = ofL (wrR ⟨hl, lo, li, hh, hi, hin⟩)) := fun t => Iff.rfl
  generalize hE : (lo == hi) = E at *
  unfold mV wrR
  dsimp only
  rw [hE]
  clear HW hE
  cases hl <;> cases hh <;> cases li <;> cases hin <;> cases E
  all_goals
    go_enter Tryz.func55, Tryz.ntmps55
    go_wp2_with fail
    go_ret
    refine ⟨?_, b0.out _⟩
    simp [lit_ofL, ofL_app]

end Go.Proofs.YtpedljmpobhimaaGreatDoor

/-
  Walks: whether two rows of ranges are the same; a requirement's text.
-/
namespace Go.Proofs.YtpedljmpobhimaaGreatDoor
open Go.RowKit Go.Shelf
set_option linter.unusedVariables false

theorem mrs_at {W : World} {a : Option Addr} {n cap : Nat} {ts : List Mr} (h : Mrs W (.slice a n cap) ts) (hne : 0 < ts.length) : ∃ b off, a = some ⟨b, off, none⟩ ∧ b < W.heap.size ∧ MRow W b off ts := by
  obtain ⟨a', cap', hv, h0 | ⟨b, off, ha, hlt, hc⟩⟩ := h
  · subst h0; simp at hne
  · cases hv
    exact ⟨b, off, ha, hlt, hc⟩
theorem mrs_n {W : World} {a : Option Addr} {n cap : Nat} {ts : List Mr} (h : Mrs W (.slice a n cap) ts) : ts.length = n := by
  obtain ⟨a', cap', hv, _⟩ := h
  cases hv; rfl

set_option maxRecDepth 100000 in
set_option maxHeartbeats 8000000 in
theorem Equal_any (a1 a2 : Option Addr) (n1 n2 c1 c2 : Nat) (ts1 ts2 : List Mr) (hn : n1 ≤ 1048577) (w : World) (hT1 : Mrs w (.slice a1 n1 c1) ts1) (hT2 : Mrs w (.slice a2 n2 c2) ts2) :
    Calls Tryz.prog 31 #[.slice a1 n1 c1, .slice a2 n2 c2] w fun e w' => e = .returned (.bool (decide (ts1 = ts2))) ∧ Below w.heap.size w w' := by
  have HL1 := hide (mrs_n hT1)
  have HL2 := hide (mrs_n hT2)
  have HT1 := hide hT1
  have HT2 := hide hT2
  clear hT1 hT2
  by_cases hne : n1 = n2
  · subst hne
    have hb : ((n1 : Int) != (n1 : Int)) = false := by simp
    go_enter Tryz.func31, Tryz.ntmps31
    go_wp2_with fail
    go_loopw [13] (fun x wr => ∃ i : Nat, i ≤ n1 ∧ x = .int .i64 i ∧ Below w.heap.size w wr ∧ Hid (ts1.take i = ts2.take i)) (fun x _ => n1 - (intOf x).toNat)
    case atStart => exact ⟨0, by omega, rfl, Below.refl _ _, rfl⟩
    case round =>
      obtain ⟨i, hi, rfl, hB, hE⟩ := hrel
      by_cases hlt : i < n1
      · have hlt' : (i : Int) < (n1 : Int) := by omega
        have i1 : i < ts1.length := by rw [HL1.out]; exact hlt
        have i2 : i < ts2.length := by rw [HL2.out]; exact hlt
        obtain ⟨b1, o1, rfl, q1, d1⟩ := mrs_at (HT1.out.below hB) (by omega)
        obtain ⟨b2, o2, rfl, q2, d2⟩ := mrs_at (HT2.out.below hB) (by omega)
        obtain ⟨e0, e1, e2, e3, e4, e5⟩ := d1.six i _ (List.getElem?_eq_getElem i1)
        obtain ⟨f0, f1, f2, f3, f4, f5⟩ := d2.six i _ (List.getElem?_eq_getElem i2)
        clear d1 d2
        by_cases hst : ts1[i] = ts2[i]
        · rw [hst] at e0 e1 e2 e3 e4 e5
          have HE : Hid (ts1.take (i + 1) = ts2.take (i + 1)) := by
            show _ = _
            rw [List.take_succ_eq_append_getElem i1, List.take_succ_eq_append_getElem i2, hE.out, hst]
          generalize ts2[i] = x at *
          clear hst i1 i2
          go_wp2_with fail
          go_quiet (fail)
          go_wp2_with fail
          go_roundw
          case rel => exact ⟨i + 1, by omega, by go_num, hB.trans (below_drewN _ _ _), HE⟩
          case measure => simp [intOf]; omega
        · have HN : Hid (¬ ts1 = ts2) := fun e => hst (by subst e; rfl)
          generalize ts1[i] = x at *
          generalize ts2[i] = y at *
          obtain ⟨xhl, xlo, xli, xhh, xhi, xhn⟩ := x
          obtain ⟨yhl, ylo, yli, yhh, yhi, yhn⟩ := y
          dsimp only at e0 e1 e2 e3 e4 e5 f0 f1 f2 f3 f4 f5
          clear i1 i2
          by_cases h0 : xhl = yhl
          · subst h0
            by_cases h1 : xlo = ylo
            · subst h1
              by_cases h2 : xli = yli
              · subst h2
                by_cases h3 : xhh = yhh
                · subst h3
                  by_cases h4 : xhi = yhi
                  · subst h4
                    by_cases h5 : xhn = yhn
                    · subst h5
                      exact absurd rfl hst
                    · clear hst
                      cases xhn <;> cases yhn
                      · exact absurd rfl h5
                      · clear h5
                        go_wp2_with fail
                        go_quiet (fail)
                        go_wp2_with fail
                        go_ret
                        exact ⟨by rw [decide_eq_false HN.out]; rfl, hB.trans (below_drewN _ _ _)⟩
                      · clear h5
                        go_wp2_with fail
                        go_quiet (fail)
                        go_wp2_with fail
                        go_ret
                        exact ⟨by rw [decide_eq_false HN.out]; rfl, hB.trans (below_drewN _ _ _)⟩
                      · exact absurd rfl h5
                  · have hx : ((ofL xhi).toList == (ofL yhi).toList) = false := by simp only [beq_eq_false_iff_ne, ne_eq]; intro e; rw [toL, toL, ofL_data, ofL_data] at e; exact h4 e
                    clear hst h4
                    go_wp2_with fail
                    go_quiet (fail)
                    go_wp2_with fail
                    go_ret
                    exact ⟨by rw [decide_eq_false HN.out]; rfl, hB.trans (below_drewN _ _ _)⟩
                · clear hst
                  cases xhh <;> cases yhh
                  · exact absurd rfl h3
                  · clear h3
                    go_wp2_with fail
                    go_quiet (fail)
                    go_wp2_with fail
                    go_ret
                    exact ⟨by rw [decide_eq_false HN.out]; rfl, hB.trans (below_drewN _ _ _)⟩
                  · clear h3
                    go_wp2_with fail
                    go_quiet (fail)
                    go_wp2_with fail
                    go_ret
                    exact ⟨by rw [decide_eq_false HN.out]; rfl, hB.trans (below_drewN _ _ _)⟩
                  · exact absurd rfl h3
              · clear hst
                cases xli <;> cases yli
                · exact absurd rfl h2
                · clear h2
                  go_wp2_with fail
                  go_quiet (fail)
                  go_wp2_with fail
                  go_ret
                  exact ⟨by rw [decide_eq_false HN.out]; rfl, hB.trans (below_drewN _ _ _)⟩
                · clear h2
                  go_wp2_with fail
                  go_quiet (fail)
                  go_wp2_with fail
                  go_ret
                  exact ⟨by rw [decide_eq_false HN.out]; rfl, hB.trans (below_drewN _ _ _)⟩
                · exact absurd rfl h2
            · have hx : ((ofL xlo).toList == (ofL ylo).toList) = false := by simp only [beq_eq_false_iff_ne, ne_eq]; intro e; rw [toL, toL, ofL_data, ofL_data] at e; exact h1 e
              clear hst h1
              go_wp2_with fail
              go_quiet (fail)
              go_wp2_with fail
              go_ret
              exact ⟨by rw [decide_eq_false HN.out]; rfl, hB.trans (below_drewN _ _ _)⟩
          · clear hst
            cases xhl <;> cases yhl
            · exact absurd rfl h0
            · clear h0
              go_wp2_with fail
              go_quiet (fail)
              go_wp2_with fail
              go_ret
              exact ⟨by rw [decide_eq_false HN.out]; rfl, hB.trans (below_drewN _ _ _)⟩
            · clear h0
              go_wp2_with fail
              go_quiet (fail)
              go_wp2_with fail
              go_ret
              exact ⟨by rw [decide_eq_false HN.out]; rfl, hB.trans (below_drewN _ _ _)⟩
            · exact absurd rfl h0
      · have hlt' : ¬ (i : Int) < (n1 : Int) := by omega
        have HE : Hid (ts1 = ts2) := by
          show _ = _
          have := hE.out
          rwa [List.take_of_length_le (by rw [HL1.out]; omega), List.take_of_length_le (by rw [HL2.out]; omega)] at this
        go_wp2_with fail
        go_ret
        exact ⟨by rw [decide_eq_true HE.out]; rfl, hB⟩
  · have hb : ((n1 : Int) == (n2 : Int)) = false := by simp; omega
    have HN : Hid (¬ ts1 = ts2) := fun e => hne (by rw [← HL1.out, ← HL2.out, e])
    go_enter Tryz.func31, Tryz.ntmps31
    go_wp2_with fail
    go_ret
    exact ⟨by rw [decide_eq_false HN.out]; rfl, Below.refl _ _⟩

end Go.Proofs.YtpedljmpobhimaaGreatDoor

/-
  Walks: a requirement's text.
-/
namespace Go.Proofs.YtpedljmpobhimaaGreatDoor
open Go.RowKit Go.Shelf
set_option linter.unusedVariables false

/-- The ranges' texts are short. -/
def Small (ms : List Mr) : Prop := ms.length ≤ 2000000 ∧ ∀ m ∈ ms, m.lo.length ≤ 10000000 ∧ m.hi.length ≤ 10000000
def strs (ts : List (List UInt8)) : List Value := ts.map fun t => .string (ofL t)
theorem strs_snoc (ts : List (List UInt8)) (t : List UInt8) : strs (ts ++ [t]) = strs ts ++ [.string (ofL t)] := by simp [strs]
theorem Tryz.info9 : (Tryz.prog.info? 9).map (fun i => (i.zero, i.size, i.bytes)) = some (some (.string .empty), 1, 16) := by kernel_rfl
theorem join_wr : ∀ ms : List Mr, Lib.join (ms.map wrR) [44] = wrJ ms
  | [] => rfl
  | [m] => by simp [Lib.join, wrJ, List.intercalate]
  | m :: n :: r => by
    have ih := join_wr (n :: r)
    unfold Lib.join at ih ⊢
    simp only [List.map_cons, List.intercalate] at ih ⊢
    rw [List.intersperse_cons_cons, List.flatten_cons, List.flatten_cons, ih]
    simp [wrJ]
theorem wrJ_len : ∀ ms : List Mr, (∀ m ∈ ms, m.lo.length ≤ 10000000 ∧ m.hi.length ≤ 10000000) → (wrJ ms).length ≤ ms.length * 20000004
  | [], _ => Nat.zero_le _
  | [m], h => by
    have := wr_len1 m
    have := h m List.mem_cons_self
    show (wrR m).length ≤ _
    simp; omega
  | m :: n :: r, h => by
    have ih := wrJ_len (n :: r) (fun x hx => h x (List.mem_cons_of_mem _ hx))
    have := wr_len1 m
    have := h m List.mem_cons_self
    show (wrR m ++ 44 :: wrJ (n :: r)).length ≤ _
    rw [List.length_append, List.length_cons]
    simp only [List.length_cons] at ih ⊢
    omega
theorem own_str {W : World} {base : Nat} {v : Value} {ts : List (List UInt8)} (h : W.ownsRow base 9 1 v ts.length (strs ts)) : ∃ cap, (ts = [] ∧ v = .slice none 0 0) ∨ ∃ g, v = .slice (some ⟨g, 0, none⟩) ts.length cap ∧ g < W.heap.size ∧ ts.length ≤ cap ∧ ∀ j x, (ts.map ofL)[j]? = some x → W.cell? ⟨g, 0 + j, none⟩ = some (.string x) := by
  rcases h.2 with ⟨rfl, h0⟩ | ⟨g, cap, cur, rfl, hg, hh, h1, h2, hsz, ht⟩
  · exact ⟨0, .inl ⟨List.length_eq_zero_iff.1 h0, rfl⟩⟩
  · refine ⟨cap, .inr ⟨g, rfl, (Array.getElem?_eq_some_iff.1 hh).1, h1, ?_⟩⟩
    intro j x hj
    refine cell_at _ hh ?_
    rw [Nat.zero_add]
    rw [List.getElem?_map] at hj
    have hl : j < (strs ts).length := by
      have := (List.getElem?_eq_some_iff.1 (Option.map_eq_some_iff.1 hj).choose_spec.1).1
      simpa [strs] using this
    have e : cur.toList = strs ts ++ cur.toList.drop (ts.length * 1) := by rw [← ht, List.take_append_drop]
    rw [← Array.getElem?_toList, e, List.getElem?_append_left hl]
    simp only [strs, List.getElem?_map]
    cases hg' : ts[j]? with
    | none => rw [hg'] at hj; cases hj
    | some t => rw [hg'] at hj; simp at hj ⊢; rw [hj]

theorem write_soft (t : List UInt8) (v : Value) (w : World) (ht : t ≠ []) (hv : ∃ a n c, v = .slice a n c) :
    Calls Tryz.prog 30 #[.agg #[.string (ofL t), v]] w fun e w' => e = .returned (.string (ofL t)) ∧ Below w.heap.size w w' := by
  obtain ⟨a, n, c, rfl⟩ := hv
  have hne : ((ofL t).toList == []) = false := by rw [empty_at]; simpa using ht
  go_enter Tryz.func30, Tryz.ntmps30
  go_wp2_with fail
  go_ret
  exact ⟨rfl, (Below.refl _ w).alloc (Nat.le_refl _) _⟩

set_option maxRecDepth 100000 in
set_option maxHeartbeats 4000000 in
theorem write_rows (a : Option Addr) (n c : Nat) (ms : List Mr) (w : World) (hv : Mrs w (.slice a n c) ms) (hs : Small ms) :
    Calls Tryz.prog 30 #[.agg #[.string ⟨#[]⟩, .slice a n c]] w fun e w' => e = .returned (.string (ofL (wrJ ms))) ∧ Below w.heap.size w w' := by
  have HN := hide (mrs_n hv)
  have HV := hide hv
  have HS := hide hs
  have hn : n ≤ 2000000 := by rw [← mrs_n hv]; exact hs.1
  clear hv hs
  obtain ⟨i0, hi, hz0, hz1, hz2⟩ := info_parts Tryz.info9
  have hB0 := (Below.refl _ w).alloc (Nat.le_refl _) (.cells #[.string ⟨#[]⟩, .slice a n c] 24)
  go_enter Tryz.func30, Tryz.ntmps30
  go_wp2_with fail
  go_loopw [3, 14] (fun y x wr => ∃ (i : Nat) (ao : Option Addr) (cv : Nat), i ≤ n ∧ x = .int .i64 i ∧ y = .slice ao i cv ∧ Hid (wr.ownsRow w.heap.size 9 1 (.slice ao i cv) i (strs ((ms.map wrR).take i))) ∧ Below w.heap.size w wr) (fun _ x _ => n - (intOf x).toNat)
  case atStart => exact ⟨0, none, 0, by omega, rfl, rfl, World.ownsRow_nil _ _ _ _, hB0⟩
  case round =>
    obtain ⟨i, ao, cv, hin, rfl, rfl, hO, hB⟩ := hrel
    by_cases hlt : i < n
    · have hlt' : (i : Int) < (n : Int) := by omega
      have i1 : i < ms.length := by rw [HN.out]; exact hlt
      obtain ⟨b1, o1, rfl, q1, d1⟩ := mrs_at (HV.out.below hB) (by omega)
      obtain ⟨e0, e1, e2, e3, e4, e5⟩ := d1.six i _ (List.getElem?_eq_getElem i1)
      have hsm := HS.out.2 ms[i] (List.getElem_mem i1)
      have WR := fun W => writeRange_any ms[i] W hsm.1 hsm.2
      unfold mV at WR
      have HT : Hid ((ms.map wrR).take (i + 1) = (ms.map wrR).take i ++ [wrR ms[i]]) := by
        show _ = _
        rw [List.take_succ_eq_append_getElem (by simpa using i1)]
        simp
      replace WR := hide WR
      generalize wrR ms[i] = T at *
      generalize ms[i] = x at *
      clear d1 i1 hsm
      have hBa := (Below.refl _ wr).alloc (Nat.le_refl _) (.cells #[.bool x.hasLo, .string (ofL x.lo), .bool x.loIn, .bool x.hasHi, .string (ofL x.hi), .bool x.hiIn] 54)
      have HBa := hide hBa
      clear hBa
      go_wp2_with fail
      refine (WR.out _).mono ?_
      rintro e w2 ⟨rfl, b2⟩
      have hB2 := HBa.out.trans (b2.mono HBa.out.size)
      have HO2 := hide (own_below hO.out hB2)
      have HB2 := hide (hB.trans (hB2.mono hB.size))
      clear hB2 b2 HBa
      have hbase : w.heap.size ≤ w2.heap.size := HB2.out.size
      go_wp2_with (at_builtin; refine wpList_append_own _ rfl _ _ 81 rfl w.heap.size 9 i0 (.string .empty) 1 16 Tryz.underlying81 hi hz0 hz1 hz2 rfl (by decide) _ _ _ rfl (HO2.out.alloc _) ⟨w2.heap.size, 0, none⟩ 1 1 [.string (ofL T)] rfl rfl (by intro j u hj; match j, hj with | 0, hj => simp at hj; subst hj; simp [Addr.add]) (by intro u hu; simp at hu; subst hu; rfl) (by unfold maxLen; omega) (by omega) (by simp; omega) ?_; intro v' w3 hown' hgrow _; obtain ⟨g', cap', rfl⟩ := ownsRow_succ hown')
      have HO3 : Hid (w3.ownsRow w.heap.size 9 1 (.slice (some ⟨g', 0, none⟩) (i + 1) cap') (i + 1) (strs ((ms.map wrR).take (i + 1)))) := by
        show World.ownsRow _ _ _ _ _ _ _
        rw [HT.out, strs_snoc]
        exact hown'
      have HB3 := hide (((HB2.out.alloc HB2.out.size _).grown hgrow (by simp; omega) (fun k hk => (HO2.out.lt k hk).1)))
      clear hown' hgrow
      go_wp2_with fail
      go_roundw
      case rel => exact ⟨i + 1, _, cap', by omega, by go_num, rfl, HO3, HB3.out⟩
      case measure => simp [intOf]; omega
    · have hlt' : ¬ (i : Int) < (n : Int) := by omega
      obtain rfl : i = n := by omega
      have hO' := hO.out
      rw [List.take_of_length_le (by rw [List.length_map, HN.out]; omega)] at hO'
      have hlen : (ms.map wrR).length = i := by rw [List.length_map, HN.out]
      rw [← hlen] at hO'
      obtain ⟨cap, ⟨h0, h1⟩ | ⟨g, h1, h2, h3, h4⟩⟩ := own_str (by rw [hlen] at hO' ⊢; exact hO')
      · have hms : ms = [] := by simpa using h0
        subst hms
        cases h1
        have JN := hide (fun W => Tryz.strings_Join_none none 0 ⟨#[44]⟩ W)
        go_wp2_with fail
        refine (JN.out _).mono ?_
        rintro e w4 ⟨rfl, hw4⟩
        rw [hw4]
        go_wp2_with fail
        go_ret
        exact ⟨rfl, hB⟩
      · rw [hlen] at h1 h3
        cases h1
        have hm : (((ms.map wrR).map ofL).map (·.data.toList)) = ms.map wrR := by
          rw [List.map_map]
          conv => rhs; rw [← List.map_id (ms.map wrR)]
          refine List.map_congr_left fun t _ => ?_
          simp [ofL]
        have hj : Lib.join (((ms.map wrR).map ofL).map (·.data.toList)) (⟨#[44]⟩ : ByteArray).data.toList = wrJ ms := by rw [hm]; exact join_wr ms
        have JA := Tryz.strings_Join g 0 cv ((ms.map wrR).map ofL) ⟨#[44]⟩ wr h4 h2 (by rw [List.length_map, hlen]; omega) (by rw [List.length_map, hlen]; exact h3) (by rw [hj]; have := wrJ_len ms HS.out.2; have := HN.out; omega)
        rw [List.length_map, hlen, hj] at JA
        have JH := hide JA
        clear JA hj hm h4
        go_wp2_with fail
        refine JH.out.mono ?_
        rintro e w4 ⟨rfl, b4⟩
        go_wp2_with fail
        go_ret
        exact ⟨rfl, hB.trans (b4.mono hB.size)⟩
theorem write_any (t : List UInt8) (v : Value) (ms : List Mr) (w : World) (hv : Mrs w v ms) (hs : Small ms) :
    Calls Tryz.prog 30 #[.agg #[.string (ofL t), v]] w fun e w' => e = .returned (.string (ofL (wrL t ms))) ∧ Below w.heap.size w w' := by
  obtain ⟨a, c, rfl, h⟩ := id hv
  unfold wrL
  by_cases ht : t = []
  · subst ht
    rw [if_neg (by simp)]
    exact write_rows _ _ _ ms w hv hs
  · rw [if_pos ht]
    exact write_soft t _ w ht ⟨_, _, _, rfl⟩

end Go.Proofs.YtpedljmpobhimaaGreatDoor
