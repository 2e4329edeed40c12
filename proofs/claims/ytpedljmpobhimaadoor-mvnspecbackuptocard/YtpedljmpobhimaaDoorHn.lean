/-
  Walks: a requirement's text.
-/
import Derived.Test.YtpedljmpobhimaaDoorHm
namespace Go.Proofs.YtpedljmpobhimaaDoor
open Go.RowKit Go.Shelf
set_option linter.unusedVariables false

/-- The ranges' texts are short. -/
def Small (ms : List Mr) : Prop := ms.length ≤ 2000000 ∧ ∀ m ∈ ms, m.lo.length ≤ 10000000 ∧ m.hi.length ≤ 10000000
def strs (ts : List (List UInt8)) : List Value := ts.map fun t => .string (ofL t)
theorem strs_snoc (ts : List (List UInt8)) (t : List UInt8) : strs (ts ++ [t]) = strs ts ++ [.string (ofL t)] := by simp [strs]
theorem Tryd.info9 : (Tryd.prog.info? 9).map (fun i => (i.zero, i.size, i.bytes)) = some (some (.string .empty), 1, 16) := by kernel_rfl
theorem join_wr : ∀ ms : List Mr, Lib.join (ms.map wrR) [44] = wrJ ms
  | [] => rfl
  | [m] => by simp [Lib.join, wrJ, List.intercalate]
  | m :: n :: r => by
    have ih := join_wr (n :: r)
    unfold Lib.join at ih ⊢
    simp only [List.map_cons, List.intercalate] at ih ⊢
    rw [List.intersperse_cons_cons, List.flatten_cons, List.flatten_cons, ih]
    simp [wrJ]
theorem wrJ_len : ∀ ms : List Mr, (∀ m ∈ ms, m.lo.length ≤ 10000000 ∧ m.hi.length ≤ 10000000) → (wrJ ms).length ≤ ms.length * 20000004
  | [], _ => Nat.zero_le _
  | [m], h => by
    have := wr_len1 m
    have := h m List.mem_cons_self
    show (wrR m).length ≤ _
    simp; omega
  | m :: n :: r, h => by
    have ih := wrJ_len (n :: r) (fun x hx => h x (List.mem_cons_of_mem _ hx))
    have := wr_len1 m
    have := h m List.mem_cons_self
    show (wrR m ++ 44 :: wrJ (n :: r)).length ≤ _
    rw [List.length_append, List.length_cons]
    simp only [List.length_cons] at ih ⊢
    omega
theorem own_str {W : World} {base : Nat} {v : Value} {ts : List (List UInt8)} (h : W.ownsRow base 9 1 v ts.length (strs ts)) : ∃ cap, (ts = [] ∧ v = .slice none 0 0) ∨ ∃ g, v = .slice (some ⟨g, 0, none⟩) ts.length cap ∧ g < W.heap.size ∧ ts.length ≤ cap ∧ ∀ j x, (ts.map ofL)[j]? = some x → W.cell? ⟨g, 0 + j, none⟩ = some (.string x) := by
  rcases h.2 with ⟨rfl, h0⟩ | ⟨g, cap, cur, rfl, hg, hh, h1, h2, hsz, ht⟩
  · exact ⟨0, .inl ⟨List.length_eq_zero_iff.1 h0, rfl⟩⟩
  · refine ⟨cap, .inr ⟨g, rfl, (Array.getElem?_eq_some_iff.1 hh).1, h1, ?_⟩⟩
    intro j x hj
    refine cell_at _ hh ?_
    rw [Nat.zero_add]
    rw [List.getElem?_map] at hj
    have hl : j < (strs ts).length := by
      have := (List.getElem?_eq_some_iff.1 (Option.map_eq_some_iff.1 hj).choose_spec.1).1
      simpa [strs] using this
    have e : cur.toList = strs ts ++ cur.toList.drop (ts.length * 1) := by rw [← ht, List.take_append_drop]
    rw [← Array.getElem?_toList, e, List.getElem?_append_left hl]
    simp only [strs, List.getElem?_map]
    cases hg' : ts[j]? with
    | none => rw [hg'] at hj; cases hj
    | some t => rw [hg'] at hj; simp at hj ⊢; rw [hj]

theorem write_soft (t : List UInt8) (v : Value) (w : World) (ht : t ≠ []) (hv : ∃ a n c, v = .slice a n c) :
    Calls Tryd.prog 9 #[.agg #[.string (ofL t), v]] w fun e w' => e = .returned (.string (ofL t)) ∧ Below w.heap.size w w' := by
  obtain ⟨a, n, c, rfl⟩ := hv
  have hne : ((ofL t).toList == []) = false := by rw [empty_at]; simpa using ht
  go_enter Tryd.func9, Tryd.ntmps9
  go_wp2_with fail
  go_ret
  exact ⟨rfl, (Below.refl _ w).alloc (Nat.le_refl _) _⟩

set_option maxRecDepth 100000 in
set_option maxHeartbeats 4000000 in
theorem write_rows (a : Option Addr) (n c : Nat) (ms : List Mr) (w : World) (hv : Mrs w (.slice a n c) ms) (hs : Small ms) :
    Calls Tryd.prog 9 #[.agg #[.string ⟨#[]⟩, .slice a n c]] w fun e w' => e = .returned (.string (ofL (wrJ ms))) ∧ Below w.heap.size w w' := by
  have HN := hide (mrs_n hv)
  have HV := hide hv
  have HS := hide hs
  have hn : n ≤ 2000000 := by rw [← mrs_n hv]; exact hs.1
  clear hv hs
  obtain ⟨i0, hi, hz0, hz1, hz2⟩ := info_parts Tryd.info9
  have hB0 := (Below.refl _ w).alloc (Nat.le_refl _) (.cells #[.string ⟨#[]⟩, .slice a n c] 24)
  go_enter Tryd.func9, Tryd.ntmps9
  go_wp2_with fail
  go_loopw [3, 14] (fun y x wr => ∃ (i : Nat) (ao : Option Addr) (cv : Nat), i ≤ n ∧ x = .int .i64 i ∧ y = .slice ao i cv ∧ Hid (wr.ownsRow w.heap.size 9 1 (.slice ao i cv) i (strs ((ms.map wrR).take i))) ∧ Below w.heap.size w wr) (fun _ x _ => n - (intOf x).toNat)
  case atStart => exact ⟨0, none, 0, by omega, rfl, rfl, World.ownsRow_nil _ _ _ _, hB0⟩
  case round =>
    obtain ⟨i, ao, cv, hin, rfl, rfl, hO, hB⟩ := hrel
    by_cases hlt : i < n
    · have hlt' : (i : Int) < (n : Int) := by omega
      have i1 : i < ms.length := by rw [HN.out]; exact hlt
      obtain ⟨b1, o1, rfl, q1, d1⟩ := mrs_at (HV.out.below hB) (by omega)
      obtain ⟨e0, e1, e2, e3, e4, e5⟩ := d1.six i _ (List.getElem?_eq_getElem i1)
      have hsm := HS.out.2 ms[i] (List.getElem_mem i1)
      have WR := fun W => writeRange_any ms[i] W hsm.1 hsm.2
      unfold mV at WR
      have HT : Hid ((ms.map wrR).take (i + 1) = (ms.map wrR).take i ++ [wrR ms[i]]) := by
        show _ = _
        rw [List.take_succ_eq_append_getElem (by simpa using i1)]
        simp
      replace WR := hide WR
      generalize wrR ms[i] = T at *
      generalize ms[i] = x at *
      clear d1 i1 hsm
      have hBa := (Below.refl _ wr).alloc (Nat.le_refl _) (.cells #[.bool x.hasLo, .string (ofL x.lo), .bool x.loIn, .bool x.hasHi, .string (ofL x.hi), .bool x.hiIn] 37)
      have HBa := hide hBa
      clear hBa
      go_wp2_with fail
      refine (WR.out _).mono ?_
      rintro e w2 ⟨rfl, b2⟩
      have hB2 := HBa.out.trans (b2.mono HBa.out.size)
      have HO2 := hide (own_below hO.out hB2)
      have HB2 := hide (hB.trans (hB2.mono hB.size))
      clear hB2 b2 HBa
      have hbase : w.heap.size ≤ w2.heap.size := HB2.out.size
      go_wp2_with (at_builtin; refine wpList_append_own _ rfl _ _ 45 rfl w.heap.size 9 i0 (.string .empty) 1 16 Tryd.underlying45 hi hz0 hz1 hz2 rfl (by decide) _ _ _ rfl (HO2.out.alloc _) ⟨w2.heap.size, 0, none⟩ 1 1 [.string (ofL T)] rfl rfl (by intro j u hj; match j, hj with | 0, hj => simp at hj; subst hj; simp [Addr.add]) (by intro u hu; simp at hu; subst hu; rfl) (by unfold maxLen; omega) (by omega) (by simp; omega) ?_; intro v' w3 hown' hgrow _; obtain ⟨g', cap', rfl⟩ := ownsRow_succ hown')
      have HO3 : Hid (w3.ownsRow w.heap.size 9 1 (.slice (some ⟨g', 0, none⟩) (i + 1) cap') (i + 1) (strs ((ms.map wrR).take (i + 1)))) := by
        show World.ownsRow _ _ _ _ _ _ _
        rw [HT.out, strs_snoc]
        exact hown'
      have HB3 := hide (((HB2.out.alloc HB2.out.size _).grown hgrow (by simp; omega) (fun k hk => (HO2.out.lt k hk).1)))
      clear hown' hgrow
      go_wp2_with fail
      go_roundw
      case rel => exact ⟨i + 1, _, cap', by omega, by go_num, rfl, HO3, HB3.out⟩
      case measure => simp [intOf]; omega
    · have hlt' : ¬ (i : Int) < (n : Int) := by omega
      obtain rfl : i = n := by omega
      have hO' := hO.out
      rw [List.take_of_length_le (by rw [List.length_map, HN.out]; omega)] at hO'
      have hlen : (ms.map wrR).length = i := by rw [List.length_map, HN.out]
      rw [← hlen] at hO'
      obtain ⟨cap, ⟨h0, h1⟩ | ⟨g, h1, h2, h3, h4⟩⟩ := own_str (by rw [hlen] at hO' ⊢; exact hO')
      · have hms : ms = [] := by simpa using h0
        subst hms
        cases h1
        have JN := hide (fun W => Tryd.strings_Join_none none 0 ⟨#[44]⟩ W)
        go_wp2_with fail
        refine (JN.out _).mono ?_
        rintro e w4 ⟨rfl, hw4⟩
        rw [hw4]
        go_wp2_with fail
        go_ret
        exact ⟨rfl, hB⟩
      · rw [hlen] at h1 h3
        cases h1
        have hm : (((ms.map wrR).map ofL).map (·.data.toList)) = ms.map wrR := by
          rw [List.map_map]
          conv => rhs; rw [← List.map_id (ms.map wrR)]
          refine List.map_congr_left fun t _ => ?_
          simp [ofL]
        have hj : Lib.join (((ms.map wrR).map ofL).map (·.data.toList)) (⟨#[44]⟩ : ByteArray).data.toList = wrJ ms := by rw [hm]; exact join_wr ms
        have JA := Tryd.strings_Join g 0 cv ((ms.map wrR).map ofL) ⟨#[44]⟩ wr h4 h2 (by rw [List.length_map, hlen]; omega) (by rw [List.length_map, hlen]; exact h3) (by rw [hj]; have := wrJ_len ms HS.out.2; have := HN.out; omega)
        rw [List.length_map, hlen, hj] at JA
        have JH := hide JA
        clear JA hj hm h4
        go_wp2_with fail
        refine JH.out.mono ?_
        rintro e w4 ⟨rfl, b4⟩
        go_wp2_with fail
        go_ret
        exact ⟨rfl, hB.trans (b4.mono hB.size)⟩
theorem write_any (t : List UInt8) (v : Value) (ms : List Mr) (w : World) (hv : Mrs w v ms) (hs : Small ms) :
    Calls Tryd.prog 9 #[.agg #[.string (ofL t), v]] w fun e w' => e = .returned (.string (ofL (wrL t ms))) ∧ Below w.heap.size w w' := by
  obtain ⟨a, c, rfl, h⟩ := id hv
  unfold wrL
  by_cases ht : t = []
  · subst ht
    rw [if_neg (by simp)]
    exact write_rows _ _ _ ms w hv hs
  · rw [if_pos ht]
    exact write_soft t _ w ht ⟨_, _, _, rfl⟩

end Go.Proofs.YtpedljmpobhimaaDoor
