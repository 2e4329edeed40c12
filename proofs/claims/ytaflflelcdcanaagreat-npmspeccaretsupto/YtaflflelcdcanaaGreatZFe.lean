/-
  Walks: strings.Join at a dot; a version's text.
-/
import Derived.Test.YtaflflelcdcanaaGreatZJoin
import Derived.Test.YtaflflelcdcanaaGreatZRh
namespace Go.Proofs.YtaflflelcdcanaaGreat
open Go.RowKit Go.Shelf
set_option linter.unusedVariables false

/-- A slice is no longer than its room. -/
def Cap (v : Value) : Prop := ∀ a n c, v = .slice a n c → n ≤ c
/-- A version in memory whose lists are no longer than their room. -/
def CapS (v : Value) : Prop := ∀ a b c p q, v = .agg #[a, b, c, p, q] → Cap p ∧ Cap q

theorem join_lib (ts : List (List UInt8)) : Lib.join ts [46] = joinL ts := by
  unfold Lib.join
  cases ts with
  | nil => rfl
  | cons t r =>
    induction r generalizing t with
    | nil => simp [joinL, dotted, List.intercalate]
    | cons u v ih =>
      have := ih u
      simp only [List.intercalate] at this ⊢
      rw [List.intersperse_cons_cons, List.flatten_cons, List.flatten_cons, this]
      simp [joinL, dotted]

theorem Join_any (v : Value) (ts : List (List UInt8)) (w : World) (hv : Txt w v ts) (hc : Cap v) (hl : lenI ts ≤ 1048576) :
    Calls Tryz.prog 33 #[v, .string ⟨#[46]⟩] w fun e w' => e = .returned (.string (ofL (joinL ts))) ∧ Below w.heap.size w w' := by
  obtain ⟨a, cap, rfl, h⟩ := id hv
  have hcap := hc _ _ _ rfl
  have hlen := (lenI_ge ts).1
  by_cases hn : ts = []
  · subst hn
    refine (Tryz.strings_Join_none a cap ⟨#[46]⟩ w).mono ?_
    rintro e w' ⟨rfl, rfl⟩
    exact ⟨rfl, Below.refl _ _⟩
  · rcases h with h | ⟨b, off, rfl, hlt, hcell⟩
    · exact absurd h hn
    · have hm : (ts.map ofL).map (·.data.toList) = ts := by
        rw [List.map_map]
        conv => rhs; rw [← List.map_id ts]
        refine List.map_congr_left fun t _ => ?_
        simp [ofL]
      have hj : (Lib.join ((ts.map ofL).map (·.data.toList)) (⟨#[46]⟩ : ByteArray).data.toList) = joinL ts := by rw [hm]; exact join_lib ts
      have := Tryz.strings_Join b off cap (ts.map ofL) ⟨#[46]⟩ w (by
        intro j x hj
        rw [List.getElem?_map] at hj
        cases hg : ts[j]? with
        | none => rw [hg] at hj; cases hj
        | some t =>
          rw [hg] at hj
          obtain ⟨hj1, hj2⟩ := List.getElem?_eq_some_iff.1 hg
          cases hj
          rw [hcell j hj1, hj2]) hlt (by rw [List.length_map]; omega) (by rw [List.length_map]; exact hcap) (by rw [hj]; have := joinL_len ts; omega)
      rw [List.length_map, hj] at this
      exact this

/-- A version's text, or nothing. -/
def fmtL (x : SemL) : List UInt8 := if fitW x then textL x else []

set_option maxHeartbeats 1000000 in
theorem Format_any (v : Value) (x : SemL) (w : World) (hv : SemAt w v x) (hc : CapS v) (hl : lenS x ≤ 1048576) :
    Calls Tryz.prog 62 #[v] w fun e w' => e = .returned (.string (ofL (fmtL x))) ∧ Below w.heap.size w w' := by
  have F1 := hide (fun W (hW : Below w.heap.size w W) => Fit_any v x W (hv.below hW) (short_of x hl))
  obtain ⟨p1, q1, rfl, t1, u1⟩ := hv
  obtain ⟨cp, cq⟩ := hc _ _ _ _ _ rfl
  unfold lenS at hl
  have J1 := hide (fun W (hW : Below w.heap.size w W) => Join_any p1 x.pre W (t1.below hW) cp (by omega))
  have J2 := hide (fun W (hW : Below w.heap.size w W) => Join_any q1 x.bld W (u1.below hW) cq (by omega))
  obtain ⟨a1, c1, rfl, _⟩ := t1
  obtain ⟨a2, c2, rfl, _⟩ := u1
  clear hc cp cq
  have b0 := (Below.refl w.heap.size w).alloc (Nat.le_refl _) (.cells #[.string (ofL x.maj), .string (ofL x.min), .string (ofL x.pat), .slice a1 x.pre.length c1, .slice a2 x.bld.length c2] 33)
  have kk := hide (World.alloc_heap_new w (.cells #[.string (ofL x.maj), .string (ofL x.min), .string (ofL x.pat), .slice a1 x.pre.length c1, .slice a2 x.bld.length c2] 33))
  unfold fmtL
  cases hf : fitW x
  · rw [hf] at F1
    rw [if_neg (by simp)]
    clear hf
    go_enter Tryz.func62, Tryz.ntmps62
    go_wp2_with fail
    refine (F1.out _ b0).mono ?_
    rintro e w1 ⟨rfl, b1⟩
    go_wp2_with fail
    go_ret
    exact ⟨rfl, b0.trans (b1.mono b0.size)⟩
  · rw [hf] at F1
    rw [if_pos rfl]
    clear hf
    have l1 := joinL_len x.pre
    have l2 := joinL_len x.bld
    have s1 := ofL_size x.maj
    have s2 := ofL_size x.min
    have s3 := ofL_size x.pat
    have s4 := ofL_size (joinL x.pre)
    have s5 := ofL_size (joinL x.bld)
    have D := hide (show (ofL x.maj).data.toList = x.maj ∧ (ofL x.min).data.toList = x.min ∧ (ofL x.pat).data.toList = x.pat ∧ (ofL (joinL x.pre)).data.toList = joinL x.pre ∧ (ofL (joinL x.bld)).data.toList = joinL x.bld from ⟨ofL_data _, ofL_data _, ofL_data _, ofL_data _, ofL_data _⟩)
    have HT : Hid (textL x = x.maj ++ [46] ++ x.min ++ [46] ++ x.pat ++ (if x.pre = [] then [] else 45 :: joinL x.pre) ++ (if x.bld = [] then [] else 43 :: joinL x.bld)) := rfl
    generalize textL x = T at *
    generalize ofL x.maj = M1 at *
    generalize ofL x.min = M2 at *
    generalize ofL x.pat = M3 at *
    generalize ofL (joinL x.pre) = JP at *
    generalize ofL (joinL x.bld) = JB at *
    obtain ⟨B1, e1, k1, d1⟩ := cat_step M1 ⟨#[46]⟩
    obtain ⟨B2, e2, k2, d2⟩ := cat_step B1 M2
    obtain ⟨B3, e3, k3, d3⟩ := cat_step B2 ⟨#[46]⟩
    obtain ⟨B4, e4, k4, d4⟩ := cat_step B3 M3
    obtain ⟨P5, e5, k5, d5⟩ := cat_step ⟨#[45]⟩ JP
    obtain ⟨B6, e6, k6, d6⟩ := cat_step B4 P5
    obtain ⟨P7, e7, k7, d7⟩ := cat_step ⟨#[43]⟩ JB
    obtain ⟨B8, e8, k8, d8⟩ := cat_step B6 P7
    obtain ⟨C8, f8, g8, h8⟩ := cat_step B4 P7
    have z46 : (⟨#[46]⟩ : ByteArray).size = 1 := rfl
    have z45 : (⟨#[45]⟩ : ByteArray).size = 1 := rfl
    have z43 : (⟨#[43]⟩ : ByteArray).size = 1 := rfl
    rw [z46] at k1 k3
    rw [z45] at k5
    rw [z43] at k7
    have H4 : Hid (B4.data.toList = x.maj ++ [46] ++ x.min ++ [46] ++ x.pat) := by show _ = _; rw [d4, d3, d2, d1, D.out.1, D.out.2.1, D.out.2.2.1]
    have H6 : Hid (B6.data.toList = B4.data.toList ++ 45 :: joinL x.pre) := by show _ = _; rw [d6, d5, D.out.2.2.2.1]; simp
    have H8 : Hid (B8.data.toList = B6.data.toList ++ 43 :: joinL x.bld) := by show _ = _; rw [d8, d7, D.out.2.2.2.2]; simp
    have I8 : Hid (C8.data.toList = B4.data.toList ++ 43 :: joinL x.bld) := by show _ = _; rw [h8, d7, D.out.2.2.2.2]; simp
    clear d1 d2 d3 d4 d5 d6 d7 d8 h8 D
    have l3 : JP.size ≤ 1048576 := by omega
    have l4 : JB.size ≤ 1048576 := by omega
    by_cases hp : x.pre = [] <;> by_cases hq : x.bld = []
    · have hp0 : x.pre.length ≤ 0 := by rw [hp]; exact Nat.le_refl _
      have hq0 : x.bld.length ≤ 0 := by rw [hq]; exact Nat.le_refl _
      have HX : Hid (B4 = ofL T) := by show _ = _; apply ba_ext; rw [ofL_data, HT.out, H4.out, if_pos hp, if_pos hq]; simp
      clear hp hq HT z46 z45 z43
      go_enter Tryz.func62, Tryz.ntmps62
      go_wp2_with fail
      refine (F1.out _ b0).mono ?_
      rintro e w1 ⟨rfl, b1⟩
      simp only [World.size_alloc] at b1
      have B1' := b0.trans (b1.mono (by omega))
      have k9 := (b1.block w.heap.size (by omega)).trans kk.out
      obtain ⟨m0, m1, m2, m3, m4⟩ := seen5 k9
      have hz9 := (Array.getElem?_eq_some_iff.1 k9).1
      have K9 := hide k9
      clear k9
      go_wp2_with fail
      go_ret
      exact ⟨ret_s HX.out, B1'⟩
    · have hp0 : x.pre.length ≤ 0 := by rw [hp]; exact Nat.le_refl _
      have hq0 : 0 < x.bld.length := List.length_pos_iff.2 hq
      have HX : Hid (C8 = ofL T) := by show _ = _; apply ba_ext; rw [ofL_data, HT.out, I8.out, H4.out, if_pos hp, if_neg hq]; simp
      clear hp hq HT z46 z45 z43
      go_enter Tryz.func62, Tryz.ntmps62
      go_wp2_with fail
      refine (F1.out _ b0).mono ?_
      rintro e w1 ⟨rfl, b1⟩
      simp only [World.size_alloc] at b1
      have B1' := b0.trans (b1.mono (by omega))
      have k9 := (b1.block w.heap.size (by omega)).trans kk.out
      obtain ⟨m0, m1, m2, m3, m4⟩ := seen5 k9
      have hz9 := (Array.getElem?_eq_some_iff.1 k9).1
      have K9 := hide k9
      clear k9
      go_wp2_with fail
      refine (J2.out _ B1').mono ?_
      rintro e w2 ⟨rfl, b2⟩
      go_wp2_with fail
      go_ret
      exact ⟨ret_s HX.out, B1'.trans (b2.mono B1'.size)⟩
    · have hp0 : 0 < x.pre.length := List.length_pos_iff.2 hp
      have hq0 : x.bld.length ≤ 0 := by rw [hq]; exact Nat.le_refl _
      have HX : Hid (B6 = ofL T) := by show _ = _; apply ba_ext; rw [ofL_data, HT.out, H6.out, H4.out, if_neg hp, if_pos hq]; simp
      clear hp hq HT z46 z45 z43
      go_enter Tryz.func62, Tryz.ntmps62
      go_wp2_with fail
      refine (F1.out _ b0).mono ?_
      rintro e w1 ⟨rfl, b1⟩
      simp only [World.size_alloc] at b1
      have B1' := b0.trans (b1.mono (by omega))
      have k9 := (b1.block w.heap.size (by omega)).trans kk.out
      obtain ⟨m0, m1, m2, m3, m4⟩ := seen5 k9
      have hz9 := (Array.getElem?_eq_some_iff.1 k9).1
      have K9 := hide k9
      clear k9
      go_wp2_with fail
      refine (J1.out _ B1').mono ?_
      rintro e w2 ⟨rfl, b2⟩
      have k10 := (b2.block w.heap.size hz9).trans K9.out
      clear m0 m1 m2 m3 m4
      obtain ⟨m0, m1, m2, m3, m4⟩ := seen5 k10
      clear k10
      go_wp2_with fail
      go_ret
      exact ⟨ret_s HX.out, B1'.trans (b2.mono B1'.size)⟩
    · have hp0 : 0 < x.pre.length := List.length_pos_iff.2 hp
      have hq0 : 0 < x.bld.length := List.length_pos_iff.2 hq
      have HX : Hid (B8 = ofL T) := by show _ = _; apply ba_ext; rw [ofL_data, HT.out, H8.out, H6.out, H4.out, if_neg hp, if_neg hq]
      clear hp hq HT z46 z45 z43
      go_enter Tryz.func62, Tryz.ntmps62
      go_wp2_with fail
      refine (F1.out _ b0).mono ?_
      rintro e w1 ⟨rfl, b1⟩
      simp only [World.size_alloc] at b1
      have B1' := b0.trans (b1.mono (by omega))
      have k9 := (b1.block w.heap.size (by omega)).trans kk.out
      obtain ⟨m0, m1, m2, m3, m4⟩ := seen5 k9
      have hz9 := (Array.getElem?_eq_some_iff.1 k9).1
      have K9 := hide k9
      clear k9
      go_wp2_with fail
      refine (J1.out _ B1').mono ?_
      rintro e w2 ⟨rfl, b2⟩
      have k10 := (b2.block w.heap.size hz9).trans K9.out
      clear m0 m1 m2 m3 m4
      obtain ⟨m0, m1, m2, m3, m4⟩ := seen5 k10
      clear k10
      have B2' := B1'.trans (b2.mono B1'.size)
      go_wp2_with fail
      refine (J2.out _ B2').mono ?_
      rintro e w3 ⟨rfl, b3⟩
      go_wp2_with fail
      go_ret
      exact ⟨ret_s HX.out, B2'.trans (b3.mono B2'.size)⟩

end Go.Proofs.YtaflflelcdcanaaGreat
