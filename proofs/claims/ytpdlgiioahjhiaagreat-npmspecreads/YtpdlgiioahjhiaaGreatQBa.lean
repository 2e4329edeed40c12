/-
  Walks: strings.Join at a dot; a version's text. · Plain laws of orders: what compares parts in turn is an order; no program is named here. · Plain laws of next versions: a version is ahead of each of its next ones, and of itself without its prerelease. · Plain laws of texts: what is written is read as it was. · The document's answer: Parse and Canon. · The walk of SemverBack.
-/
import Derived.Test.YtpdlgiioahjhiaaGreatQRh
import Derived.Test.YtpdlgiioahjhiaaGreatQFa
namespace Go.Proofs.YtpdlgiioahjhiaaGreat
open Go.RowKit Go.Shelf
set_option linter.unusedVariables false

def Cap (v : Value) : Prop := ∀ a n c, v = .slice a n c → n ≤ c
def CapS (v : Value) : Prop := ∀ a b c p q, v = .agg #[a, b, c, p, q] → Cap p ∧ Cap q

theorem join_lib (ts : List (List UInt8)) : Lib.join ts [46] = joinL ts := by
  unfold Lib.join
  cases ts with
  | nil => rfl
  | cons t r =>
    induction r generalizing t with
    | nil => simp [joinL, dotted, List.intercalate]
    | cons u v ih =>
      have := ih u
      simp only [List.intercalate] at this ⊢
      rw [List.intersperse_cons_cons, List.flatten_cons, List.flatten_cons, this]
      simp [joinL, dotted]

theorem Join_any (v : Value) (ts : List (List UInt8)) (w : World) (hv : Txt w v ts) (hc : Cap v) (hl : lenI ts ≤ 1048576) :
    Calls Tryz.prog 33 #[v, .string ⟨#[46]⟩] w fun e w' => e = .returned (.string (ofL (joinL ts))) ∧ Below w.heap.size w w' := by
  obtain ⟨a, cap, rfl, h⟩ := id hv
  have hcap := hc _ _ _ rfl
  have hlen := (lenI_ge ts).1
  by_cases hn : ts = []
  · subst hn
    refine (Tryz.strings_Join_none a cap ⟨#[46]⟩ w).mono ?_
    rintro e w' ⟨rfl, rfl⟩
    exact ⟨rfl, Below.refl _ _⟩
  · rcases h with h | ⟨b, off, rfl, hlt, hcell⟩
    · exact absurd h hn
    · have hm : (ts.map ofL).map (·.data.toList) = ts := by
        rw [List.map_map]
        conv => rhs; rw [← List.map_id ts]
        refine List.map_congr_left fun t _ => ?_
        simp [ofL]
      have hj : (Lib.join ((ts.map ofL).map (·.data.toList)) (⟨#[46]⟩ : ByteArray).data.toList) = joinL ts := by rw [hm]; exact join_lib ts
      have := Tryz.strings_Join b off cap (ts.map ofL) ⟨#[46]⟩ w (by
        intro j x hj
        rw [List.getElem?_map] at hj
        cases hg : ts[j]? with
        | none => rw [hg] at hj; cases hj
        | some t =>
          rw [hg] at hj
          obtain ⟨hj1, hj2⟩ := List.getElem?_eq_some_iff.1 hg
          cases hj
          rw [hcell j hj1, hj2]) hlt (by rw [List.length_map]; omega) (by rw [List.length_map]; exact hcap) (by rw [hj]; have := joinL_len ts; omega)
      rw [List.length_map, hj] at this
      exact this

def fmtL (x : SemL) : List UInt8 := if fitW x then textL x else []

set_option maxHeartbeats 1000000 in
theorem Format_any (v : Value) (x : SemL) (w : World) (hv : SemAt w v x) (hc : CapS v) (hl : lenS x ≤ 1048576) :
    Calls Tryz.prog 62 #[v] w fun e w' => e = .returned (.string (ofL (fmtL x))) ∧ Below w.heap.size w w' := by
  have F1 := hide (fun W (hW : Below w.heap.size w W) => Fit_any v x W (hv.below hW) (short_of x hl))
  obtain ⟨p1, q1, rfl, t1, u1⟩ := hv
  obtain ⟨cp, cq⟩ := hc _ _ _ _ _ rfl
  unfold lenS at hl
  have J1 := hide (fun W (hW : Below w.heap.size w W) => Join_any p1 x.pre W (t1.below hW) cp (by omega))
  have J2 := hide (fun W (hW : Below w.heap.size w W) => Join_any q1 x.bld W (u1.below hW) cq (by omega))
  obtain ⟨a1, c1, rfl, _⟩ := t1
  obtain ⟨a2, c2, rfl, _⟩ := u1
  clear hc cp cq
  have b0 := (Below.refl w.heap.size w).alloc (Nat.le_refl _) (.cells #[.string (ofL x.maj), .string (ofL x.min), .string (ofL x.pat), .slice a1 x.pre.length c1, .slice a2 x.bld.length c2] 33)
  have kk := hide (World.alloc_heap_new w (.cells #[.string (ofL x.maj), .string (ofL x.min), .string (ofL x.pat), .slice a1 x.pre.length c1, .slice a2 x.bld.length c2] 33))
  unfold fmtL
  cases hf : fitW x
  · rw [hf] at F1
    rw [if_neg (by simp)]
    clear hf
    go_enter Tryz.func62, Tryz.ntmps62
    go_wp2_with fail
    refine (F1.out _ b0).mono ?_
    rintro e w1 ⟨rfl, b1⟩
    go_wp2_with fail
    go_ret
    exact ⟨rfl, b0.trans (b1.mono b0.size)⟩
  · rw [hf] at F1
    rw [if_pos rfl]
    clear hf
    have l1 := joinL_len x.pre
    have l2 := joinL_len x.bld
    have s1 := ofL_size x.maj
    have s2 := ofL_size x.min
    have s3 := ofL_size x.pat
    have s4 := ofL_size (joinL x.pre)
    have s5 := ofL_size (joinL x.bld)
    have D := hide (show (ofL x.maj).data.toList = x.maj ∧ (ofL x.min).data.toList = x.min ∧ (ofL x.pat).data.toList = x.pat ∧ (ofL (joinL x.pre)).data.toList = joinL x.pre ∧ (ofL (joinL x.bld)).data.toList = joinL x.bld from ⟨ofL_data _, ofL_data _, ofL_data _, ofL_data _, ofL_data _⟩)
    have HT : Hid (textL x = x.maj ++ [46] ++ x.min ++ [46] ++ x.pat ++ (if x.pre = [] then [] else 45 :: joinL x.pre) ++ (if x.bld = [] then [] else 43 :: joinL x.bld)) := rfl
    generalize textL x = T at *
    generalize ofL x.maj = M1 at *
    generalize ofL x.min = M2 at *
    generalize ofL x.pat = M3 at *
    generalize ofL (joinL x.pre) = JP at *
    generalize ofL (joinL x.bld) = JB at *
    obtain ⟨B1, e1, k1, d1⟩ := cat_step M1 ⟨#[46]⟩
    obtain ⟨B2, e2, k2, d2⟩ := cat_step B1 M2
    obtain ⟨B3, e3, k3, d3⟩ := cat_step B2 ⟨#[46]⟩
    obtain ⟨B4, e4, k4, d4⟩ := cat_step B3 M3
    obtain ⟨P5, e5, k5, d5⟩ := cat_step ⟨#[45]⟩ JP
    obtain ⟨B6, e6, k6, d6⟩ := cat_step B4 P5
    obtain ⟨P7, e7, k7, d7⟩ := cat_step ⟨#[43]⟩ JB
    obtain ⟨B8, e8, k8, d8⟩ := cat_step B6 P7
    obtain ⟨C8, f8, g8, h8⟩ := cat_step B4 P7
    have z46 : (⟨#[46]⟩ : ByteArray).size = 1 := rfl
    have z45 : (⟨#[45]⟩ : ByteArray).size = 1 := rfl
    have z43 : (⟨#[43]⟩ : ByteArray).size = 1 := rfl
    rw [z46] at k1 k3
    rw [z45] at k5
    rw [z43] at k7
    have H4 : Hid (B4.data.toList = x.maj ++ [46] ++ x.min ++ [46] ++ x.pat) := by show _ = _; rw [d4, d3, d2, d1, D.out.1, D.out.2.1, D.out.2.2.1]
    have H6 : Hid (B6.data.toList = B4.data.toList ++ 45 :: joinL x.pre) := by show _ = _; rw [d6, d5, D.out.2.2.2.1]; simp
    have H8 : Hid (B8.data.toList = B6.data.toList ++ 43 :: joinL x.bld) := by show _ = _; rw [d8, d7, D.out.2.2.2.2]; simp
    have I8 : Hid (C8.data.toList = B4.data.toList ++ 43 :: joinL x.bld) := by show _ = _; rw [h8, d7, D.out.2.2.2.2]; simp
    clear d1 d2 d3 d4 d5 d6 d7 d8 h8 D
    have l3 : JP.size ≤ 1048576 := by omega
    have l4 : JB.size ≤ 1048576 := by omega
    by_cases hp : x.pre = [] <;> by_cases hq : x.bld = []
    · have hp0 : x.pre.length ≤ 0 := by rw [hp]; exact Nat.le_refl _
      have hq0 : x.bld.length ≤ 0 := by rw [hq]; exact Nat.le_refl _
      have HX : Hid (B4 = ofL T) := by show _ = _; apply ba_ext; rw [ofL_data, HT.out, H4.out, if_pos hp, if_pos hq]; simp
      clear hp hq HT z46 z45 z43
      go_enter Tryz.func62, Tryz.ntmps62
      go_wp2_with fail
      refine (F1.out _ b0).mono ?_
      rintro e w1 ⟨rfl, b1⟩
      simp only [World.size_alloc] at b1
      have B1' := b0.trans (b1.mono (by omega))
      have k9 := (b1.block w.heap.size (by omega)).trans kk.out
      obtain ⟨m0, m1, m2, m3, m4⟩ := seen5 k9
      have hz9 := (Array.getElem?_eq_some_iff.1 k9).1
      have K9 := hide k9
      clear k9
      go_wp2_with fail
      go_ret
      exact ⟨ret_s HX.out, B1'⟩
    · have hp0 : x.pre.length ≤ 0 := by rw [hp]; exact Nat.le_refl _
      have hq0 : 0 < x.bld.length := List.length_pos_iff.2 hq
      have HX : Hid (C8 = ofL T) := by show _ = _; apply ba_ext; rw [ofL_data, HT.out, I8.out, H4.out, if_pos hp, if_neg hq]; simp
      clear hp hq HT z46 z45 z43
      go_enter Tryz.func62, Tryz.ntmps62
      go_wp2_with fail
      refine (F1.out _ b0).mono ?_
      rintro e w1 ⟨rfl, b1⟩
      simp only [World.size_alloc] at b1
      have B1' := b0.trans (b1.mono (by omega))
      have k9 := (b1.block w.heap.size (by omega)).trans kk.out
      obtain ⟨m0, m1, m2, m3, m4⟩ := seen5 k9
      have hz9 := (Array.getElem?_eq_some_iff.1 k9).1
      have K9 := hide k9
      clear k9
      go_wp2_with fail
      refine (J2.out _ B1').mono ?_
      rintro e w2 ⟨rfl, b2⟩
      go_wp2_with fail
      go_ret
      exact ⟨ret_s HX.out, B1'.trans (b2.mono B1'.size)⟩
    · have hp0 : 0 < x.pre.length := List.length_pos_iff.2 hp
      have hq0 : x.bld.length ≤ 0 := by rw [hq]; exact Nat.le_refl _
      have HX : Hid (B6 = ofL T) := by show _ = _; apply ba_ext; rw [ofL_data, HT.out, H6.out, H4.out, if_neg hp, if_pos hq]; simp
      clear hp hq HT z46 z45 z43
      go_enter Tryz.func62, Tryz.ntmps62
      go_wp2_with fail
      refine (F1.out _ b0).mono ?_
      rintro e w1 ⟨rfl, b1⟩
      simp only [World.size_alloc] at b1
      have B1' := b0.trans (b1.mono (by omega))
      have k9 := (b1.block w.heap.size (by omega)).trans kk.out
      obtain ⟨m0, m1, m2, m3, m4⟩ := seen5 k9
      have hz9 := (Array.getElem?_eq_some_iff.1 k9).1
      have K9 := hide k9
      clear k9
      go_wp2_with fail
      refine (J1.out _ B1').mono ?_
      rintro e w2 ⟨rfl, b2⟩
      have k10 := (b2.block w.heap.size hz9).trans K9.out
      clear m0 m1 m2 m3 m4
      obtain ⟨m0, m1, m2, m3, m4⟩ := seen5 k10
      clear k10
      go_wp2_with fail
      go_ret
      exact ⟨ret_s HX.out, B1'.trans (b2.mono B1'.size)⟩
    · have hp0 : 0 < x.pre.length := List.length_pos_iff.2 hp
      have hq0 : 0 < x.bld.length := List.length_pos_iff.2 hq
      have HX : Hid (B8 = ofL T) := by show _ = _; apply ba_ext; rw [ofL_data, HT.out, H8.out, H6.out, H4.out, if_neg hp, if_neg hq]
      clear hp hq HT z46 z45 z43
      go_enter Tryz.func62, Tryz.ntmps62
      go_wp2_with fail
      refine (F1.out _ b0).mono ?_
      rintro e w1 ⟨rfl, b1⟩
      simp only [World.size_alloc] at b1
      have B1' := b0.trans (b1.mono (by omega))
      have k9 := (b1.block w.heap.size (by omega)).trans kk.out
      obtain ⟨m0, m1, m2, m3, m4⟩ := seen5 k9
      have hz9 := (Array.getElem?_eq_some_iff.1 k9).1
      have K9 := hide k9
      clear k9
      go_wp2_with fail
      refine (J1.out _ B1').mono ?_
      rintro e w2 ⟨rfl, b2⟩
      have k10 := (b2.block w.heap.size hz9).trans K9.out
      clear m0 m1 m2 m3 m4
      obtain ⟨m0, m1, m2, m3, m4⟩ := seen5 k10
      clear k10
      have B2' := B1'.trans (b2.mono B1'.size)
      go_wp2_with fail
      refine (J2.out _ B2').mono ?_
      rintro e w3 ⟨rfl, b3⟩
      go_wp2_with fail
      go_ret
      exact ⟨ret_s HX.out, B2'.trans (b3.mono B2'.size)⟩

end Go.Proofs.YtpdlgiioahjhiaaGreat

namespace Go.Proofs.YtpdlgiioahjhiaaGreat
set_option linter.unusedVariables false

structure Cmp3 {α : Type} (f : α → α → Int) : Prop where
  rng : ∀ a b, f a b = -1 ∨ f a b = 0 ∨ f a b = 1
  anti : ∀ a b, f b a = - f a b
  trans : ∀ a b c, f a b ≤ 0 → f b c ≤ 0 → f a c ≤ 0
  eqv : ∀ a b c, f a b = 0 → f a c = f b c

namespace Cmp3
variable {α β : Type} {f g : α → α → Int}
theorem sum (hf : Cmp3 f) (hg : Cmp3 g) (t : α → Bool) : Cmp3 (fun x y => if t x then (if t y then f x y else -1) else if t y then 1 else g x y) := by
  refine ⟨fun a b => ?_, fun a b => ?_, fun a b c h1 h2 => ?_, fun a b c h => ?_⟩
  · have := hf.rng a b
    have := hg.rng a b
    cases t a <;> cases t b <;> simp <;> assumption
  · have := hf.anti a b
    have := hg.anti a b
    cases t a <;> cases t b <;> simp <;> assumption
  · have := hf.trans a b c
    have := hg.trans a b c
    cases ha : t a <;> cases hb : t b <;> cases hc : t c <;> simp [ha, hb, hc] at h1 h2 ⊢
    · exact hg.trans a b c h1 h2
    · exact hf.trans a b c h1 h2
  · skip
    cases ha : t a <;> cases hb : t b <;> cases hc : t c <;> simp [ha, hb] at h ⊢
    · exact hg.eqv a b c h
    · exact hf.eqv a b c h
end Cmp3

end Go.Proofs.YtpdlgiioahjhiaaGreat

namespace Go.Proofs.YtpdlgiioahjhiaaGreat
open Go.RowKit
set_option linter.unusedVariables false

theorem numB_allD {l : List UInt8} (h : numB l = true) : AllD l ∧ l ≠ [] := by
  unfold numB digB at h
  simp only [Bool.and_eq_true, beq_iff_eq] at h
  refine ⟨allD_of_run l h.1.2, fun e => ?_⟩
  have := h.1.1
  rw [e] at this
  simp at this
theorem fit_parts {x : SemL} (h : fitW x = true) : wrap64 (lenS x : Int) ≤ 64 ∧ numB x.maj = true ∧ numB x.min = true ∧ numB x.pat = true ∧ x.pre.all preB = true ∧ x.bld.all idB = true := by
  unfold fitW at h
  simp only [Bool.and_eq_true, decide_eq_true_eq] at h
  exact ⟨h.1.1.1.1.1, h.1.1.1.1.2, h.1.1.1.2, h.1.1.2, h.1.2, h.2⟩
theorem fit_mk {x : SemL} (h0 : wrap64 (lenS x : Int) ≤ 64) (h1 : numB x.maj = true) (h2 : numB x.min = true) (h3 : numB x.pat = true) (h4 : x.pre.all preB = true) (h5 : x.bld.all idB = true) : fitW x = true := by
  unfold fitW
  simp only [Bool.and_eq_true, decide_eq_true_eq]
  exact ⟨⟨⟨⟨⟨h0, h1⟩, h2⟩, h3⟩, h4⟩, h5⟩

theorem numB_trim {l : List UInt8} (h : numB l = true) : trimL l = l := by
  have hd := numB_allD h
  unfold numB zeroB at h
  simp only [Bool.and_eq_true] at h
  cases l with
  | nil => exact absurd rfl hd.2
  | cons c r =>
    by_cases hc : c = 48
    · subst hc
      cases r with
      | nil => decide
      | cons d r' =>
        exfalso
        have h2 := h.2
        simp only [List.head?_cons, List.length_cons, BEq.rfl, Bool.and_true, Bool.not_eq_true'] at h2
        rw [h.1] at h2
        simp at h2
    · rw [trimL, if_neg hc]
theorem inc_head (l : List UInt8) (hd : AllD l) (hn : l ≠ []) (ht : trimL l = l) : ∃ c r, incL l = c :: r ∧ c ≠ 48 := by
  cases l with
  | nil => exact absurd rfl hn
  | cons c r =>
    by_cases h9 : ∀ x ∈ c :: r, x = 57
    · refine ⟨49, List.replicate (c :: r).length 48, ?_, by decide⟩
      unfold incL
      have := incR_app (c :: r).reverse [] (fun x hx => h9 x (List.mem_reverse.1 hx))
      rw [List.append_nil] at this
      rw [this]
      simp [incR]
    · by_cases hc : c = 48
      · subst hc
        rw [trimL, if_pos rfl] at ht
        have hr : r = [] := by
          cases r with
          | nil => rfl
          | cons d r' =>
            exfalso
            have h1 := trim_parts (d :: r')
            have h2 : (trimL (d :: r')).length = (d :: r').length + 1 := by rw [ht]; rfl
            have := trimL_le (d :: r')
            rcases h1 with ⟨n, c', r'', h, hc', ht'⟩ | ⟨h, ht'⟩
            · rw [ht'] at h2
              have : (d :: r').length = n + (c' :: r'').length := by rw [h]; simp
              omega
            · rw [ht'] at h2
              simp at h2
        subst hr
        exact ⟨49, [], by decide, by decide⟩
      · exact incL_head c r hd hc h9
theorem next_num {l : List UInt8} (h : numB l = true) : numB (nextL l) = true ∧ nextL l ≠ [] := by
  have hd := numB_allD h
  have ht := numB_trim h
  have hv := nextL_val l hd.1
  have e : nextL l = incL l := by unfold nextL; rw [if_pos (run_of_allD l hd.1), ht]
  obtain ⟨c, r, hc, hne⟩ := inc_head l hd.1 hd.2 ht
  have hall := hv.2
  rw [e, hc] at hall ⊢
  refine ⟨?_, by simp⟩
  have hrun := run_of_allD (c :: r) hall
  unfold numB zeroB digB
  rw [hrun]
  have : (some c == some (48 : UInt8)) = false := by simpa using hne
  simp [this]
theorem numB_0 : numB [48] = true := by decide

theorem len_rais (x : SemL) (k : Int) (hk : k = 0 ∨ k = 1 ∨ k = 2) (h : lenS x ≤ 1048576) (hw : x.maj.length + x.min.length + x.pat.length ≤ 50) : wrap64 (lenS (rais x k) : Int) ≤ 64 := by
  have n1 := nextL_len x.maj
  have n2 := nextL_len x.min
  have n3 := nextL_len x.pat
  have : lenS (rais x k) ≤ 64 := by
    rcases hk with rfl | rfl | rfl
    · have e : rais x 0 = ⟨nextL x.maj, [48], [48], [], []⟩ := by unfold rais; simp
      rw [e]; simp only [lenS, lenI, List.length_cons, List.length_nil]; omega
    · have e : rais x 1 = ⟨x.maj, nextL x.min, [48], [], []⟩ := by unfold rais; simp
      rw [e]; simp only [lenS, lenI, List.length_cons, List.length_nil]; omega
    · have e : rais x 2 = ⟨x.maj, x.min, nextL x.pat, [], []⟩ := by unfold rais; simp
      rw [e]; simp only [lenS, lenI]; omega
  rw [wrap_id _ (by omega)]
  omega

theorem next_none (x : SemL) (k : Int) (hk : k = 0 ∨ k = 1 ∨ k = 2) (h : lenS x ≤ 1048576) (hf : fitW x = true) (hn : fitW (rais x k) = false) : 50 < x.maj.length + x.min.length + x.pat.length := by
  rcases Nat.lt_or_ge 50 (x.maj.length + x.min.length + x.pat.length) with h1 | h1
  · exact h1
  · exfalso
    obtain ⟨_, m1, m2, m3, _, _⟩ := fit_parts hf
    have hl := len_rais x k hk h h1
    have : fitW (rais x k) = true := by
      rcases hk with rfl | rfl | rfl
      · have e : rais x 0 = ⟨nextL x.maj, [48], [48], [], []⟩ := by unfold rais; simp
        rw [e] at hl ⊢
        exact fit_mk hl (next_num m1).1 numB_0 numB_0 rfl rfl
      · have e : rais x 1 = ⟨x.maj, nextL x.min, [48], [], []⟩ := by unfold rais; simp
        rw [e] at hl ⊢
        exact fit_mk hl m1 (next_num m2).1 numB_0 rfl rfl
      · have e : rais x 2 = ⟨x.maj, x.min, nextL x.pat, [], []⟩ := by unfold rais; simp
        rw [e] at hl ⊢
        exact fit_mk hl m1 m2 (next_num m3).1 rfl rfl
    rw [this] at hn
    cases hn

end Go.Proofs.YtpdlgiioahjhiaaGreat

namespace Go.Proofs.YtpdlgiioahjhiaaGreat
open Go.RowKit

theorem run_stop : ∀ (B C : List UInt8), runL 1 B = B.length → (∀ c, C.head? = some c → isC (c.toNat : Int) 1 = false) → runL 1 (B ++ C) = B.length
  | [], C, _, hC => by
    cases C with
    | nil => rfl
    | cons c r => rw [List.nil_append, runL, if_neg (by rw [hC c rfl]; simp)]; rfl
  | b :: B, C, hB, hC => by
    rw [runL] at hB
    split at hB
    · rename_i hb
      rw [List.cons_append, runL, if_pos hb, run_stop B C (by simpa using hB) hC]; rfl
    · simp at hB
theorem drop_app (A B : List UInt8) : (A ++ B).drop A.length = B := by simp
theorem seg_at (A B C : List UInt8) : seg (A ++ B ++ C) A.length (A.length + B.length) = B := by
  unfold seg
  rw [show A.length + B.length = (A ++ B).length by simp, List.take_left, drop_app]
theorem num_at (A B C : List UInt8) (hB : numB B = true) (hC : ∀ c, C.head? = some c → isC (c.toNat : Int) 1 = false) : numR (A ++ B ++ C) A.length = .ok (A.length + B.length) := by
  have hd := numB_allD hB
  have hr : runL 1 ((A ++ B ++ C).drop A.length) = B.length := by
    rw [List.append_assoc, drop_app, run_stop B C (run_of_allD B hd.1) hC]
  have hz : zeroB B = false := by
    unfold numB at hB
    simp only [Bool.and_eq_true, Bool.not_eq_true'] at hB
    exact hB.2
  have hl : B.length ≠ 0 := fun h => hd.2 (List.length_eq_zero_iff.1 h)
  unfold numR
  rw [hr, if_neg hl, seg_at, hz, if_neg (by simp)]
theorem textL_length (x : SemL) : (textL x).length = lenS x := by
  have hj : ∀ ts : List (List UInt8), ts ≠ [] → (joinL ts).length + 1 = lenI ts := by
    intro ts hn
    cases ts with
    | nil => exact absurd rfl hn
    | cons t r =>
      have hd : ∀ us : List (List UInt8), (dotted us).length = lenI us := by
        intro us
        induction us with
        | nil => rfl
        | cons u v ih => simp only [dotted, List.flatMap_cons, List.length_append, List.length_cons, lenI] at ih ⊢; omega
      simp only [joinL, List.length_append, lenI, hd]
      omega
  have h1 : (if x.pre = [] then ([] : List UInt8) else 45 :: joinL x.pre).length = lenI x.pre := by
    split
    · rename_i h; rw [h]; rfl
    · rename_i h; rw [List.length_cons, hj _ h]
  have h2 : (if x.bld = [] then ([] : List UInt8) else 43 :: joinL x.bld).length = lenI x.bld := by
    split
    · rename_i h; rw [h]; rfl
    · rename_i h; rw [List.length_cons, hj _ h]
  unfold textL lenS
  simp only [List.length_append, List.length_cons, List.length_nil, h1, h2]
  omega
theorem parse_fit {l : List UInt8} {c : Cuts} (h : parseR l = .ok c) : fitW (semOf l c) = true ∧ lenS (semOf l c) ≤ 64 := by
  have ht := parse_text h
  have hl := parse_len h
  have hlen := textL_length (semOf l c)
  rw [ht] at hlen
  obtain ⟨p1, p2, p3, p4, p5⟩ := parse_parts h
  refine ⟨fit_mk ?_ p1 p2 p3 (List.all_eq_true.2 p4) (List.all_eq_true.2 p5), by omega⟩
  rw [len_wrap _ (by omega)]
  omega

end Go.Proofs.YtpdlgiioahjhiaaGreat

namespace Go.Proofs.YtpdlgiioahjhiaaGreat
open Go.RowKit Go.Shelf
set_option linter.unusedVariables false

def semP (l : List UInt8) : SemL := match parseR l with | .ok c => semOf l c | .error _ => semN
def fauP (l : List UInt8) : Int × Nat := match parseR l with | .ok _ => (0, 0) | .error y => y
theorem semP_short (l : List UInt8) : ShortS (semP l) := by
  unfold semP
  cases h : parseR l with
  | ok c => exact parse_short h
  | error y => exact ⟨by simp [semN], by simp [semN], by simp [semN], ⟨by simp [semN], by simp [semN]⟩, ⟨by simp [semN], by simp [semN]⟩⟩
theorem semN_at (n : Nat) (W : World) : SemF n W semZ semN := ⟨_, _, rfl, txt_nil W, txt_nil W, (by rintro a i c h; cases h), (by rintro a i c h; cases h)⟩

end Go.Proofs.YtpdlgiioahjhiaaGreat

namespace Go.Proofs.YtpdlgiioahjhiaaGreat
open Go.RowKit Go.Shelf
set_option linter.unusedVariables false

theorem cap_row {W : World} {base : Nat} {e : TypeId} {size : Nat} {v : Value} {k : Nat} {xs : List Value} (h : W.ownsRow base e size v k xs) : Cap v := by
  rintro a n c rfl
  rcases h.2 with ⟨h1, _⟩ | ⟨g, cap, cur, h1, _, _, h2, _⟩
  · cases h1; exact Nat.le_refl _
  · cases h1; exact h2
theorem cap_nil : Cap (.slice none 0 0) := by
  rintro a n c h; cases h; exact Nat.le_refl _
theorem capS_mk {a b c p q : Value} (hp : Cap p) (hq : Cap q) : CapS (.agg #[a, b, c, p, q]) := by
  rintro a' b' c' p' q' h
  cases h
  exact ⟨hp, hq⟩

theorem Parse_three (PA : ∀ (s : ByteArray) (w : World), s.size ≤ 64 → Calls Tryz.prog 39 #[.string s] w (PPost s w)) (s : ByteArray) (w : World) :
    Calls Tryz.prog 39 #[.string s] w fun e w' => Below w.heap.size w w' ∧ ∃ v, e = .returned (.tuple #[v, .agg #[.int .i64 (fauP s.data.toList).1, .int .i64 ((fauP s.data.toList).2 : Int)]]) ∧ SemF w.heap.size w' v (semP s.data.toList) ∧ CapS v := by
  by_cases hs : s.size ≤ 64
  · refine (PA s w hs).mono ?_
    rintro e w' ⟨hb, h⟩
    refine ⟨hb, ?_⟩
    unfold fauP semP
    cases hp : parseR s.data.toList with
    | error x => rw [hp] at h; exact ⟨_, h, semN_at _ w', capS_mk cap_nil cap_nil⟩
    | ok c =>
      rw [hp] at h
      obtain ⟨vp, vb, he, h1, h2⟩ := h
      refine ⟨_, he, ⟨vp, vb, ?_, txt_of_row h1, txt_of_row h2, fresh_row h1, fresh_row h2⟩, capS_mk (cap_row h1) (cap_row h2)⟩
      simp only [semV, semOf, extract_seg]
  · refine (Parse_long s w hs).mono ?_
    rintro e w' ⟨hb, he⟩
    refine ⟨hb, ?_⟩
    have hp : parseR s.data.toList = .error (12, 64) := by unfold parseR; rw [len_data, if_pos (by omega)]
    unfold fauP semP
    rw [hp]
    exact ⟨_, he, semN_at _ w', capS_mk cap_nil cap_nil⟩

end Go.Proofs.YtpdlgiioahjhiaaGreat
