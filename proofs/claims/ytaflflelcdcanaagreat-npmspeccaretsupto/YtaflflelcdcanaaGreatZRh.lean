/-
  The document's answer: lists and versions that are the same, texts of versions.
-/
import Derived.Test.YtaflflelcdcanaaGreatZRg
import Derived.Test.YtaflflelcdcanaaGreatZPlainR
import Derived.Test.YtaflflelcdcanaaGreatZGa
namespace Go.Proofs.YtaflflelcdcanaaGreat
open Go.RowKit Go.Shelf
set_option linter.unusedVariables false

theorem cat_ofL (a b : List UInt8) : ofL a ++ ofL b = ofL (a ++ b) := by
  apply ba_ext
  rw [ofL_data]
  simp [ofL]

theorem Txt.drewN {W : World} {v : Value} {ts : List (List UInt8)} (h : Txt W v ts) (n : Nat) : Txt (W.drewN n) v ts := h.below (below_drewN _ _ _)

set_option maxHeartbeats 1000000 in
theorem Texts_eq (va vb : Value) (ts : List (List UInt8)) (w : World) (ha : Txt w va ts) (hb : Txt w vb ts) (hs : ts.length ≤ 9223372036854775806) :
    Calls Tryz.prog 23 #[va, vb] w fun e w' => e = .returned (.bool true) ∧ ∃ n, w' = w.drewN n := by
  obtain ⟨a1, c1, rfl, _⟩ := id ha
  obtain ⟨a2, c2, rfl, _⟩ := id hb
  have HA := hide ha
  have HB := hide hb
  clear ha hb
  go_enter Tryz.func23, Tryz.ntmps23
  go_wp2_with fail
  go_loopw [5] (fun i wr => ∃ k n : Nat, k ≤ ts.length ∧ i = .int .i64 k ∧ wr = w.drewN n) (fun i _ => ts.length - (intOf i).toNat)
  case atStart => exact ⟨0, 0, by omega, rfl, rfl⟩
  case round =>
    obtain ⟨k, n, hk, rfl, rfl⟩ := hrel
    by_cases hlt : k < ts.length
    · obtain ⟨b1, o1, rfl, h1⟩ := HA.out.some (by omega)
      obtain ⟨b2, o2, rfl, h2⟩ := HB.out.some (by omega)
      have g1 := h1 k hlt
      have g2 := h2 k hlt
      have hlt' : (k : Int) < (ts.length : Int) := by omega
      have hk0 : (0 : Int) ≤ (k : Int) := by omega
      clear h1 h2
      go_wp2_with fail
      go_quiet (fail)
      go_wp2_with fail
      go_roundw
      case rel => exact ⟨k + 1, n + nq, by omega, by go_num, by first | rfl | simp⟩
      case measure => simp [intOf]; omega
    · go_wp2_with fail
      go_ret
      exact ⟨rfl, n, rfl⟩

set_option maxHeartbeats 1000000 in
theorem Same_eq (va vb : Value) (x : SemL) (w : World) (ha : SemAt w va x) (hb : SemAt w vb x) (sx : ShortS x) :
    Calls Tryz.prog 31 #[va, vb] w fun e w' => e = .returned (.bool true) ∧ Below w.heap.size w w' := by
  obtain ⟨p1, q1, rfl, t1, u1⟩ := ha
  obtain ⟨p2, q2, rfl, t2, u2⟩ := hb
  have T1 := hide (fun W (hW : Below w.heap.size w W) => Texts_eq p1 p2 x.pre W (t1.below hW) (t2.below hW) sx.2.2.2.1.1)
  have T2 := hide (fun W (hW : Below w.heap.size w W) => Texts_eq q1 q2 x.bld W (u1.below hW) (u2.below hW) sx.2.2.2.2.1)
  obtain ⟨a1, c1, rfl, _⟩ := t1
  obtain ⟨a2, c2, rfl, _⟩ := t2
  obtain ⟨a3, c3, rfl, _⟩ := u1
  obtain ⟨a4, c4, rfl, _⟩ := u2
  clear sx
  go_enter Tryz.func31, Tryz.ntmps31
  go_wp2_with fail
  refine (T1.out _ (((Below.refl _ w).alloc (Nat.le_refl _) _).alloc (by simp) _)).mono ?_
  rintro e w1 ⟨rfl, n1, rfl⟩
  go_wp2_with fail
  refine (T2.out _ ((((Below.refl _ w).alloc (Nat.le_refl _) _).alloc (by simp) _).trans (below_drewN _ _ _))).mono ?_
  rintro e w2 ⟨rfl, n2, rfl⟩
  go_wp2_with fail
  go_ret
  exact ⟨rfl, (((Below.refl _ w).alloc (Nat.le_refl _) _).alloc (by simp) _).trans (below_drewN _ _ _)⟩

theorem joinL_len (ts : List (List UInt8)) : (joinL ts).length ≤ lenI ts := by
  cases ts with
  | nil => simp [joinL, lenI]
  | cons t r =>
    have hd : ∀ us : List (List UInt8), (dotted us).length = lenI us := by
      intro us
      induction us with
      | nil => rfl
      | cons u v ih => simp only [dotted, List.flatMap_cons, List.length_append, List.length_cons, lenI] at ih ⊢; omega
    simp only [joinL, List.length_append, lenI, hd]
    omega
theorem lenI_take_le (ts : List (List UInt8)) : ∀ k, lenI (ts.take k) ≤ lenI ts := by
  induction ts with
  | nil => intro k; simp
  | cons t r ih =>
    intro k
    cases k with
    | zero => simp [lenI]
    | succ k => simp only [List.take_succ_cons, lenI]; have := ih k; omega

set_option maxHeartbeats 1000000 in
theorem rjoined_any (v : Value) (ts : List (List UInt8)) (w : World) (hv : Txt w v ts) (hl : lenI ts ≤ 1048576) :
    Calls Tryz.prog 77 #[v] w fun e w' => e = .returned (.string (ofL (joinL ts))) ∧ w' = w := by
  obtain ⟨a1, c1, rfl, _⟩ := id hv
  have HA := hide hv
  clear hv
  have hlen := (lenI_ge ts).1
  go_enter Tryz.func77, Tryz.ntmps77
  go_wp2_with fail
  go_loop [3, 4] (fun x i => ∃ k : Nat, k ≤ ts.length ∧ i = .int .i64 k ∧ x = .string (ofL (joinL (ts.take k)))) (fun _ i => ts.length - (intOf i).toNat)
  case atStart => exact ⟨0, by omega, rfl, rfl⟩
  case round =>
    obtain ⟨k, hk, rfl, rfl⟩ := hrel
    by_cases hlt : k < ts.length
    · obtain ⟨b1, o1, rfl, h1⟩ := HA.out.some (by omega)
      have g1 := h1 k hlt
      have hlt' : (k : Int) < (ts.length : Int) := by omega
      have hk0 : (0 : Int) ≤ (k : Int) := by omega
      have z1 := joinL_len (ts.take k)
      have z2 := lenI_take_le ts (k + 1)
      have z3 := lenI_take ts k hlt
      have hT : ts.take (k + 1) = ts.take k ++ [ts[k]] := by rw [List.take_succ_eq_append_getElem hlt]
      generalize ht : ts[k] = t at *
      clear h1 ht
      have sj := ofL_size (joinL (ts.take k))
      have st := ofL_size t
      have hlz : (joinL (ts.take k)).length ≤ 1048576 := by omega
      have htz : t.length ≤ 1048576 := by omega
      by_cases hk1 : k = 0
      · subst hk1
        have HC : Hid (ofL (joinL []) ++ ofL t = ofL (joinL (ts.take 1))) := by
          show _ = _
          rw [show (1 : Nat) = 0 + 1 from rfl, hT, cat_ofL]; simp [joinL, dotted]
        have sj0 : (ofL (joinL [])).size = 0 := rfl
        rw [Nat.add_zero] at g1
        clear hT z1 z2 z3 sj hlz
        go_wp2_with fail
        go_round
        case rel => exact ⟨1, by omega, rfl, by rw [HC.out]⟩
        case measure => simp [intOf]; omega
      · have hkp : (0 : Int) < (k : Int) := by omega
        have HC : Hid (ofL (joinL (ts.take k) ++ [46]) ++ ofL t = ofL (joinL (ts.take (k + 1)))) := by
          show _ = _
          rw [hT, cat_ofL]
          cases hx : ts.take k with
          | nil => exfalso; have := congrArg List.length hx; rw [List.length_take, List.length_nil] at this; omega
          | cons u r => rw [joinL_snoc]; simp
        have hcat : ofL (joinL (ts.take k)) ++ ⟨#[46]⟩ = ofL (joinL (ts.take k) ++ [46]) := by rw [← cat_ofL]; rfl
        have sj2 : (ofL (joinL (ts.take k) ++ [46])).size = (joinL (ts.take k)).length + 1 := by rw [ofL_size]; simp
        clear hT z1 z2 z3
        go_wp2_with fail
        go_round
        case rel => exact ⟨k + 1, by omega, by go_num, by rw [HC.out]⟩
        case measure => simp [intOf]; omega
    · obtain rfl : k = ts.length := by omega
      rw [List.take_length]
      go_wp2_with fail
      go_ret
      exact ⟨rfl, rfl⟩

theorem cat_step (a b : ByteArray) : ∃ c : ByteArray, a ++ b = c ∧ c.size = a.size + b.size ∧ c.data.toList = a.data.toList ++ b.data.toList :=
  ⟨_, rfl, by simp, by simp⟩
set_option maxHeartbeats 1000000 in
theorem rtext_any (v : Value) (x : SemL) (w : World) (hv : SemAt w v x) (hl : lenS x ≤ 1048576) :
    Calls Tryz.prog 45 #[v] w fun e w' => e = .returned (.string (ofL (textL x))) ∧ Below w.heap.size w w' := by
  obtain ⟨p1, q1, rfl, t1, u1⟩ := hv
  unfold lenS at hl
  have J1 := hide (fun W (hW : Below w.heap.size w W) => rjoined_any p1 x.pre W (t1.below hW) (by omega))
  have J2 := hide (fun W (hW : Below w.heap.size w W) => rjoined_any q1 x.bld W (u1.below hW) (by omega))
  obtain ⟨a1, c1, rfl, _⟩ := t1
  obtain ⟨a2, c2, rfl, _⟩ := u1
  have b0 := (Below.refl w.heap.size w).alloc (Nat.le_refl _) (.cells #[.string (ofL x.maj), .string (ofL x.min), .string (ofL x.pat), .slice a1 x.pre.length c1, .slice a2 x.bld.length c2] 33)
  have l1 := joinL_len x.pre
  have l2 := joinL_len x.bld
  have s1 := ofL_size x.maj
  have s2 := ofL_size x.min
  have s3 := ofL_size x.pat
  have s4 := ofL_size (joinL x.pre)
  have s5 := ofL_size (joinL x.bld)
  have D := hide (show (ofL x.maj).data.toList = x.maj ∧ (ofL x.min).data.toList = x.min ∧ (ofL x.pat).data.toList = x.pat ∧ (ofL (joinL x.pre)).data.toList = joinL x.pre ∧ (ofL (joinL x.bld)).data.toList = joinL x.bld from ⟨ofL_data _, ofL_data _, ofL_data _, ofL_data _, ofL_data _⟩)
  have HT : Hid (textL x = x.maj ++ [46] ++ x.min ++ [46] ++ x.pat ++ (if x.pre = [] then [] else 45 :: joinL x.pre) ++ (if x.bld = [] then [] else 43 :: joinL x.bld)) := rfl
  generalize textL x = T at *
  generalize ofL x.maj = M1 at *
  generalize ofL x.min = M2 at *
  generalize ofL x.pat = M3 at *
  generalize ofL (joinL x.pre) = JP at *
  generalize ofL (joinL x.bld) = JB at *
  obtain ⟨B1, e1, k1, d1⟩ := cat_step M1 ⟨#[46]⟩
  obtain ⟨B2, e2, k2, d2⟩ := cat_step B1 M2
  obtain ⟨B3, e3, k3, d3⟩ := cat_step B2 ⟨#[46]⟩
  obtain ⟨B4, e4, k4, d4⟩ := cat_step B3 M3
  obtain ⟨B5, e5, k5, d5⟩ := cat_step B4 ⟨#[45]⟩
  obtain ⟨B6, e6, k6, d6⟩ := cat_step B5 JP
  obtain ⟨B7, e7, k7, d7⟩ := cat_step B6 ⟨#[43]⟩
  obtain ⟨B8, e8, k8, d8⟩ := cat_step B7 JB
  obtain ⟨C7, f7, g7, h7⟩ := cat_step B4 ⟨#[43]⟩
  obtain ⟨C8, f8, g8, h8⟩ := cat_step C7 JB
  have z46 : (⟨#[46]⟩ : ByteArray).size = 1 := rfl
  have z45 : (⟨#[45]⟩ : ByteArray).size = 1 := rfl
  have z43 : (⟨#[43]⟩ : ByteArray).size = 1 := rfl
  rw [z46] at k1 k3
  rw [z45] at k5
  rw [z43] at k7 g7
  clear z46 z45 z43
  have H4 : Hid (B4.data.toList = x.maj ++ [46] ++ x.min ++ [46] ++ x.pat) := by show _ = _; rw [d4, d3, d2, d1, D.out.1, D.out.2.1, D.out.2.2.1]
  have H6 : Hid (B6.data.toList = B4.data.toList ++ 45 :: joinL x.pre) := by show _ = _; rw [d6, d5, D.out.2.2.2.1]; simp
  have H8 : Hid (B8.data.toList = B6.data.toList ++ 43 :: joinL x.bld) := by show _ = _; rw [d8, d7, D.out.2.2.2.2]; simp
  have I8 : Hid (C8.data.toList = B4.data.toList ++ 43 :: joinL x.bld) := by show _ = _; rw [h8, h7, D.out.2.2.2.2]; simp
  clear d1 d2 d3 d4 d5 d6 d7 d8 h7 h8 D
  have l3 : JP.size ≤ 1048576 := by omega
  have l4 : JB.size ≤ 1048576 := by omega
  by_cases hp : x.pre = [] <;> by_cases hq : x.bld = []
  · have hp0 : x.pre.length ≤ 0 := by rw [hp]; exact Nat.le_refl _
    have hq0 : x.bld.length ≤ 0 := by rw [hq]; exact Nat.le_refl _
    have HX : Hid (B4 = ofL T) := by show _ = _; apply ba_ext; rw [ofL_data, HT.out, H4.out, if_pos hp, if_pos hq]; simp
    clear hp hq HT
    go_enter Tryz.func45, Tryz.ntmps45
    go_wp2_with fail
    go_ret
    exact ⟨ret_s HX.out, b0⟩
  · have hp0 : x.pre.length ≤ 0 := by rw [hp]; exact Nat.le_refl _
    have hq0 : 0 < x.bld.length := List.length_pos_iff.2 hq
    have HX : Hid (C8 = ofL T) := by show _ = _; apply ba_ext; rw [ofL_data, HT.out, I8.out, H4.out, if_pos hp, if_neg hq]; simp
    clear hp hq HT
    go_enter Tryz.func45, Tryz.ntmps45
    go_wp2_with fail
    refine (J2.out _ b0).mono ?_
    rintro e w1 ⟨rfl, hw⟩
    rw [hw]
    clear hw w1
    go_wp2_with fail
    go_ret
    exact ⟨ret_s HX.out, b0⟩
  · have hp0 : 0 < x.pre.length := List.length_pos_iff.2 hp
    have hq0 : x.bld.length ≤ 0 := by rw [hq]; exact Nat.le_refl _
    have HX : Hid (B6 = ofL T) := by show _ = _; apply ba_ext; rw [ofL_data, HT.out, H6.out, H4.out, if_neg hp, if_pos hq]; simp
    clear hp hq HT
    go_enter Tryz.func45, Tryz.ntmps45
    go_wp2_with fail
    refine (J1.out _ b0).mono ?_
    rintro e w1 ⟨rfl, hw⟩
    rw [hw]
    clear hw w1
    go_wp2_with fail
    go_ret
    exact ⟨ret_s HX.out, b0⟩
  · have hp0 : 0 < x.pre.length := List.length_pos_iff.2 hp
    have hq0 : 0 < x.bld.length := List.length_pos_iff.2 hq
    have HX : Hid (B8 = ofL T) := by show _ = _; apply ba_ext; rw [ofL_data, HT.out, H8.out, H6.out, H4.out, if_neg hp, if_neg hq]
    clear hp hq HT
    go_enter Tryz.func45, Tryz.ntmps45
    go_wp2_with fail
    refine (J1.out _ b0).mono ?_
    rintro e w1 ⟨rfl, hw⟩
    rw [hw]
    clear hw w1
    go_wp2_with fail
    refine (J2.out _ b0).mono ?_
    rintro e w1 ⟨rfl, hw⟩
    rw [hw]
    clear hw w1
    go_wp2_with fail
    go_ret
    exact ⟨ret_s HX.out, b0⟩

end Go.Proofs.YtaflflelcdcanaaGreat
