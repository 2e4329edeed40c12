/-
  Walks: the text of a version of releases alone, by the document.
-/
import Derived.Test.YtagnikhkmaplpaaGreatQb
import Derived.Test.YtagnikhkmaplpaaGreatQd
import Derived.Test.YtagnikhkmaplpaaGreatPu
namespace Go.Proofs.YtagnikhkmaplpaaGreat
open Go.RowKit Go.Shelf
set_option linter.unusedVariables false

theorem cat_LL (a b : List UInt8) : ofL a ++ ofL b = ofL (a ++ b) := by
  obtain ⟨c, e, s, d⟩ := cat_step (ofL a) (ofL b)
  rw [e]
  apply ba_ext
  rw [d, ofL_data, ofL_data, ofL_data]
theorem lenI_upto (ts : List (List UInt8)) : ∀ k, lenI (ts.take k) ≤ lenI ts := by
  induction ts with
  | nil => intro k; simp
  | cons t r ih =>
    intro k
    cases k with
    | zero => simp [lenI]
    | succ k => simp only [List.take_succ_cons, lenI]; have := ih k; omega

set_option maxRecDepth 100000 in
set_option maxHeartbeats 4000000 in
theorem Rraw_zero (ep : List UInt8) (rel : List (List UInt8)) (n m k : List UInt8) (r1 q1 : Option Addr) (c1 d1 : Nat) (w : World) (rr : Txt w (.slice r1 rel.length c1) rel) (hl : ep.length + lenI rel ≤ 1048576) (he : ep = [48]) :
    Calls Tryz.prog 34 #[.agg #[.string (ofL ep), .slice r1 rel.length c1, .int .u8 0, .string (ofL n), .bool false, .string (ofL m), .bool false, .string (ofL k), .slice q1 0 d1]] w fun e w' => e = .returned (.string (ofL (baseL ep rel))) ∧ Below w.heap.size w w' := by
  have S0 : TB w ⟨ep, rel, 0, n, false, m, false, k, []⟩ r1 q1 c1 d1 (w.alloc (.cells #[.string (ofL ep), .slice r1 rel.length c1, .int .u8 0, .string (ofL n), .bool false, .string (ofL m), .bool false, .string (ofL k), .slice q1 0 d1] 24)) := TB.start (x := ⟨ep, rel, 0, n, false, m, false, k, []⟩) rr ⟨q1, d1, rfl, .inl rfl⟩
  have hlen := (lenI_ge rel).1
  have e48 : ((ofL ep).toList == [48]) = true := eq48' ep true (by rw [he]; rfl)
  have HP0 : Hid ((⟨#[]⟩ : ByteArray) = ofL (([] : List UInt8) ++ joinL (rel.take 0))) := rfl
  have HQ : Hid (([] : List UInt8) ++ joinL rel = baseL ep rel) := by show _ = _; unfold baseL; rw [if_pos he]
  clear he
  clear rr
  obtain ⟨s0, s1, s2, s3, s4, s5, s6, s7, s8⟩ := S0.seen
  dsimp only at s0 s1 s2 s3 s4 s5 s6 s7 s8
  rw [List.length_nil] at s8
  have HA := hide S0.rr
  have HS := hide S0.bel
  clear S0
  go_enter Tryz.func34, Tryz.ntmps34
  go_wp2_with fail
  generalize w.alloc (.cells #[.string (ofL ep), .slice r1 rel.length c1, .int .u8 0, .string (ofL n), .bool false, .string (ofL m), .bool false, .string (ofL k), .slice q1 0 d1] 24) = W0 at *
  go_loop [3, 4] (fun x i => ∃ j : Nat, j ≤ rel.length ∧ i = .int .i64 j ∧ x = .string (ofL (([] : List UInt8) ++ joinL (rel.take j)))) (fun _ i => rel.length - (intOf i).toNat)
  case atStart => exact ⟨0, by omega, rfl, by rw [HP0.out]⟩
  case round =>
    obtain ⟨j, hj, rfl, rfl⟩ := hrel
    by_cases hlt : j < rel.length
    · obtain ⟨b1, o1, rfl, h1⟩ := HA.out.some (by show 0 < rel.length; omega)
      have g1 := h1 j hlt
      have hlt' : (j : Int) < (rel.length : Int) := by omega
      have hk0 : (0 : Int) ≤ (j : Int) := by omega
      have z1 := joinL_len (rel.take j)
      have z2 := lenI_upto rel (j + 1)
      have z3 := lenI_take rel j hlt
      have hT : rel.take (j + 1) = rel.take j ++ [rel[j]] := by rw [List.take_succ_eq_append_getElem hlt]
      generalize ht : rel[j] = t at *
      clear h1 ht
      have st := ofL_size t
      have htz : t.length ≤ 1048576 := by omega
      have sj : (ofL (([] : List UInt8) ++ joinL (rel.take j))).size ≤ 1048577 := by rw [ofL_size, List.length_append]; try simp only [List.length_nil]; omega
      have HC : Hid (∀ (h : j ≠ 0), ofL ((([] : List UInt8) ++ joinL (rel.take j)) ++ [46]) ++ ofL t = ofL (([] : List UInt8) ++ joinL (rel.take (j + 1)))) := by
        show ∀ (h : j ≠ 0), _ = _
        intro h
        rw [hT, cat_LL]
        cases hx : rel.take j with
        | nil => exfalso; have := congrArg List.length hx; rw [List.length_take, List.length_nil] at this; omega
        | cons u r => rw [joinL_snoc]; simp
      have HD : Hid (j = 0 → ofL (([] : List UInt8) ++ joinL (rel.take j)) ++ ofL t = ofL (([] : List UInt8) ++ joinL (rel.take (j + 1)))) := by
        show j = 0 → _ = _
        rintro rfl
        rw [hT, cat_LL]
        simp [joinL, dotted]
      have hcat : ofL (([] : List UInt8) ++ joinL (rel.take j)) ++ ⟨#[46]⟩ = ofL ((([] : List UInt8) ++ joinL (rel.take j)) ++ [46]) := by rw [← cat_LL]; rfl
      have sj2 : (ofL ((([] : List UInt8) ++ joinL (rel.take j)) ++ [46])).size ≤ 1048578 := by rw [ofL_size, List.length_append]; rw [ofL_size] at sj; simp only [List.length_cons, List.length_nil]; omega
      clear hT z1 z2 z3
      generalize ofL ((([] : List UInt8) ++ joinL (rel.take j)) ++ [46]) = X2 at *
      generalize ofL (([] : List UInt8) ++ joinL (rel.take j)) = X1 at *
      by_cases hk1 : j = 0
      · have HE := hide (HD.out hk1)
        subst hk1
        rw [Nat.add_zero] at g1
        go_wp2_with fail
        go_round
        case rel => exact ⟨1, by omega, rfl, by rw [HE.out]⟩
        case measure => simp [intOf]; omega
      · have hkp : (0 : Int) < (j : Int) := by omega
        have HE := hide (HC.out hk1)
        go_wp2_with fail
        go_round
        case rel => exact ⟨j + 1, by omega, by go_num, by rw [HE.out]⟩
        case measure => simp [intOf]; omega
    · obtain rfl : j = rel.length := by omega
      have hlt' : ¬ (rel.length : Int) < (rel.length : Int) := by omega
      rw [List.take_length]
      have HB : Hid (ofL (([] : List UInt8) ++ joinL rel) = ofL (baseL ep rel)) := by show _ = _; rw [HQ.out]
      generalize ofL (([] : List UInt8) ++ joinL rel) = X1 at *
      go_wp2_with fail
      go_loop [3, 5] (fun x i => i = .int .i64 0 ∧ x = .string X1) (fun _ _ => 0)
      case atStart => exact ⟨rfl, rfl⟩
      case round =>
        obtain ⟨rfl, rfl⟩ := hrel
        go_wp2_with fail
        go_ret
        exact ⟨ret_s HB.out, HS.out⟩
set_option maxRecDepth 100000 in
set_option maxHeartbeats 4000000 in
theorem Rraw_epo (ep : List UInt8) (rel : List (List UInt8)) (n m k : List UInt8) (r1 q1 : Option Addr) (c1 d1 : Nat) (w : World) (rr : Txt w (.slice r1 rel.length c1) rel) (hl : ep.length + lenI rel ≤ 1048576) (he : ep ≠ [48]) :
    Calls Tryz.prog 34 #[.agg #[.string (ofL ep), .slice r1 rel.length c1, .int .u8 0, .string (ofL n), .bool false, .string (ofL m), .bool false, .string (ofL k), .slice q1 0 d1]] w fun e w' => e = .returned (.string (ofL (baseL ep rel))) ∧ Below w.heap.size w w' := by
  have S0 : TB w ⟨ep, rel, 0, n, false, m, false, k, []⟩ r1 q1 c1 d1 (w.alloc (.cells #[.string (ofL ep), .slice r1 rel.length c1, .int .u8 0, .string (ofL n), .bool false, .string (ofL m), .bool false, .string (ofL k), .slice q1 0 d1] 24)) := TB.start (x := ⟨ep, rel, 0, n, false, m, false, k, []⟩) rr ⟨q1, d1, rfl, .inl rfl⟩
  have hlen := (lenI_ge rel).1
  have e48 : ((ofL ep).toList == [48]) = false := eq48' ep false (by simpa using he)
  have HQ : Hid ((ep ++ [33]) ++ joinL rel = baseL ep rel) := by show _ = _; unfold baseL; rw [if_neg he]
  have hc33 : ofL ep ++ ⟨#[33]⟩ = ofL (ep ++ [33]) := by rw [← cat_LL]; rfl
  have HP0 : Hid (ofL (ep ++ [33]) = ofL ((ep ++ [33]) ++ joinL (rel.take 0))) := by show _ = _; simp [joinL]
  have se := ofL_size ep
  have le : ep.length ≤ 1048576 := by omega
  clear he
  clear rr
  obtain ⟨s0, s1, s2, s3, s4, s5, s6, s7, s8⟩ := S0.seen
  dsimp only at s0 s1 s2 s3 s4 s5 s6 s7 s8
  rw [List.length_nil] at s8
  have HA := hide S0.rr
  have HS := hide S0.bel
  clear S0
  go_enter Tryz.func34, Tryz.ntmps34
  go_wp2_with fail
  generalize w.alloc (.cells #[.string (ofL ep), .slice r1 rel.length c1, .int .u8 0, .string (ofL n), .bool false, .string (ofL m), .bool false, .string (ofL k), .slice q1 0 d1] 24) = W0 at *
  go_loop [3, 4] (fun x i => ∃ j : Nat, j ≤ rel.length ∧ i = .int .i64 j ∧ x = .string (ofL ((ep ++ [33]) ++ joinL (rel.take j)))) (fun _ i => rel.length - (intOf i).toNat)
  case atStart => exact ⟨0, by omega, rfl, by rw [HP0.out]⟩
  case round =>
    obtain ⟨j, hj, rfl, rfl⟩ := hrel
    by_cases hlt : j < rel.length
    · obtain ⟨b1, o1, rfl, h1⟩ := HA.out.some (by show 0 < rel.length; omega)
      have g1 := h1 j hlt
      have hlt' : (j : Int) < (rel.length : Int) := by omega
      have hk0 : (0 : Int) ≤ (j : Int) := by omega
      have z1 := joinL_len (rel.take j)
      have z2 := lenI_upto rel (j + 1)
      have z3 := lenI_take rel j hlt
      have hT : rel.take (j + 1) = rel.take j ++ [rel[j]] := by rw [List.take_succ_eq_append_getElem hlt]
      generalize ht : rel[j] = t at *
      clear h1 ht
      have st := ofL_size t
      have htz : t.length ≤ 1048576 := by omega
      have sj : (ofL ((ep ++ [33]) ++ joinL (rel.take j))).size ≤ 1048577 := by rw [ofL_size, List.length_append]; try simp only [List.length_nil, List.length_append, List.length_cons]; omega
      have HC : Hid (∀ (h : j ≠ 0), ofL (((ep ++ [33]) ++ joinL (rel.take j)) ++ [46]) ++ ofL t = ofL ((ep ++ [33]) ++ joinL (rel.take (j + 1)))) := by
        show ∀ (h : j ≠ 0), _ = _
        intro h
        rw [hT, cat_LL]
        cases hx : rel.take j with
        | nil => exfalso; have := congrArg List.length hx; rw [List.length_take, List.length_nil] at this; omega
        | cons u r => rw [joinL_snoc]; simp
      have HD : Hid (j = 0 → ofL ((ep ++ [33]) ++ joinL (rel.take j)) ++ ofL t = ofL ((ep ++ [33]) ++ joinL (rel.take (j + 1)))) := by
        show j = 0 → _ = _
        rintro rfl
        rw [hT, cat_LL]
        simp [joinL, dotted]
      have hcat : ofL ((ep ++ [33]) ++ joinL (rel.take j)) ++ ⟨#[46]⟩ = ofL (((ep ++ [33]) ++ joinL (rel.take j)) ++ [46]) := by rw [← cat_LL]; rfl
      have sj2 : (ofL (((ep ++ [33]) ++ joinL (rel.take j)) ++ [46])).size ≤ 1048578 := by rw [ofL_size, List.length_append]; rw [ofL_size] at sj; simp only [List.length_cons, List.length_nil]; omega
      clear hT z1 z2 z3
      generalize ofL (((ep ++ [33]) ++ joinL (rel.take j)) ++ [46]) = X2 at *
      generalize ofL ((ep ++ [33]) ++ joinL (rel.take j)) = X1 at *
      by_cases hk1 : j = 0
      · have HE := hide (HD.out hk1)
        subst hk1
        rw [Nat.add_zero] at g1
        go_wp2_with fail
        go_round
        case rel => exact ⟨1, by omega, rfl, by rw [HE.out]⟩
        case measure => simp [intOf]; omega
      · have hkp : (0 : Int) < (j : Int) := by omega
        have HE := hide (HC.out hk1)
        go_wp2_with fail
        go_round
        case rel => exact ⟨j + 1, by omega, by go_num, by rw [HE.out]⟩
        case measure => simp [intOf]; omega
    · obtain rfl : j = rel.length := by omega
      have hlt' : ¬ (rel.length : Int) < (rel.length : Int) := by omega
      rw [List.take_length]
      have HB : Hid (ofL ((ep ++ [33]) ++ joinL rel) = ofL (baseL ep rel)) := by show _ = _; rw [HQ.out]
      generalize ofL ((ep ++ [33]) ++ joinL rel) = X1 at *
      go_wp2_with fail
      go_loop [3, 5] (fun x i => i = .int .i64 0 ∧ x = .string X1) (fun _ _ => 0)
      case atStart => exact ⟨rfl, rfl⟩
      case round =>
        obtain ⟨rfl, rfl⟩ := hrel
        go_wp2_with fail
        go_ret
        exact ⟨ret_s HB.out, HS.out⟩
theorem Rraw_rel (ep : List UInt8) (rel : List (List UInt8)) (n m k : List UInt8) (r1 q1 : Option Addr) (c1 d1 : Nat) (w : World) (rr : Txt w (.slice r1 rel.length c1) rel) (hl : ep.length + lenI rel ≤ 1048576) :
    Calls Tryz.prog 34 #[.agg #[.string (ofL ep), .slice r1 rel.length c1, .int .u8 0, .string (ofL n), .bool false, .string (ofL m), .bool false, .string (ofL k), .slice q1 0 d1]] w fun e w' => e = .returned (.string (ofL (baseL ep rel))) ∧ Below w.heap.size w w' := by
  by_cases he : ep = [48]
  · exact Rraw_zero ep rel n m k r1 q1 c1 d1 w rr hl he
  · exact Rraw_epo ep rel n m k r1 q1 c1 d1 w rr hl he

set_option maxRecDepth 100000 in
set_option maxHeartbeats 2000000 in
theorem RText_rel (ep : List UInt8) (rel : List (List UInt8)) (n m k : List UInt8) (r1 q1 : Option Addr) (c1 d1 : Nat) (w : World) (rr : Txt w (.slice r1 rel.length c1) rel) (hl : ep.length + lenI rel ≤ 1048576) (hx : MidP ⟨ep, rel, 0, n, false, m, false, k, []⟩) (hf : fitR ⟨ep, rel, 0, n, false, m, false, k, []⟩ = true) :
    Calls Tryz.prog 17 #[.agg #[.string (ofL ep), .slice r1 rel.length c1, .int .u8 0, .string (ofL n), .bool false, .string (ofL m), .bool false, .string (ofL k), .slice q1 0 d1]] w fun e w' => e = .returned (.string (ofL (baseL ep rel))) ∧ Below w.heap.size w w' := by
  have S0 : TB w ⟨ep, rel, 0, n, false, m, false, k, []⟩ r1 q1 c1 d1 (w.alloc (.cells #[.string (ofL ep), .slice r1 rel.length c1, .int .u8 0, .string (ofL n), .bool false, .string (ofL m), .bool false, .string (ofL k), .slice q1 0 d1] 24)) := TB.start (x := ⟨ep, rel, 0, n, false, m, false, k, []⟩) rr ⟨q1, d1, rfl, .inl rfl⟩
  have FT := fun (W : World) (hW : TB w ⟨ep, rel, 0, n, false, m, false, k, []⟩ r1 q1 c1 d1 W) => RFit_any ⟨ep, rel, 0, n, false, m, false, k, []⟩ r1 q1 c1 d1 W hW.rr hW.ll hx
  rw [hf] at FT
  dsimp only at FT
  simp only [List.length_nil] at FT
  have RW := fun (W : World) (hW : TB w ⟨ep, rel, 0, n, false, m, false, k, []⟩ r1 q1 c1 d1 W) => Rraw_rel ep rel n m k r1 q1 c1 d1 W hW.rr hl
  have FT := hide FT
  have RW := hide RW
  clear rr hf hx hl
  obtain ⟨s0, s1, s2, s3, s4, s5, s6, s7, s8⟩ := S0.seen
  dsimp only at s0 s1 s2 s3 s4 s5 s6 s7 s8
  rw [List.length_nil] at s8
  have HS := hide S0
  clear S0
  go_enter Tryz.func17, Tryz.ntmps17
  go_wp2_with fail
  generalize w.alloc (.cells #[.string (ofL ep), .slice r1 rel.length c1, .int .u8 0, .string (ofL n), .bool false, .string (ofL m), .bool false, .string (ofL k), .slice q1 0 d1] 24) = W0 at *
  refine (FT.out _ HS.out).mono ?_
  rintro e w2 ⟨rfl, b2⟩
  have S2 := HS.out.next b2
  clear s0 s1 s2 s3 s4 s5 s6 s7 s8
  obtain ⟨s0, s1, s2, s3, s4, s5, s6, s7, s8⟩ := S2.seen
  dsimp only at s0 s1 s2 s3 s4 s5 s6 s7 s8
  rw [List.length_nil] at s8
  have H2 := hide S2
  clear S2
  go_wp2_with fail
  refine (RW.out _ H2.out).mono ?_
  rintro e w3 ⟨rfl, b3⟩
  go_wp2_with fail
  go_ret
  exact ⟨rfl, (H2.out.next b3).bel⟩

end Go.Proofs.YtagnikhkmaplpaaGreat
