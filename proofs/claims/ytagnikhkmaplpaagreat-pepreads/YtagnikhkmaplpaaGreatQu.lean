/-
  Walks: the texts of versions by the document.
-/
import Derived.Test.YtagnikhkmaplpaaGreatQq
namespace Go.Proofs.YtagnikhkmaplpaaGreat
open Go.RowKit Go.Shelf
set_option linter.unusedVariables false

set_option maxRecDepth 100000 in
set_option maxHeartbeats 8000000 in
theorem Rraw_z0 (ep : List UInt8) (rel : List (List UInt8)) (n : List UInt8) (b : Bool) (m : List UInt8) (d : Bool) (k : List UInt8) (loc : List (List UInt8)) (r1 q1 : Option Addr) (c1 d1 : Nat) (w : World) (rr : Txt w (.slice r1 rel.length c1) rel) (ll : Txt w (.slice q1 loc.length d1) loc) (hl : ep.length + lenI rel + n.length + m.length + k.length + lenI loc ≤ 1048576) (he : ep = [48]) :
    Calls Tryz.prog 34 #[.agg #[.string (ofL ep), .slice r1 rel.length c1, .int .u8 0, .string (ofL n), .bool b, .string (ofL m), .bool d, .string (ofL k), .slice q1 loc.length d1]] w fun e w' => e = .returned (.string (ofL (textP ⟨ep, rel, 0, n, b, m, d, k, loc⟩))) ∧ Below w.heap.size w w' := by
  have S0 : TB w ⟨ep, rel, 0, n, b, m, d, k, loc⟩ r1 q1 c1 d1 (w.alloc (.cells #[.string (ofL ep), .slice r1 rel.length c1, .int .u8 0, .string (ofL n), .bool b, .string (ofL m), .bool d, .string (ofL k), .slice q1 loc.length d1] 24)) := TB.start (x := ⟨ep, rel, 0, n, b, m, d, k, loc⟩) rr ll
  have hlen := (lenI_ge rel).1
  have hlen2 := (lenI_ge loc).1
  have x1 := ofL_size n
  have x2 := ofL_size m
  have x3 := ofL_size k
  have e48 : ((ofL ep).toList == [48]) = true := eq48' ep true (by rw [he]; rfl)
  have HP0 : Hid ((⟨#[]⟩ : ByteArray) = ofL (([] : List UInt8) ++ joinL (rel.take 0))) := rfl
  have HQ0 : Hid (([] : List UInt8) ++ joinL rel = baseL ep rel) := by show _ = _; unfold baseL; rw [if_pos he]
  clear rr ll he
  obtain ⟨s0, s1, s2, s3, s4, s5, s6, s7, s8⟩ := S0.seen
  dsimp only at s0 s1 s2 s3 s4 s5 s6 s7 s8
  have HS := hide S0
  clear S0
  go_enter Tryz.func34, Tryz.ntmps34
  go_wp2_with fail
  generalize w.alloc (.cells #[.string (ofL ep), .slice r1 rel.length c1, .int .u8 0, .string (ofL n), .bool b, .string (ofL m), .bool d, .string (ofL k), .slice q1 loc.length d1] 24) = W0 at *
  go_loop [3, 4] (fun x i => ∃ j : Nat, j ≤ rel.length ∧ i = .int .i64 j ∧ x = .string (ofL (([] : List UInt8) ++ joinL (rel.take j)))) (fun _ i => rel.length - (intOf i).toNat)
  case atStart => exact ⟨0, by omega, rfl, by rw [HP0.out]⟩
  case round =>
    obtain ⟨j, hj, rfl, rfl⟩ := hrel
    by_cases hlt : j < rel.length
    · obtain ⟨b1, o1, rfl, h1⟩ := HS.out.rr.some (by show 0 < rel.length; omega)
      have g1 := h1 j hlt
      have hlt' : (j : Int) < (rel.length : Int) := by omega
      have hk0 : (0 : Int) ≤ (j : Int) := by omega
      have z1 := joinL_len (rel.take j)
      have z2 := lenI_upto rel (j + 1)
      have z3 := lenI_take rel j hlt
      have hT : rel.take (j + 1) = rel.take j ++ [rel[j]] := by rw [List.take_succ_eq_append_getElem hlt]
      dsimp only at g1
      generalize ht : rel[j] = t at *
      clear h1 ht
      have st := ofL_size t
      have htz : t.length ≤ 1048576 := by omega
      have sj : (ofL (([] : List UInt8) ++ joinL (rel.take j))).size ≤ 1048577 := by rw [ofL_size, List.length_append]; try simp only [List.length_nil]; omega
      have HC : Hid (∀ (h : j ≠ 0), ofL ((([] : List UInt8) ++ joinL (rel.take j)) ++ [46]) ++ ofL t = ofL (([] : List UInt8) ++ joinL (rel.take (j + 1)))) := by
        show ∀ (h : j ≠ 0), _ = _
        intro h
        rw [hT, cat_LL]
        cases hx : rel.take j with
        | nil => exfalso; have := congrArg List.length hx; rw [List.length_take, List.length_nil] at this; omega
        | cons u r => rw [joinL_snoc]; simp
      have HD : Hid (j = 0 → ofL (([] : List UInt8) ++ joinL (rel.take j)) ++ ofL t = ofL (([] : List UInt8) ++ joinL (rel.take (j + 1)))) := by
        show j = 0 → _ = _
        rintro rfl
        rw [hT, cat_LL]
        simp [joinL, dotted]
      have hcat : ofL (([] : List UInt8) ++ joinL (rel.take j)) ++ ⟨#[46]⟩ = ofL ((([] : List UInt8) ++ joinL (rel.take j)) ++ [46]) := by rw [← cat_LL]; rfl
      have sj2 : (ofL ((([] : List UInt8) ++ joinL (rel.take j)) ++ [46])).size ≤ 1048578 := by rw [ofL_size, List.length_append]; rw [ofL_size] at sj; simp only [List.length_cons, List.length_nil]; omega
      clear hT z1 z2 z3
      generalize ofL ((([] : List UInt8) ++ joinL (rel.take j)) ++ [46]) = X2 at *
      generalize ofL (([] : List UInt8) ++ joinL (rel.take j)) = X1 at *
      by_cases hk1 : j = 0
      · have HE := hide (HD.out hk1)
        subst hk1
        rw [Nat.add_zero] at g1
        go_wp2_with fail
        go_round
        case rel => exact ⟨1, by omega, rfl, by rw [HE.out]⟩
        case measure => simp [intOf]; omega
      · have hkp : (0 : Int) < (j : Int) := by omega
        have HE := hide (HC.out hk1)
        go_wp2_with fail
        go_round
        case rel => exact ⟨j + 1, by omega, by go_num, by rw [HE.out]⟩
        case measure => simp [intOf]; omega
    · obtain rfl : j = rel.length := by omega
      have hlt' : ¬ (rel.length : Int) < (rel.length : Int) := by omega
      rw [List.take_length]
      have z1 := joinL_len rel
      have y0 : (ofL (([] : List UInt8) ++ joinL rel)).size ≤ 1048577 := by rw [ofL_size, List.length_append]; try simp only [List.length_nil]; omega
      have D0 : (ofL (([] : List UInt8) ++ joinL rel)).data.toList = baseL ep rel := by rw [ofL_data]; exact HQ0.out
      generalize ofL (([] : List UInt8) ++ joinL rel) = T0 at *
      have H1 := HS
      have HL := hide H1.out.ll
      have HW := hide H1.out.bel
      cases b
      · cases d
        · obtain ⟨Q, HQ⟩ : ∃ Q, Hid (T0 = ofL (Q ++ locQ (loc.take 0)) ∧ Q.length = T0.size ∧ ofL (Q ++ locQ loc) = ofL (textP ⟨ep, rel, 0, n, false, m, false, k, loc⟩)) := by
            refine ⟨T0.data.toList, ?_, ?_, ?_⟩
            · rw [List.take_zero]; show T0 = ofL (T0.data.toList ++ []); rw [List.append_nil, ofL_self]
            · exact len_data _
            · rw [D0]
              unfold textP tailT preT preW postT devT locT locQ
              simp
          have qL := HQ.out.2.1
          have HF := hide HQ.out.2.2
          have HQ := hide HQ.out.1
          clear D0
          go_wp2_with fail
          go_loop [3, 5] (fun y i => ∃ j : Nat, j ≤ loc.length ∧ i = .int .i64 j ∧ y = .string (ofL (Q ++ locQ (loc.take j)))) (fun _ i => loc.length - (intOf i).toNat)
          case atStart => exact ⟨0, by omega, rfl, by rw [HQ.out]⟩
          case round =>
            obtain ⟨j, hj, rfl, rfl⟩ := hrel
            by_cases hlj : j < loc.length
            · have hlj' : (j : Int) < (loc.length : Int) := by omega
              have hj0 : (0 : Int) ≤ (j : Int) := by omega
              obtain ⟨b1, o1, rfl, h1⟩ := HL.out.some (by show 0 < loc.length; omega)
              have g1 := h1 j hlj
              clear h1
              have v1 := locQ_len (loc.take j)
              have v2 := lenI_upto loc j
              have v3 := (lenI_ge loc).2 _ (List.getElem_mem hlj)
              have sj := ofL_size (Q ++ locQ (loc.take j))
              rw [List.length_append] at sj
              by_cases hj1 : j = 0
              · subst hj1
                obtain ⟨M, e1, e2, s1⟩ := loc_0 Q loc[0] loc hlj rfl
                rw [List.length_append] at s1
                have sM : M.size ≤ 10000000 := by omega
                have sX : (ofL (Q ++ locQ (loc.take 0))).size ≤ 10000000 := by omega
                have st := ofL_size loc[0]
                have HE := hide e2
                rw [Nat.add_zero] at g1
                generalize loc[0] = t at *
                generalize ofL (Q ++ locQ (loc.take 0)) = X1 at *
                generalize (Q ++ locQ (loc.take 0)).length = lX at *
                clear sj s1 v1 v2 e2
                go_wp2_with fail
                go_round
                case rel => exact ⟨1, by omega, rfl, by rw [HE.out]⟩
                case measure => simp [intOf]; omega
              · obtain ⟨M, e1, e2, s1⟩ := loc_n Q loc[j] loc j hlj rfl hj1
                rw [List.length_append] at s1
                have hjb : ((j : Int) == 0) = false := by simp; omega
                have sM : M.size ≤ 10000000 := by omega
                have sX : (ofL (Q ++ locQ (loc.take j))).size ≤ 10000000 := by omega
                have st := ofL_size loc[j]
                have HE := hide e2
                generalize loc[j] = t at *
                generalize ofL (Q ++ locQ (loc.take j)) = X1 at *
                clear sj s1 v1 v2 e2
                go_wp2_with fail
                go_round
                case rel => exact ⟨j + 1, by omega, by go_num, by rw [HE.out]⟩
                case measure => simp [intOf]; omega
            · obtain rfl : j = loc.length := by omega
              have hlj' : ¬ (loc.length : Int) < (loc.length : Int) := by omega
              rw [List.take_length]
              generalize hX : ofL (Q ++ locQ loc) = X1 at *
              have HX := hide hX
              clear hX
              go_wp2_with fail
              go_ret
              exact ⟨ret_s (by first | exact HF.out | (rw [← HX.out]; exact HF.out)), HW.out⟩
        · obtain ⟨a3, T3, e3, f3, s3, g3, w3⟩ := catC T0 ⟨#[46, 100, 101, 118]⟩ k
          have ql3 : (⟨#[46, 100, 101, 118]⟩ : ByteArray).size = 4 := rfl
          have y3 : T3.size ≤ 4348577 := by omega
          have y3' : a3.size ≤ 4348577 := by omega
          clear ql3 s3 g3
          obtain ⟨Q, HQ⟩ : ∃ Q, Hid (T3 = ofL (Q ++ locQ (loc.take 0)) ∧ Q.length = T3.size ∧ ofL (Q ++ locQ loc) = ofL (textP ⟨ep, rel, 0, n, false, m, true, k, loc⟩)) := by
            refine ⟨T3.data.toList, ?_, ?_, ?_⟩
            · rw [List.take_zero]; show T3 = ofL (T3.data.toList ++ []); rw [List.append_nil, ofL_self]
            · exact len_data _
            · rw [w3, D0]
              unfold textP tailT preT preW postT devT locT locQ
              simp
          have qL := HQ.out.2.1
          have HF := hide HQ.out.2.2
          have HQ := hide HQ.out.1
          clear D0 w3
          go_wp2_with fail
          go_loop [3, 5] (fun y i => ∃ j : Nat, j ≤ loc.length ∧ i = .int .i64 j ∧ y = .string (ofL (Q ++ locQ (loc.take j)))) (fun _ i => loc.length - (intOf i).toNat)
          case atStart => exact ⟨0, by omega, rfl, by rw [HQ.out]⟩
          case round =>
            obtain ⟨j, hj, rfl, rfl⟩ := hrel
            by_cases hlj : j < loc.length
            · have hlj' : (j : Int) < (loc.length : Int) := by omega
              have hj0 : (0 : Int) ≤ (j : Int) := by omega
              obtain ⟨b1, o1, rfl, h1⟩ := HL.out.some (by show 0 < loc.length; omega)
              have g1 := h1 j hlj
              clear h1
              have v1 := locQ_len (loc.take j)
              have v2 := lenI_upto loc j
              have v3 := (lenI_ge loc).2 _ (List.getElem_mem hlj)
              have sj := ofL_size (Q ++ locQ (loc.take j))
              rw [List.length_append] at sj
              by_cases hj1 : j = 0
              · subst hj1
                obtain ⟨M, e1, e2, s1⟩ := loc_0 Q loc[0] loc hlj rfl
                rw [List.length_append] at s1
                have sM : M.size ≤ 10000000 := by omega
                have sX : (ofL (Q ++ locQ (loc.take 0))).size ≤ 10000000 := by omega
                have st := ofL_size loc[0]
                have HE := hide e2
                rw [Nat.add_zero] at g1
                generalize loc[0] = t at *
                generalize ofL (Q ++ locQ (loc.take 0)) = X1 at *
                generalize (Q ++ locQ (loc.take 0)).length = lX at *
                clear sj s1 v1 v2 e2
                go_wp2_with fail
                go_round
                case rel => exact ⟨1, by omega, rfl, by rw [HE.out]⟩
                case measure => simp [intOf]; omega
              · obtain ⟨M, e1, e2, s1⟩ := loc_n Q loc[j] loc j hlj rfl hj1
                rw [List.length_append] at s1
                have hjb : ((j : Int) == 0) = false := by simp; omega
                have sM : M.size ≤ 10000000 := by omega
                have sX : (ofL (Q ++ locQ (loc.take j))).size ≤ 10000000 := by omega
                have st := ofL_size loc[j]
                have HE := hide e2
                generalize loc[j] = t at *
                generalize ofL (Q ++ locQ (loc.take j)) = X1 at *
                clear sj s1 v1 v2 e2
                go_wp2_with fail
                go_round
                case rel => exact ⟨j + 1, by omega, by go_num, by rw [HE.out]⟩
                case measure => simp [intOf]; omega
            · obtain rfl : j = loc.length := by omega
              have hlj' : ¬ (loc.length : Int) < (loc.length : Int) := by omega
              rw [List.take_length]
              generalize hX : ofL (Q ++ locQ loc) = X1 at *
              have HX := hide hX
              clear hX
              go_wp2_with fail
              go_ret
              exact ⟨ret_s (by first | exact HF.out | (rw [← HX.out]; exact HF.out)), HW.out⟩
      · cases d
        · obtain ⟨a2, T2, e2, f2, s2, g2, w2⟩ := catC T0 ⟨#[46, 112, 111, 115, 116]⟩ m
          have ql2 : (⟨#[46, 112, 111, 115, 116]⟩ : ByteArray).size = 5 := rfl
          have y2 : T2.size ≤ 3248577 := by omega
          have y2' : a2.size ≤ 3248577 := by omega
          clear ql2 s2 g2
          obtain ⟨Q, HQ⟩ : ∃ Q, Hid (T2 = ofL (Q ++ locQ (loc.take 0)) ∧ Q.length = T2.size ∧ ofL (Q ++ locQ loc) = ofL (textP ⟨ep, rel, 0, n, true, m, false, k, loc⟩)) := by
            refine ⟨T2.data.toList, ?_, ?_, ?_⟩
            · rw [List.take_zero]; show T2 = ofL (T2.data.toList ++ []); rw [List.append_nil, ofL_self]
            · exact len_data _
            · rw [w2, D0]
              unfold textP tailT preT preW postT devT locT locQ
              simp
          have qL := HQ.out.2.1
          have HF := hide HQ.out.2.2
          have HQ := hide HQ.out.1
          clear D0 w2
          go_wp2_with fail
          go_loop [3, 5] (fun y i => ∃ j : Nat, j ≤ loc.length ∧ i = .int .i64 j ∧ y = .string (ofL (Q ++ locQ (loc.take j)))) (fun _ i => loc.length - (intOf i).toNat)
          case atStart => exact ⟨0, by omega, rfl, by rw [HQ.out]⟩
          case round =>
            obtain ⟨j, hj, rfl, rfl⟩ := hrel
            by_cases hlj : j < loc.length
            · have hlj' : (j : Int) < (loc.length : Int) := by omega
              have hj0 : (0 : Int) ≤ (j : Int) := by omega
              obtain ⟨b1, o1, rfl, h1⟩ := HL.out.some (by show 0 < loc.length; omega)
              have g1 := h1 j hlj
              clear h1
              have v1 := locQ_len (loc.take j)
              have v2 := lenI_upto loc j
              have v3 := (lenI_ge loc).2 _ (List.getElem_mem hlj)
              have sj := ofL_size (Q ++ locQ (loc.take j))
              rw [List.length_append] at sj
              by_cases hj1 : j = 0
              · subst hj1
                obtain ⟨M, e1, e2, s1⟩ := loc_0 Q loc[0] loc hlj rfl
                rw [List.length_append] at s1
                have sM : M.size ≤ 10000000 := by omega
                have sX : (ofL (Q ++ locQ (loc.take 0))).size ≤ 10000000 := by omega
                have st := ofL_size loc[0]
                have HE := hide e2
                rw [Nat.add_zero] at g1
                generalize loc[0] = t at *
                generalize ofL (Q ++ locQ (loc.take 0)) = X1 at *
                generalize (Q ++ locQ (loc.take 0)).length = lX at *
                clear sj s1 v1 v2 e2
                go_wp2_with fail
                go_round
                case rel => exact ⟨1, by omega, rfl, by rw [HE.out]⟩
                case measure => simp [intOf]; omega
              · obtain ⟨M, e1, e2, s1⟩ := loc_n Q loc[j] loc j hlj rfl hj1
                rw [List.length_append] at s1
                have hjb : ((j : Int) == 0) = false := by simp; omega
                have sM : M.size ≤ 10000000 := by omega
                have sX : (ofL (Q ++ locQ (loc.take j))).size ≤ 10000000 := by omega
                have st := ofL_size loc[j]
                have HE := hide e2
                generalize loc[j] = t at *
                generalize ofL (Q ++ locQ (loc.take j)) = X1 at *
                clear sj s1 v1 v2 e2
                go_wp2_with fail
                go_round
                case rel => exact ⟨j + 1, by omega, by go_num, by rw [HE.out]⟩
                case measure => simp [intOf]; omega
            · obtain rfl : j = loc.length := by omega
              have hlj' : ¬ (loc.length : Int) < (loc.length : Int) := by omega
              rw [List.take_length]
              generalize hX : ofL (Q ++ locQ loc) = X1 at *
              have HX := hide hX
              clear hX
              go_wp2_with fail
              go_ret
              exact ⟨ret_s (by first | exact HF.out | (rw [← HX.out]; exact HF.out)), HW.out⟩
        · obtain ⟨a2, T2, e2, f2, s2, g2, w2⟩ := catC T0 ⟨#[46, 112, 111, 115, 116]⟩ m
          have ql2 : (⟨#[46, 112, 111, 115, 116]⟩ : ByteArray).size = 5 := rfl
          have y2 : T2.size ≤ 3248577 := by omega
          have y2' : a2.size ≤ 3248577 := by omega
          clear ql2 s2 g2
          obtain ⟨a3, T3, e3, f3, s3, g3, w3⟩ := catC T2 ⟨#[46, 100, 101, 118]⟩ k
          have ql3 : (⟨#[46, 100, 101, 118]⟩ : ByteArray).size = 4 := rfl
          have y3 : T3.size ≤ 4348577 := by omega
          have y3' : a3.size ≤ 4348577 := by omega
          clear ql3 s3 g3
          obtain ⟨Q, HQ⟩ : ∃ Q, Hid (T3 = ofL (Q ++ locQ (loc.take 0)) ∧ Q.length = T3.size ∧ ofL (Q ++ locQ loc) = ofL (textP ⟨ep, rel, 0, n, true, m, true, k, loc⟩)) := by
            refine ⟨T3.data.toList, ?_, ?_, ?_⟩
            · rw [List.take_zero]; show T3 = ofL (T3.data.toList ++ []); rw [List.append_nil, ofL_self]
            · exact len_data _
            · rw [w3, w2, D0]
              unfold textP tailT preT preW postT devT locT locQ
              simp
          have qL := HQ.out.2.1
          have HF := hide HQ.out.2.2
          have HQ := hide HQ.out.1
          clear D0 w2 w3
          go_wp2_with fail
          go_loop [3, 5] (fun y i => ∃ j : Nat, j ≤ loc.length ∧ i = .int .i64 j ∧ y = .string (ofL (Q ++ locQ (loc.take j)))) (fun _ i => loc.length - (intOf i).toNat)
          case atStart => exact ⟨0, by omega, rfl, by rw [HQ.out]⟩
          case round =>
            obtain ⟨j, hj, rfl, rfl⟩ := hrel
            by_cases hlj : j < loc.length
            · have hlj' : (j : Int) < (loc.length : Int) := by omega
              have hj0 : (0 : Int) ≤ (j : Int) := by omega
              obtain ⟨b1, o1, rfl, h1⟩ := HL.out.some (by show 0 < loc.length; omega)
              have g1 := h1 j hlj
              clear h1
              have v1 := locQ_len (loc.take j)
              have v2 := lenI_upto loc j
              have v3 := (lenI_ge loc).2 _ (List.getElem_mem hlj)
              have sj := ofL_size (Q ++ locQ (loc.take j))
              rw [List.length_append] at sj
              by_cases hj1 : j = 0
              · subst hj1
                obtain ⟨M, e1, e2, s1⟩ := loc_0 Q loc[0] loc hlj rfl
                rw [List.length_append] at s1
                have sM : M.size ≤ 10000000 := by omega
                have sX : (ofL (Q ++ locQ (loc.take 0))).size ≤ 10000000 := by omega
                have st := ofL_size loc[0]
                have HE := hide e2
                rw [Nat.add_zero] at g1
                generalize loc[0] = t at *
                generalize ofL (Q ++ locQ (loc.take 0)) = X1 at *
                generalize (Q ++ locQ (loc.take 0)).length = lX at *
                clear sj s1 v1 v2 e2
                go_wp2_with fail
                go_round
                case rel => exact ⟨1, by omega, rfl, by rw [HE.out]⟩
                case measure => simp [intOf]; omega
              · obtain ⟨M, e1, e2, s1⟩ := loc_n Q loc[j] loc j hlj rfl hj1
                rw [List.length_append] at s1
                have hjb : ((j : Int) == 0) = false := by simp; omega
                have sM : M.size ≤ 10000000 := by omega
                have sX : (ofL (Q ++ locQ (loc.take j))).size ≤ 10000000 := by omega
                have st := ofL_size loc[j]
                have HE := hide e2
                generalize loc[j] = t at *
                generalize ofL (Q ++ locQ (loc.take j)) = X1 at *
                clear sj s1 v1 v2 e2
                go_wp2_with fail
                go_round
                case rel => exact ⟨j + 1, by omega, by go_num, by rw [HE.out]⟩
                case measure => simp [intOf]; omega
            · obtain rfl : j = loc.length := by omega
              have hlj' : ¬ (loc.length : Int) < (loc.length : Int) := by omega
              rw [List.take_length]
              generalize hX : ofL (Q ++ locQ loc) = X1 at *
              have HX := hide hX
              clear hX
              go_wp2_with fail
              go_ret
              exact ⟨ret_s (by first | exact HF.out | (rw [← HX.out]; exact HF.out)), HW.out⟩

set_option maxRecDepth 100000 in
set_option maxHeartbeats 8000000 in
theorem Rraw_z97 (ep : List UInt8) (rel : List (List UInt8)) (n : List UInt8) (b : Bool) (m : List UInt8) (d : Bool) (k : List UInt8) (loc : List (List UInt8)) (r1 q1 : Option Addr) (c1 d1 : Nat) (w : World) (rr : Txt w (.slice r1 rel.length c1) rel) (ll : Txt w (.slice q1 loc.length d1) loc) (hl : ep.length + lenI rel + n.length + m.length + k.length + lenI loc ≤ 1048576) (he : ep = [48]) :
    Calls Tryz.prog 34 #[.agg #[.string (ofL ep), .slice r1 rel.length c1, .int .u8 97, .string (ofL n), .bool b, .string (ofL m), .bool d, .string (ofL k), .slice q1 loc.length d1]] w fun e w' => e = .returned (.string (ofL (textP ⟨ep, rel, 97, n, b, m, d, k, loc⟩))) ∧ Below w.heap.size w w' := by
  have S0 : TB w ⟨ep, rel, 97, n, b, m, d, k, loc⟩ r1 q1 c1 d1 (w.alloc (.cells #[.string (ofL ep), .slice r1 rel.length c1, .int .u8 97, .string (ofL n), .bool b, .string (ofL m), .bool d, .string (ofL k), .slice q1 loc.length d1] 24)) := TB.start (x := ⟨ep, rel, 97, n, b, m, d, k, loc⟩) rr ll
  have hlen := (lenI_ge rel).1
  have hlen2 := (lenI_ge loc).1
  have x1 := ofL_size n
  have x2 := ofL_size m
  have x3 := ofL_size k
  have e48 : ((ofL ep).toList == [48]) = true := eq48' ep true (by rw [he]; rfl)
  have HP0 : Hid ((⟨#[]⟩ : ByteArray) = ofL (([] : List UInt8) ++ joinL (rel.take 0))) := rfl
  have HQ0 : Hid (([] : List UInt8) ++ joinL rel = baseL ep rel) := by show _ = _; unfold baseL; rw [if_pos he]
  clear rr ll he
  obtain ⟨s0, s1, s2, s3, s4, s5, s6, s7, s8⟩ := S0.seen
  dsimp only at s0 s1 s2 s3 s4 s5 s6 s7 s8
  have HS := hide S0
  clear S0
  go_enter Tryz.func34, Tryz.ntmps34
  go_wp2_with fail
  generalize w.alloc (.cells #[.string (ofL ep), .slice r1 rel.length c1, .int .u8 97, .string (ofL n), .bool b, .string (ofL m), .bool d, .string (ofL k), .slice q1 loc.length d1] 24) = W0 at *
  go_loop [3, 4] (fun x i => ∃ j : Nat, j ≤ rel.length ∧ i = .int .i64 j ∧ x = .string (ofL (([] : List UInt8) ++ joinL (rel.take j)))) (fun _ i => rel.length - (intOf i).toNat)
  case atStart => exact ⟨0, by omega, rfl, by rw [HP0.out]⟩
  case round =>
    obtain ⟨j, hj, rfl, rfl⟩ := hrel
    by_cases hlt : j < rel.length
    · obtain ⟨b1, o1, rfl, h1⟩ := HS.out.rr.some (by show 0 < rel.length; omega)
      have g1 := h1 j hlt
      have hlt' : (j : Int) < (rel.length : Int) := by omega
      have hk0 : (0 : Int) ≤ (j : Int) := by omega
      have z1 := joinL_len (rel.take j)
      have z2 := lenI_upto rel (j + 1)
      have z3 := lenI_take rel j hlt
      have hT : rel.take (j + 1) = rel.take j ++ [rel[j]] := by rw [List.take_succ_eq_append_getElem hlt]
      dsimp only at g1
      generalize ht : rel[j] = t at *
      clear h1 ht
      have st := ofL_size t
      have htz : t.length ≤ 1048576 := by omega
      have sj : (ofL (([] : List UInt8) ++ joinL (rel.take j))).size ≤ 1048577 := by rw [ofL_size, List.length_append]; try simp only [List.length_nil]; omega
      have HC : Hid (∀ (h : j ≠ 0), ofL ((([] : List UInt8) ++ joinL (rel.take j)) ++ [46]) ++ ofL t = ofL (([] : List UInt8) ++ joinL (rel.take (j + 1)))) := by
        show ∀ (h : j ≠ 0), _ = _
        intro h
        rw [hT, cat_LL]
        cases hx : rel.take j with
        | nil => exfalso; have := congrArg List.length hx; rw [List.length_take, List.length_nil] at this; omega
        | cons u r => rw [joinL_snoc]; simp
      have HD : Hid (j = 0 → ofL (([] : List UInt8) ++ joinL (rel.take j)) ++ ofL t = ofL (([] : List UInt8) ++ joinL (rel.take (j + 1)))) := by
        show j = 0 → _ = _
        rintro rfl
        rw [hT, cat_LL]
        simp [joinL, dotted]
      have hcat : ofL (([] : List UInt8) ++ joinL (rel.take j)) ++ ⟨#[46]⟩ = ofL ((([] : List UInt8) ++ joinL (rel.take j)) ++ [46]) := by rw [← cat_LL]; rfl
      have sj2 : (ofL ((([] : List UInt8) ++ joinL (rel.take j)) ++ [46])).size ≤ 1048578 := by rw [ofL_size, List.length_append]; rw [ofL_size] at sj; simp only [List.length_cons, List.length_nil]; omega
      clear hT z1 z2 z3
      generalize ofL ((([] : List UInt8) ++ joinL (rel.take j)) ++ [46]) = X2 at *
      generalize ofL (([] : List UInt8) ++ joinL (rel.take j)) = X1 at *
      by_cases hk1 : j = 0
      · have HE := hide (HD.out hk1)
        subst hk1
        rw [Nat.add_zero] at g1
        go_wp2_with fail
        go_round
        case rel => exact ⟨1, by omega, rfl, by rw [HE.out]⟩
        case measure => simp [intOf]; omega
      · have hkp : (0 : Int) < (j : Int) := by omega
        have HE := hide (HC.out hk1)
        go_wp2_with fail
        go_round
        case rel => exact ⟨j + 1, by omega, by go_num, by rw [HE.out]⟩
        case measure => simp [intOf]; omega
    · obtain rfl : j = rel.length := by omega
      have hlt' : ¬ (rel.length : Int) < (rel.length : Int) := by omega
      rw [List.take_length]
      have z1 := joinL_len rel
      have y0 : (ofL (([] : List UInt8) ++ joinL rel)).size ≤ 1048577 := by rw [ofL_size, List.length_append]; try simp only [List.length_nil]; omega
      have D0 : (ofL (([] : List UInt8) ++ joinL rel)).data.toList = baseL ep rel := by rw [ofL_data]; exact HQ0.out
      generalize ofL (([] : List UInt8) ++ joinL rel) = T0 at *
      have bb := (Below.refl _ W0).alloc (Nat.le_refl _) (.cells #[.int .u8 97] 5)
      have hy : Bys (W0.alloc (.cells #[.int .u8 97] 5)) W0.heap.size [97] := by
        have e := World.alloc_heap_new W0 (.cells #[.int .u8 97] 5)
        refine ⟨fun i hi => ?_, fun i hi => one_free i e⟩
        match i, hi with
        | 0, _ => exact cell_at 0 e rfl
      have hback := hy.back (P := Tryz.prog) 66 9 5 1 Tryz.underlying66 Tryz.underlying5 Tryz.underlying9
      have hlb : ([97] : List UInt8).length = 1 := rfl
      rw [hlb] at hback
      have H1 := hide (HS.out.next bb)
      obtain ⟨i0, i1, i2, i3, i4, i5, i6, i7, i8⟩ := H1.out.seen
      dsimp only at i0 i1 i2 i3 i4 i5 i6 i7 i8
      have HL := hide H1.out.ll
      have HW := hide H1.out.bel
      cases b
      · cases d
        · obtain ⟨a1, T1, e1, f1, s1, g1, w1⟩ := catC T0 (ofL [97]) n
          have ql1 : ((ofL [97]) : ByteArray).size = 1 := ofL_size _
          have y1 : T1.size ≤ 2148577 := by omega
          have y1' : a1.size ≤ 2148577 := by omega
          clear s1 g1
          obtain ⟨Q, HQ⟩ : ∃ Q, Hid (T1 = ofL (Q ++ locQ (loc.take 0)) ∧ Q.length = T1.size ∧ ofL (Q ++ locQ loc) = ofL (textP ⟨ep, rel, 97, n, false, m, false, k, loc⟩)) := by
            refine ⟨T1.data.toList, ?_, ?_, ?_⟩
            · rw [List.take_zero]; show T1 = ofL (T1.data.toList ++ []); rw [List.append_nil, ofL_self]
            · exact len_data _
            · rw [w1, D0]
              unfold textP tailT preT preW postT devT locT locQ
              simp [ofL_data]
          have qL := HQ.out.2.1
          have HF := hide HQ.out.2.2
          have HQ := hide HQ.out.1
          clear D0 w1
          go_wp2_with fail
          generalize W0.alloc (.cells #[.int .u8 97] 5) = W1 at *
          go_loop [3, 5] (fun y i => ∃ j : Nat, j ≤ loc.length ∧ i = .int .i64 j ∧ y = .string (ofL (Q ++ locQ (loc.take j)))) (fun _ i => loc.length - (intOf i).toNat)
          case atStart => exact ⟨0, by omega, rfl, by rw [HQ.out]⟩
          case round =>
            obtain ⟨j, hj, rfl, rfl⟩ := hrel
            by_cases hlj : j < loc.length
            · have hlj' : (j : Int) < (loc.length : Int) := by omega
              have hj0 : (0 : Int) ≤ (j : Int) := by omega
              obtain ⟨b1, o1, rfl, h1⟩ := HL.out.some (by show 0 < loc.length; omega)
              have g1 := h1 j hlj
              clear h1
              have v1 := locQ_len (loc.take j)
              have v2 := lenI_upto loc j
              have v3 := (lenI_ge loc).2 _ (List.getElem_mem hlj)
              have sj := ofL_size (Q ++ locQ (loc.take j))
              rw [List.length_append] at sj
              by_cases hj1 : j = 0
              · subst hj1
                obtain ⟨M, e1, e2, s1⟩ := loc_0 Q loc[0] loc hlj rfl
                rw [List.length_append] at s1
                have sM : M.size ≤ 10000000 := by omega
                have sX : (ofL (Q ++ locQ (loc.take 0))).size ≤ 10000000 := by omega
                have st := ofL_size loc[0]
                have HE := hide e2
                rw [Nat.add_zero] at g1
                generalize loc[0] = t at *
                generalize ofL (Q ++ locQ (loc.take 0)) = X1 at *
                generalize (Q ++ locQ (loc.take 0)).length = lX at *
                clear sj s1 v1 v2 e2
                go_wp2_with fail
                go_round
                case rel => exact ⟨1, by omega, rfl, by rw [HE.out]⟩
                case measure => simp [intOf]; omega
              · obtain ⟨M, e1, e2, s1⟩ := loc_n Q loc[j] loc j hlj rfl hj1
                rw [List.length_append] at s1
                have hjb : ((j : Int) == 0) = false := by simp; omega
                have sM : M.size ≤ 10000000 := by omega
                have sX : (ofL (Q ++ locQ (loc.take j))).size ≤ 10000000 := by omega
                have st := ofL_size loc[j]
                have HE := hide e2
                generalize loc[j] = t at *
                generalize ofL (Q ++ locQ (loc.take j)) = X1 at *
                clear sj s1 v1 v2 e2
                go_wp2_with fail
                go_round
                case rel => exact ⟨j + 1, by omega, by go_num, by rw [HE.out]⟩
                case measure => simp [intOf]; omega
            · obtain rfl : j = loc.length := by omega
              have hlj' : ¬ (loc.length : Int) < (loc.length : Int) := by omega
              rw [List.take_length]
              generalize hX : ofL (Q ++ locQ loc) = X1 at *
              have HX := hide hX
              clear hX
              go_wp2_with fail
              go_ret
              exact ⟨ret_s (by first | exact HF.out | (rw [← HX.out]; exact HF.out)), HW.out⟩
        · obtain ⟨a1, T1, e1, f1, s1, g1, w1⟩ := catC T0 (ofL [97]) n
          have ql1 : ((ofL [97]) : ByteArray).size = 1 := ofL_size _
          have y1 : T1.size ≤ 2148577 := by omega
          have y1' : a1.size ≤ 2148577 := by omega
          clear s1 g1
          obtain ⟨a3, T3, e3, f3, s3, g3, w3⟩ := catC T1 ⟨#[46, 100, 101, 118]⟩ k
          have ql3 : (⟨#[46, 100, 101, 118]⟩ : ByteArray).size = 4 := rfl
          have y3 : T3.size ≤ 4348577 := by omega
          have y3' : a3.size ≤ 4348577 := by omega
          clear ql3 s3 g3
          obtain ⟨Q, HQ⟩ : ∃ Q, Hid (T3 = ofL (Q ++ locQ (loc.take 0)) ∧ Q.length = T3.size ∧ ofL (Q ++ locQ loc) = ofL (textP ⟨ep, rel, 97, n, false, m, true, k, loc⟩)) := by
            refine ⟨T3.data.toList, ?_, ?_, ?_⟩
            · rw [List.take_zero]; show T3 = ofL (T3.data.toList ++ []); rw [List.append_nil, ofL_self]
            · exact len_data _
            · rw [w3, w1, D0]
              unfold textP tailT preT preW postT devT locT locQ
              simp [ofL_data]
          have qL := HQ.out.2.1
          have HF := hide HQ.out.2.2
          have HQ := hide HQ.out.1
          clear D0 w1 w3
          go_wp2_with fail
          generalize W0.alloc (.cells #[.int .u8 97] 5) = W1 at *
          go_loop [3, 5] (fun y i => ∃ j : Nat, j ≤ loc.length ∧ i = .int .i64 j ∧ y = .string (ofL (Q ++ locQ (loc.take j)))) (fun _ i => loc.length - (intOf i).toNat)
          case atStart => exact ⟨0, by omega, rfl, by rw [HQ.out]⟩
          case round =>
            obtain ⟨j, hj, rfl, rfl⟩ := hrel
            by_cases hlj : j < loc.length
            · have hlj' : (j : Int) < (loc.length : Int) := by omega
              have hj0 : (0 : Int) ≤ (j : Int) := by omega
              obtain ⟨b1, o1, rfl, h1⟩ := HL.out.some (by show 0 < loc.length; omega)
              have g1 := h1 j hlj
              clear h1
              have v1 := locQ_len (loc.take j)
              have v2 := lenI_upto loc j
              have v3 := (lenI_ge loc).2 _ (List.getElem_mem hlj)
              have sj := ofL_size (Q ++ locQ (loc.take j))
              rw [List.length_append] at sj
              by_cases hj1 : j = 0
              · subst hj1
                obtain ⟨M, e1, e2, s1⟩ := loc_0 Q loc[0] loc hlj rfl
                rw [List.length_append] at s1
                have sM : M.size ≤ 10000000 := by omega
                have sX : (ofL (Q ++ locQ (loc.take 0))).size ≤ 10000000 := by omega
                have st := ofL_size loc[0]
                have HE := hide e2
                rw [Nat.add_zero] at g1
                generalize loc[0] = t at *
                generalize ofL (Q ++ locQ (loc.take 0)) = X1 at *
                generalize (Q ++ locQ (loc.take 0)).length = lX at *
                clear sj s1 v1 v2 e2
                go_wp2_with fail
                go_round
                case rel => exact ⟨1, by omega, rfl, by rw [HE.out]⟩
                case measure => simp [intOf]; omega
              · obtain ⟨M, e1, e2, s1⟩ := loc_n Q loc[j] loc j hlj rfl hj1
                rw [List.length_append] at s1
                have hjb : ((j : Int) == 0) = false := by simp; omega
                have sM : M.size ≤ 10000000 := by omega
                have sX : (ofL (Q ++ locQ (loc.take j))).size ≤ 10000000 := by omega
                have st := ofL_size loc[j]
                have HE := hide e2
                generalize loc[j] = t at *
                generalize ofL (Q ++ locQ (loc.take j)) = X1 at *
                clear sj s1 v1 v2 e2
                go_wp2_with fail
                go_round
                case rel => exact ⟨j + 1, by omega, by go_num, by rw [HE.out]⟩
                case measure => simp [intOf]; omega
            · obtain rfl : j = loc.length := by omega
              have hlj' : ¬ (loc.length : Int) < (loc.length : Int) := by omega
              rw [List.take_length]
              generalize hX : ofL (Q ++ locQ loc) = X1 at *
              have HX := hide hX
              clear hX
              go_wp2_with fail
              go_ret
              exact ⟨ret_s (by first | exact HF.out | (rw [← HX.out]; exact HF.out)), HW.out⟩
      · cases d
        · obtain ⟨a1, T1, e1, f1, s1, g1, w1⟩ := catC T0 (ofL [97]) n
          have ql1 : ((ofL [97]) : ByteArray).size = 1 := ofL_size _
          have y1 : T1.size ≤ 2148577 := by omega
          have y1' : a1.size ≤ 2148577 := by omega
          clear s1 g1
          obtain ⟨a2, T2, e2, f2, s2, g2, w2⟩ := catC T1 ⟨#[46, 112, 111, 115, 116]⟩ m
          have ql2 : (⟨#[46, 112, 111, 115, 116]⟩ : ByteArray).size = 5 := rfl
          have y2 : T2.size ≤ 3248577 := by omega
          have y2' : a2.size ≤ 3248577 := by omega
          clear ql2 s2 g2
          obtain ⟨Q, HQ⟩ : ∃ Q, Hid (T2 = ofL (Q ++ locQ (loc.take 0)) ∧ Q.length = T2.size ∧ ofL (Q ++ locQ loc) = ofL (textP ⟨ep, rel, 97, n, true, m, false, k, loc⟩)) := by
            refine ⟨T2.data.toList, ?_, ?_, ?_⟩
            · rw [List.take_zero]; show T2 = ofL (T2.data.toList ++ []); rw [List.append_nil, ofL_self]
            · exact len_data _
            · rw [w2, w1, D0]
              unfold textP tailT preT preW postT devT locT locQ
              simp [ofL_data]
          have qL := HQ.out.2.1
          have HF := hide HQ.out.2.2
          have HQ := hide HQ.out.1
          clear D0 w1 w2
          go_wp2_with fail
          generalize W0.alloc (.cells #[.int .u8 97] 5) = W1 at *
          go_loop [3, 5] (fun y i => ∃ j : Nat, j ≤ loc.length ∧ i = .int .i64 j ∧ y = .string (ofL (Q ++ locQ (loc.take j)))) (fun _ i => loc.length - (intOf i).toNat)
          case atStart => exact ⟨0, by omega, rfl, by rw [HQ.out]⟩
          case round =>
            obtain ⟨j, hj, rfl, rfl⟩ := hrel
            by_cases hlj : j < loc.length
            · have hlj' : (j : Int) < (loc.length : Int) := by omega
              have hj0 : (0 : Int) ≤ (j : Int) := by omega
              obtain ⟨b1, o1, rfl, h1⟩ := HL.out.some (by show 0 < loc.length; omega)
              have g1 := h1 j hlj
              clear h1
              have v1 := locQ_len (loc.take j)
              have v2 := lenI_upto loc j
              have v3 := (lenI_ge loc).2 _ (List.getElem_mem hlj)
              have sj := ofL_size (Q ++ locQ (loc.take j))
              rw [List.length_append] at sj
              by_cases hj1 : j = 0
              · subst hj1
                obtain ⟨M, e1, e2, s1⟩ := loc_0 Q loc[0] loc hlj rfl
                rw [List.length_append] at s1
                have sM : M.size ≤ 10000000 := by omega
                have sX : (ofL (Q ++ locQ (loc.take 0))).size ≤ 10000000 := by omega
                have st := ofL_size loc[0]
                have HE := hide e2
                rw [Nat.add_zero] at g1
                generalize loc[0] = t at *
                generalize ofL (Q ++ locQ (loc.take 0)) = X1 at *
                generalize (Q ++ locQ (loc.take 0)).length = lX at *
                clear sj s1 v1 v2 e2
                go_wp2_with fail
                go_round
                case rel => exact ⟨1, by omega, rfl, by rw [HE.out]⟩
                case measure => simp [intOf]; omega
              · obtain ⟨M, e1, e2, s1⟩ := loc_n Q loc[j] loc j hlj rfl hj1
                rw [List.length_append] at s1
                have hjb : ((j : Int) == 0) = false := by simp; omega
                have sM : M.size ≤ 10000000 := by omega
                have sX : (ofL (Q ++ locQ (loc.take j))).size ≤ 10000000 := by omega
                have st := ofL_size loc[j]
                have HE := hide e2
                generalize loc[j] = t at *
                generalize ofL (Q ++ locQ (loc.take j)) = X1 at *
                clear sj s1 v1 v2 e2
                go_wp2_with fail
                go_round
                case rel => exact ⟨j + 1, by omega, by go_num, by rw [HE.out]⟩
                case measure => simp [intOf]; omega
            · obtain rfl : j = loc.length := by omega
              have hlj' : ¬ (loc.length : Int) < (loc.length : Int) := by omega
              rw [List.take_length]
              generalize hX : ofL (Q ++ locQ loc) = X1 at *
              have HX := hide hX
              clear hX
              go_wp2_with fail
              go_ret
              exact ⟨ret_s (by first | exact HF.out | (rw [← HX.out]; exact HF.out)), HW.out⟩
        · obtain ⟨a1, T1, e1, f1, s1, g1, w1⟩ := catC T0 (ofL [97]) n
          have ql1 : ((ofL [97]) : ByteArray).size = 1 := ofL_size _
          have y1 : T1.size ≤ 2148577 := by omega
          have y1' : a1.size ≤ 2148577 := by omega
          clear s1 g1
          obtain ⟨a2, T2, e2, f2, s2, g2, w2⟩ := catC T1 ⟨#[46, 112, 111, 115, 116]⟩ m
          have ql2 : (⟨#[46, 112, 111, 115, 116]⟩ : ByteArray).size = 5 := rfl
          have y2 : T2.size ≤ 3248577 := by omega
          have y2' : a2.size ≤ 3248577 := by omega
          clear ql2 s2 g2
          obtain ⟨a3, T3, e3, f3, s3, g3, w3⟩ := catC T2 ⟨#[46, 100, 101, 118]⟩ k
          have ql3 : (⟨#[46, 100, 101, 118]⟩ : ByteArray).size = 4 := rfl
          have y3 : T3.size ≤ 4348577 := by omega
          have y3' : a3.size ≤ 4348577 := by omega
          clear ql3 s3 g3
          obtain ⟨Q, HQ⟩ : ∃ Q, Hid (T3 = ofL (Q ++ locQ (loc.take 0)) ∧ Q.length = T3.size ∧ ofL (Q ++ locQ loc) = ofL (textP ⟨ep, rel, 97, n, true, m, true, k, loc⟩)) := by
            refine ⟨T3.data.toList, ?_, ?_, ?_⟩
            · rw [List.take_zero]; show T3 = ofL (T3.data.toList ++ []); rw [List.append_nil, ofL_self]
            · exact len_data _
            · rw [w3, w2, w1, D0]
              unfold textP tailT preT preW postT devT locT locQ
              simp [ofL_data]
          have qL := HQ.out.2.1
          have HF := hide HQ.out.2.2
          have HQ := hide HQ.out.1
          clear D0 w1 w2 w3
          go_wp2_with fail
          generalize W0.alloc (.cells #[.int .u8 97] 5) = W1 at *
          go_loop [3, 5] (fun y i => ∃ j : Nat, j ≤ loc.length ∧ i = .int .i64 j ∧ y = .string (ofL (Q ++ locQ (loc.take j)))) (fun _ i => loc.length - (intOf i).toNat)
          case atStart => exact ⟨0, by omega, rfl, by rw [HQ.out]⟩
          case round =>
            obtain ⟨j, hj, rfl, rfl⟩ := hrel
            by_cases hlj : j < loc.length
            · have hlj' : (j : Int) < (loc.length : Int) := by omega
              have hj0 : (0 : Int) ≤ (j : Int) := by omega
              obtain ⟨b1, o1, rfl, h1⟩ := HL.out.some (by show 0 < loc.length; omega)
              have g1 := h1 j hlj
              clear h1
              have v1 := locQ_len (loc.take j)
              have v2 := lenI_upto loc j
              have v3 := (lenI_ge loc).2 _ (List.getElem_mem hlj)
              have sj := ofL_size (Q ++ locQ (loc.take j))
              rw [List.length_append] at sj
              by_cases hj1 : j = 0
              · subst hj1
                obtain ⟨M, e1, e2, s1⟩ := loc_0 Q loc[0] loc hlj rfl
                rw [List.length_append] at s1
                have sM : M.size ≤ 10000000 := by omega
                have sX : (ofL (Q ++ locQ (loc.take 0))).size ≤ 10000000 := by omega
                have st := ofL_size loc[0]
                have HE := hide e2
                rw [Nat.add_zero] at g1
                generalize loc[0] = t at *
                generalize ofL (Q ++ locQ (loc.take 0)) = X1 at *
                generalize (Q ++ locQ (loc.take 0)).length = lX at *
                clear sj s1 v1 v2 e2
                go_wp2_with fail
                go_round
                case rel => exact ⟨1, by omega, rfl, by rw [HE.out]⟩
                case measure => simp [intOf]; omega
              · obtain ⟨M, e1, e2, s1⟩ := loc_n Q loc[j] loc j hlj rfl hj1
                rw [List.length_append] at s1
                have hjb : ((j : Int) == 0) = false := by simp; omega
                have sM : M.size ≤ 10000000 := by omega
                have sX : (ofL (Q ++ locQ (loc.take j))).size ≤ 10000000 := by omega
                have st := ofL_size loc[j]
                have HE := hide e2
                generalize loc[j] = t at *
                generalize ofL (Q ++ locQ (loc.take j)) = X1 at *
                clear sj s1 v1 v2 e2
                go_wp2_with fail
                go_round
                case rel => exact ⟨j + 1, by omega, by go_num, by rw [HE.out]⟩
                case measure => simp [intOf]; omega
            · obtain rfl : j = loc.length := by omega
              have hlj' : ¬ (loc.length : Int) < (loc.length : Int) := by omega
              rw [List.take_length]
              generalize hX : ofL (Q ++ locQ loc) = X1 at *
              have HX := hide hX
              clear hX
              go_wp2_with fail
              go_ret
              exact ⟨ret_s (by first | exact HF.out | (rw [← HX.out]; exact HF.out)), HW.out⟩

end Go.Proofs.YtagnikhkmaplpaaGreat

/-
  Walks: the texts of versions by the document.
-/
namespace Go.Proofs.YtagnikhkmaplpaaGreat
open Go.RowKit Go.Shelf
set_option linter.unusedVariables false

set_option maxRecDepth 100000 in
set_option maxHeartbeats 8000000 in
theorem Rraw_z98 (ep : List UInt8) (rel : List (List UInt8)) (n : List UInt8) (b : Bool) (m : List UInt8) (d : Bool) (k : List UInt8) (loc : List (List UInt8)) (r1 q1 : Option Addr) (c1 d1 : Nat) (w : World) (rr : Txt w (.slice r1 rel.length c1) rel) (ll : Txt w (.slice q1 loc.length d1) loc) (hl : ep.length + lenI rel + n.length + m.length + k.length + lenI loc ≤ 1048576) (he : ep = [48]) :
    Calls Tryz.prog 34 #[.agg #[.string (ofL ep), .slice r1 rel.length c1, .int .u8 98, .string (ofL n), .bool b, .string (ofL m), .bool d, .string (ofL k), .slice q1 loc.length d1]] w fun e w' => e = .returned (.string (ofL (textP ⟨ep, rel, 98, n, b, m, d, k, loc⟩))) ∧ Below w.heap.size w w' := by
  have S0 : TB w ⟨ep, rel, 98, n, b, m, d, k, loc⟩ r1 q1 c1 d1 (w.alloc (.cells #[.string (ofL ep), .slice r1 rel.length c1, .int .u8 98, .string (ofL n), .bool b, .string (ofL m), .bool d, .string (ofL k), .slice q1 loc.length d1] 24)) := TB.start (x := ⟨ep, rel, 98, n, b, m, d, k, loc⟩) rr ll
  have hlen := (lenI_ge rel).1
  have hlen2 := (lenI_ge loc).1
  have x1 := ofL_size n
  have x2 := ofL_size m
  have x3 := ofL_size k
  have e48 : ((ofL ep).toList == [48]) = true := eq48' ep true (by rw [he]; rfl)
  have HP0 : Hid ((⟨#[]⟩ : ByteArray) = ofL (([] : List UInt8) ++ joinL (rel.take 0))) := rfl
  have HQ0 : Hid (([] : List UInt8) ++ joinL rel = baseL ep rel) := by show _ = _; unfold baseL; rw [if_pos he]
  clear rr ll he
  obtain ⟨s0, s1, s2, s3, s4, s5, s6, s7, s8⟩ := S0.seen
  dsimp only at s0 s1 s2 s3 s4 s5 s6 s7 s8
  have HS := hide S0
  clear S0
  go_enter Tryz.func34, Tryz.ntmps34
  go_wp2_with fail
  generalize w.alloc (.cells #[.string (ofL ep), .slice r1 rel.length c1, .int .u8 98, .string (ofL n), .bool b, .string (ofL m), .bool d, .string (ofL k), .slice q1 loc.length d1] 24) = W0 at *
  go_loop [3, 4] (fun x i => ∃ j : Nat, j ≤ rel.length ∧ i = .int .i64 j ∧ x = .string (ofL (([] : List UInt8) ++ joinL (rel.take j)))) (fun _ i => rel.length - (intOf i).toNat)
  case atStart => exact ⟨0, by omega, rfl, by rw [HP0.out]⟩
  case round =>
    obtain ⟨j, hj, rfl, rfl⟩ := hrel
    by_cases hlt : j < rel.length
    · obtain ⟨b1, o1, rfl, h1⟩ := HS.out.rr.some (by show 0 < rel.length; omega)
      have g1 := h1 j hlt
      have hlt' : (j : Int) < (rel.length : Int) := by omega
      have hk0 : (0 : Int) ≤ (j : Int) := by omega
      have z1 := joinL_len (rel.take j)
      have z2 := lenI_upto rel (j + 1)
      have z3 := lenI_take rel j hlt
      have hT : rel.take (j + 1) = rel.take j ++ [rel[j]] := by rw [List.take_succ_eq_append_getElem hlt]
      dsimp only at g1
      generalize ht : rel[j] = t at *
      clear h1 ht
      have st := ofL_size t
      have htz : t.length ≤ 1048576 := by omega
      have sj : (ofL (([] : List UInt8) ++ joinL (rel.take j))).size ≤ 1048577 := by rw [ofL_size, List.length_append]; try simp only [List.length_nil]; omega
      have HC : Hid (∀ (h : j ≠ 0), ofL ((([] : List UInt8) ++ joinL (rel.take j)) ++ [46]) ++ ofL t = ofL (([] : List UInt8) ++ joinL (rel.take (j + 1)))) := by
        show ∀ (h : j ≠ 0), _ = _
        intro h
        rw [hT, cat_LL]
        cases hx : rel.take j with
        | nil => exfalso; have := congrArg List.length hx; rw [List.length_take, List.length_nil] at this; omega
        | cons u r => rw [joinL_snoc]; simp
      have HD : Hid (j = 0 → ofL (([] : List UInt8) ++ joinL (rel.take j)) ++ ofL t = ofL (([] : List UInt8) ++ joinL (rel.take (j + 1)))) := by
        show j = 0 → _ = _
        rintro rfl
        rw [hT, cat_LL]
        simp [joinL, dotted]
      have hcat : ofL (([] : List UInt8) ++ joinL (rel.take j)) ++ ⟨#[46]⟩ = ofL ((([] : List UInt8) ++ joinL (rel.take j)) ++ [46]) := by rw [← cat_LL]; rfl
      have sj2 : (ofL ((([] : List UInt8) ++ joinL (rel.take j)) ++ [46])).size ≤ 1048578 := by rw [ofL_size, List.length_append]; rw [ofL_size] at sj; simp only [List.length_cons, List.length_nil]; omega
      clear hT z1 z2 z3
      generalize ofL ((([] : List UInt8) ++ joinL (rel.take j)) ++ [46]) = X2 at *
      generalize ofL (([] : List UInt8) ++ joinL (rel.take j)) = X1 at *
      by_cases hk1 : j = 0
      · have HE := hide (HD.out hk1)
        subst hk1
        rw [Nat.add_zero] at g1
        go_wp2_with fail
        go_round
        case rel => exact ⟨1, by omega, rfl, by rw [HE.out]⟩
        case measure => simp [intOf]; omega
      · have hkp : (0 : Int) < (j : Int) := by omega
        have HE := hide (HC.out hk1)
        go_wp2_with fail
        go_round
        case rel => exact ⟨j + 1, by omega, by go_num, by rw [HE.out]⟩
        case measure => simp [intOf]; omega
    · obtain rfl : j = rel.length := by omega
      have hlt' : ¬ (rel.length : Int) < (rel.length : Int) := by omega
      rw [List.take_length]
      have z1 := joinL_len rel
      have y0 : (ofL (([] : List UInt8) ++ joinL rel)).size ≤ 1048577 := by rw [ofL_size, List.length_append]; try simp only [List.length_nil]; omega
      have D0 : (ofL (([] : List UInt8) ++ joinL rel)).data.toList = baseL ep rel := by rw [ofL_data]; exact HQ0.out
      generalize ofL (([] : List UInt8) ++ joinL rel) = T0 at *
      have bb := (Below.refl _ W0).alloc (Nat.le_refl _) (.cells #[.int .u8 98] 5)
      have hy : Bys (W0.alloc (.cells #[.int .u8 98] 5)) W0.heap.size [98] := by
        have e := World.alloc_heap_new W0 (.cells #[.int .u8 98] 5)
        refine ⟨fun i hi => ?_, fun i hi => one_free i e⟩
        match i, hi with
        | 0, _ => exact cell_at 0 e rfl
      have hback := hy.back (P := Tryz.prog) 66 9 5 1 Tryz.underlying66 Tryz.underlying5 Tryz.underlying9
      have hlb : ([98] : List UInt8).length = 1 := rfl
      rw [hlb] at hback
      have H1 := hide (HS.out.next bb)
      obtain ⟨i0, i1, i2, i3, i4, i5, i6, i7, i8⟩ := H1.out.seen
      dsimp only at i0 i1 i2 i3 i4 i5 i6 i7 i8
      have HL := hide H1.out.ll
      have HW := hide H1.out.bel
      cases b
      · cases d
        · obtain ⟨a1, T1, e1, f1, s1, g1, w1⟩ := catC T0 (ofL [98]) n
          have ql1 : ((ofL [98]) : ByteArray).size = 1 := ofL_size _
          have y1 : T1.size ≤ 2148577 := by omega
          have y1' : a1.size ≤ 2148577 := by omega
          clear s1 g1
          obtain ⟨Q, HQ⟩ : ∃ Q, Hid (T1 = ofL (Q ++ locQ (loc.take 0)) ∧ Q.length = T1.size ∧ ofL (Q ++ locQ loc) = ofL (textP ⟨ep, rel, 98, n, false, m, false, k, loc⟩)) := by
            refine ⟨T1.data.toList, ?_, ?_, ?_⟩
            · rw [List.take_zero]; show T1 = ofL (T1.data.toList ++ []); rw [List.append_nil, ofL_self]
            · exact len_data _
            · rw [w1, D0]
              unfold textP tailT preT preW postT devT locT locQ
              simp [ofL_data]
          have qL := HQ.out.2.1
          have HF := hide HQ.out.2.2
          have HQ := hide HQ.out.1
          clear D0 w1
          go_wp2_with fail
          generalize W0.alloc (.cells #[.int .u8 98] 5) = W1 at *
          go_loop [3, 5] (fun y i => ∃ j : Nat, j ≤ loc.length ∧ i = .int .i64 j ∧ y = .string (ofL (Q ++ locQ (loc.take j)))) (fun _ i => loc.length - (intOf i).toNat)
          case atStart => exact ⟨0, by omega, rfl, by rw [HQ.out]⟩
          case round =>
            obtain ⟨j, hj, rfl, rfl⟩ := hrel
            by_cases hlj : j < loc.length
            · have hlj' : (j : Int) < (loc.length : Int) := by omega
              have hj0 : (0 : Int) ≤ (j : Int) := by omega
              obtain ⟨b1, o1, rfl, h1⟩ := HL.out.some (by show 0 < loc.length; omega)
              have g1 := h1 j hlj
              clear h1
              have v1 := locQ_len (loc.take j)
              have v2 := lenI_upto loc j
              have v3 := (lenI_ge loc).2 _ (List.getElem_mem hlj)
              have sj := ofL_size (Q ++ locQ (loc.take j))
              rw [List.length_append] at sj
              by_cases hj1 : j = 0
              · subst hj1
                obtain ⟨M, e1, e2, s1⟩ := loc_0 Q loc[0] loc hlj rfl
                rw [List.length_append] at s1
                have sM : M.size ≤ 10000000 := by omega
                have sX : (ofL (Q ++ locQ (loc.take 0))).size ≤ 10000000 := by omega
                have st := ofL_size loc[0]
                have HE := hide e2
                rw [Nat.add_zero] at g1
                generalize loc[0] = t at *
                generalize ofL (Q ++ locQ (loc.take 0)) = X1 at *
                generalize (Q ++ locQ (loc.take 0)).length = lX at *
                clear sj s1 v1 v2 e2
                go_wp2_with fail
                go_round
                case rel => exact ⟨1, by omega, rfl, by rw [HE.out]⟩
                case measure => simp [intOf]; omega
              · obtain ⟨M, e1, e2, s1⟩ := loc_n Q loc[j] loc j hlj rfl hj1
                rw [List.length_append] at s1
                have hjb : ((j : Int) == 0) = false := by simp; omega
                have sM : M.size ≤ 10000000 := by omega
                have sX : (ofL (Q ++ locQ (loc.take j))).size ≤ 10000000 := by omega
                have st := ofL_size loc[j]
                have HE := hide e2
                generalize loc[j] = t at *
                generalize ofL (Q ++ locQ (loc.take j)) = X1 at *
                clear sj s1 v1 v2 e2
                go_wp2_with fail
                go_round
                case rel => exact ⟨j + 1, by omega, by go_num, by rw [HE.out]⟩
                case measure => simp [intOf]; omega
            · obtain rfl : j = loc.length := by omega
              have hlj' : ¬ (loc.length : Int) < (loc.length : Int) := by omega
              rw [List.take_length]
              generalize hX : ofL (Q ++ locQ loc) = X1 at *
              have HX := hide hX
              clear hX
              go_wp2_with fail
              go_ret
              exact ⟨ret_s (by first | exact HF.out | (rw [← HX.out]; exact HF.out)), HW.out⟩
        · obtain ⟨a1, T1, e1, f1, s1, g1, w1⟩ := catC T0 (ofL [98]) n
          have ql1 : ((ofL [98]) : ByteArray).size = 1 := ofL_size _
          have y1 : T1.size ≤ 2148577 := by omega
          have y1' : a1.size ≤ 2148577 := by omega
          clear s1 g1
          obtain ⟨a3, T3, e3, f3, s3, g3, w3⟩ := catC T1 ⟨#[46, 100, 101, 118]⟩ k
          have ql3 : (⟨#[46, 100, 101, 118]⟩ : ByteArray).size = 4 := rfl
          have y3 : T3.size ≤ 4348577 := by omega
          have y3' : a3.size ≤ 4348577 := by omega
          clear ql3 s3 g3
          obtain ⟨Q, HQ⟩ : ∃ Q, Hid (T3 = ofL (Q ++ locQ (loc.take 0)) ∧ Q.length = T3.size ∧ ofL (Q ++ locQ loc) = ofL (textP ⟨ep, rel, 98, n, false, m, true, k, loc⟩)) := by
            refine ⟨T3.data.toList, ?_, ?_, ?_⟩
            · rw [List.take_zero]; show T3 = ofL (T3.data.toList ++ []); rw [List.append_nil, ofL_self]
            · exact len_data _
            · rw [w3, w1, D0]
              unfold textP tailT preT preW postT devT locT locQ
              simp [ofL_data]
          have qL := HQ.out.2.1
          have HF := hide HQ.out.2.2
          have HQ := hide HQ.out.1
          clear D0 w1 w3
          go_wp2_with fail
          generalize W0.alloc (.cells #[.int .u8 98] 5) = W1 at *
          go_loop [3, 5] (fun y i => ∃ j : Nat, j ≤ loc.length ∧ i = .int .i64 j ∧ y = .string (ofL (Q ++ locQ (loc.take j)))) (fun _ i => loc.length - (intOf i).toNat)
          case atStart => exact ⟨0, by omega, rfl, by rw [HQ.out]⟩
          case round =>
            obtain ⟨j, hj, rfl, rfl⟩ := hrel
            by_cases hlj : j < loc.length
            · have hlj' : (j : Int) < (loc.length : Int) := by omega
              have hj0 : (0 : Int) ≤ (j : Int) := by omega
              obtain ⟨b1, o1, rfl, h1⟩ := HL.out.some (by show 0 < loc.length; omega)
              have g1 := h1 j hlj
              clear h1
              have v1 := locQ_len (loc.take j)
              have v2 := lenI_upto loc j
              have v3 := (lenI_ge loc).2 _ (List.getElem_mem hlj)
              have sj := ofL_size (Q ++ locQ (loc.take j))
              rw [List.length_append] at sj
              by_cases hj1 : j = 0
              · subst hj1
                obtain ⟨M, e1, e2, s1⟩ := loc_0 Q loc[0] loc hlj rfl
                rw [List.length_append] at s1
                have sM : M.size ≤ 10000000 := by omega
                have sX : (ofL (Q ++ locQ (loc.take 0))).size ≤ 10000000 := by omega
                have st := ofL_size loc[0]
                have HE := hide e2
                rw [Nat.add_zero] at g1
                generalize loc[0] = t at *
                generalize ofL (Q ++ locQ (loc.take 0)) = X1 at *
                generalize (Q ++ locQ (loc.take 0)).length = lX at *
                clear sj s1 v1 v2 e2
                go_wp2_with fail
                go_round
                case rel => exact ⟨1, by omega, rfl, by rw [HE.out]⟩
                case measure => simp [intOf]; omega
              · obtain ⟨M, e1, e2, s1⟩ := loc_n Q loc[j] loc j hlj rfl hj1
                rw [List.length_append] at s1
                have hjb : ((j : Int) == 0) = false := by simp; omega
                have sM : M.size ≤ 10000000 := by omega
                have sX : (ofL (Q ++ locQ (loc.take j))).size ≤ 10000000 := by omega
                have st := ofL_size loc[j]
                have HE := hide e2
                generalize loc[j] = t at *
                generalize ofL (Q ++ locQ (loc.take j)) = X1 at *
                clear sj s1 v1 v2 e2
                go_wp2_with fail
                go_round
                case rel => exact ⟨j + 1, by omega, by go_num, by rw [HE.out]⟩
                case measure => simp [intOf]; omega
            · obtain rfl : j = loc.length := by omega
              have hlj' : ¬ (loc.length : Int) < (loc.length : Int) := by omega
              rw [List.take_length]
              generalize hX : ofL (Q ++ locQ loc) = X1 at *
              have HX := hide hX
              clear hX
              go_wp2_with fail
              go_ret
              exact ⟨ret_s (by first | exact HF.out | (rw [← HX.out]; exact HF.out)), HW.out⟩
      · cases d
        · obtain ⟨a1, T1, e1, f1, s1, g1, w1⟩ := catC T0 (ofL [98]) n
          have ql1 : ((ofL [98]) : ByteArray).size = 1 := ofL_size _
          have y1 : T1.size ≤ 2148577 := by omega
          have y1' : a1.size ≤ 2148577 := by omega
          clear s1 g1
          obtain ⟨a2, T2, e2, f2, s2, g2, w2⟩ := catC T1 ⟨#[46, 112, 111, 115, 116]⟩ m
          have ql2 : (⟨#[46, 112, 111, 115, 116]⟩ : ByteArray).size = 5 := rfl
          have y2 : T2.size ≤ 3248577 := by omega
          have y2' : a2.size ≤ 3248577 := by omega
          clear ql2 s2 g2
          obtain ⟨Q, HQ⟩ : ∃ Q, Hid (T2 = ofL (Q ++ locQ (loc.take 0)) ∧ Q.length = T2.size ∧ ofL (Q ++ locQ loc) = ofL (textP ⟨ep, rel, 98, n, true, m, false, k, loc⟩)) := by
            refine ⟨T2.data.toList, ?_, ?_, ?_⟩
            · rw [List.take_zero]; show T2 = ofL (T2.data.toList ++ []); rw [List.append_nil, ofL_self]
            · exact len_data _
            · rw [w2, w1, D0]
              unfold textP tailT preT preW postT devT locT locQ
              simp [ofL_data]
          have qL := HQ.out.2.1
          have HF := hide HQ.out.2.2
          have HQ := hide HQ.out.1
          clear D0 w1 w2
          go_wp2_with fail
          generalize W0.alloc (.cells #[.int .u8 98] 5) = W1 at *
          go_loop [3, 5] (fun y i => ∃ j : Nat, j ≤ loc.length ∧ i = .int .i64 j ∧ y = .string (ofL (Q ++ locQ (loc.take j)))) (fun _ i => loc.length - (intOf i).toNat)
          case atStart => exact ⟨0, by omega, rfl, by rw [HQ.out]⟩
          case round =>
            obtain ⟨j, hj, rfl, rfl⟩ := hrel
            by_cases hlj : j < loc.length
            · have hlj' : (j : Int) < (loc.length : Int) := by omega
              have hj0 : (0 : Int) ≤ (j : Int) := by omega
              obtain ⟨b1, o1, rfl, h1⟩ := HL.out.some (by show 0 < loc.length; omega)
              have g1 := h1 j hlj
              clear h1
              have v1 := locQ_len (loc.take j)
              have v2 := lenI_upto loc j
              have v3 := (lenI_ge loc).2 _ (List.getElem_mem hlj)
              have sj := ofL_size (Q ++ locQ (loc.take j))
              rw [List.length_append] at sj
              by_cases hj1 : j = 0
              · subst hj1
                obtain ⟨M, e1, e2, s1⟩ := loc_0 Q loc[0] loc hlj rfl
                rw [List.length_append] at s1
                have sM : M.size ≤ 10000000 := by omega
                have sX : (ofL (Q ++ locQ (loc.take 0))).size ≤ 10000000 := by omega
                have st := ofL_size loc[0]
                have HE := hide e2
                rw [Nat.add_zero] at g1
                generalize loc[0] = t at *
                generalize ofL (Q ++ locQ (loc.take 0)) = X1 at *
                generalize (Q ++ locQ (loc.take 0)).length = lX at *
                clear sj s1 v1 v2 e2
                go_wp2_with fail
                go_round
                case rel => exact ⟨1, by omega, rfl, by rw [HE.out]⟩
                case measure => simp [intOf]; omega
              · obtain ⟨M, e1, e2, s1⟩ := loc_n Q loc[j] loc j hlj rfl hj1
                rw [List.length_append] at s1
                have hjb : ((j : Int) == 0) = false := by simp; omega
                have sM : M.size ≤ 10000000 := by omega
                have sX : (ofL (Q ++ locQ (loc.take j))).size ≤ 10000000 := by omega
                have st := ofL_size loc[j]
                have HE := hide e2
                generalize loc[j] = t at *
                generalize ofL (Q ++ locQ (loc.take j)) = X1 at *
                clear sj s1 v1 v2 e2
                go_wp2_with fail
                go_round
                case rel => exact ⟨j + 1, by omega, by go_num, by rw [HE.out]⟩
                case measure => simp [intOf]; omega
            · obtain rfl : j = loc.length := by omega
              have hlj' : ¬ (loc.length : Int) < (loc.length : Int) := by omega
              rw [List.take_length]
              generalize hX : ofL (Q ++ locQ loc) = X1 at *
              have HX := hide hX
              clear hX
              go_wp2_with fail
              go_ret
              exact ⟨ret_s (by first | exact HF.out | (rw [← HX.out]; exact HF.out)), HW.out⟩
        · obtain ⟨a1, T1, e1, f1, s1, g1, w1⟩ := catC T0 (ofL [98]) n
          have ql1 : ((ofL [98]) : ByteArray).size = 1 := ofL_size _
          have y1 : T1.size ≤ 2148577 := by omega
          have y1' : a1.size ≤ 2148577 := by omega
          clear s1 g1
          obtain ⟨a2, T2, e2, f2, s2, g2, w2⟩ := catC T1 ⟨#[46, 112, 111, 115, 116]⟩ m
          have ql2 : (⟨#[46, 112, 111, 115, 116]⟩ : ByteArray).size = 5 := rfl
          have y2 : T2.size ≤ 3248577 := by omega
          have y2' : a2.size ≤ 3248577 := by omega
          clear ql2 s2 g2
          obtain ⟨a3, T3, e3, f3, s3, g3, w3⟩ := catC T2 ⟨#[46, 100, 101, 118]⟩ k
          have ql3 : (⟨#[46, 100, 101, 118]⟩ : ByteArray).size = 4 := rfl
          have y3 : T3.size ≤ 4348577 := by omega
          have y3' : a3.size ≤ 4348577 := by omega
          clear ql3 s3 g3
          obtain ⟨Q, HQ⟩ : ∃ Q, Hid (T3 = ofL (Q ++ locQ (loc.take 0)) ∧ Q.length = T3.size ∧ ofL (Q ++ locQ loc) = ofL (textP ⟨ep, rel, 98, n, true, m, true, k, loc⟩)) := by
            refine ⟨T3.data.toList, ?_, ?_, ?_⟩
            · rw [List.take_zero]; show T3 = ofL (T3.data.toList ++ []); rw [List.append_nil, ofL_self]
            · exact len_data _
            · rw [w3, w2, w1, D0]
              unfold textP tailT preT preW postT devT locT locQ
              simp [ofL_data]
          have qL := HQ.out.2.1
          have HF := hide HQ.out.2.2
          have HQ := hide HQ.out.1
          clear D0 w1 w2 w3
          go_wp2_with fail
          generalize W0.alloc (.cells #[.int .u8 98] 5) = W1 at *
          go_loop [3, 5] (fun y i => ∃ j : Nat, j ≤ loc.length ∧ i = .int .i64 j ∧ y = .string (ofL (Q ++ locQ (loc.take j)))) (fun _ i => loc.length - (intOf i).toNat)
          case atStart => exact ⟨0, by omega, rfl, by rw [HQ.out]⟩
          case round =>
            obtain ⟨j, hj, rfl, rfl⟩ := hrel
            by_cases hlj : j < loc.length
            · have hlj' : (j : Int) < (loc.length : Int) := by omega
              have hj0 : (0 : Int) ≤ (j : Int) := by omega
              obtain ⟨b1, o1, rfl, h1⟩ := HL.out.some (by show 0 < loc.length; omega)
              have g1 := h1 j hlj
              clear h1
              have v1 := locQ_len (loc.take j)
              have v2 := lenI_upto loc j
              have v3 := (lenI_ge loc).2 _ (List.getElem_mem hlj)
              have sj := ofL_size (Q ++ locQ (loc.take j))
              rw [List.length_append] at sj
              by_cases hj1 : j = 0
              · subst hj1
                obtain ⟨M, e1, e2, s1⟩ := loc_0 Q loc[0] loc hlj rfl
                rw [List.length_append] at s1
                have sM : M.size ≤ 10000000 := by omega
                have sX : (ofL (Q ++ locQ (loc.take 0))).size ≤ 10000000 := by omega
                have st := ofL_size loc[0]
                have HE := hide e2
                rw [Nat.add_zero] at g1
                generalize loc[0] = t at *
                generalize ofL (Q ++ locQ (loc.take 0)) = X1 at *
                generalize (Q ++ locQ (loc.take 0)).length = lX at *
                clear sj s1 v1 v2 e2
                go_wp2_with fail
                go_round
                case rel => exact ⟨1, by omega, rfl, by rw [HE.out]⟩
                case measure => simp [intOf]; omega
              · obtain ⟨M, e1, e2, s1⟩ := loc_n Q loc[j] loc j hlj rfl hj1
                rw [List.length_append] at s1
                have hjb : ((j : Int) == 0) = false := by simp; omega
                have sM : M.size ≤ 10000000 := by omega
                have sX : (ofL (Q ++ locQ (loc.take j))).size ≤ 10000000 := by omega
                have st := ofL_size loc[j]
                have HE := hide e2
                generalize loc[j] = t at *
                generalize ofL (Q ++ locQ (loc.take j)) = X1 at *
                clear sj s1 v1 v2 e2
                go_wp2_with fail
                go_round
                case rel => exact ⟨j + 1, by omega, by go_num, by rw [HE.out]⟩
                case measure => simp [intOf]; omega
            · obtain rfl : j = loc.length := by omega
              have hlj' : ¬ (loc.length : Int) < (loc.length : Int) := by omega
              rw [List.take_length]
              generalize hX : ofL (Q ++ locQ loc) = X1 at *
              have HX := hide hX
              clear hX
              go_wp2_with fail
              go_ret
              exact ⟨ret_s (by first | exact HF.out | (rw [← HX.out]; exact HF.out)), HW.out⟩

set_option maxRecDepth 100000 in
set_option maxHeartbeats 8000000 in
theorem Rraw_z114 (ep : List UInt8) (rel : List (List UInt8)) (n : List UInt8) (b : Bool) (m : List UInt8) (d : Bool) (k : List UInt8) (loc : List (List UInt8)) (r1 q1 : Option Addr) (c1 d1 : Nat) (w : World) (rr : Txt w (.slice r1 rel.length c1) rel) (ll : Txt w (.slice q1 loc.length d1) loc) (hl : ep.length + lenI rel + n.length + m.length + k.length + lenI loc ≤ 1048576) (he : ep = [48]) :
    Calls Tryz.prog 34 #[.agg #[.string (ofL ep), .slice r1 rel.length c1, .int .u8 114, .string (ofL n), .bool b, .string (ofL m), .bool d, .string (ofL k), .slice q1 loc.length d1]] w fun e w' => e = .returned (.string (ofL (textP ⟨ep, rel, 114, n, b, m, d, k, loc⟩))) ∧ Below w.heap.size w w' := by
  have S0 : TB w ⟨ep, rel, 114, n, b, m, d, k, loc⟩ r1 q1 c1 d1 (w.alloc (.cells #[.string (ofL ep), .slice r1 rel.length c1, .int .u8 114, .string (ofL n), .bool b, .string (ofL m), .bool d, .string (ofL k), .slice q1 loc.length d1] 24)) := TB.start (x := ⟨ep, rel, 114, n, b, m, d, k, loc⟩) rr ll
  have hlen := (lenI_ge rel).1
  have hlen2 := (lenI_ge loc).1
  have x1 := ofL_size n
  have x2 := ofL_size m
  have x3 := ofL_size k
  have e48 : ((ofL ep).toList == [48]) = true := eq48' ep true (by rw [he]; rfl)
  have HP0 : Hid ((⟨#[]⟩ : ByteArray) = ofL (([] : List UInt8) ++ joinL (rel.take 0))) := rfl
  have HQ0 : Hid (([] : List UInt8) ++ joinL rel = baseL ep rel) := by show _ = _; unfold baseL; rw [if_pos he]
  clear rr ll he
  obtain ⟨s0, s1, s2, s3, s4, s5, s6, s7, s8⟩ := S0.seen
  dsimp only at s0 s1 s2 s3 s4 s5 s6 s7 s8
  have HS := hide S0
  clear S0
  go_enter Tryz.func34, Tryz.ntmps34
  go_wp2_with fail
  generalize w.alloc (.cells #[.string (ofL ep), .slice r1 rel.length c1, .int .u8 114, .string (ofL n), .bool b, .string (ofL m), .bool d, .string (ofL k), .slice q1 loc.length d1] 24) = W0 at *
  go_loop [3, 4] (fun x i => ∃ j : Nat, j ≤ rel.length ∧ i = .int .i64 j ∧ x = .string (ofL (([] : List UInt8) ++ joinL (rel.take j)))) (fun _ i => rel.length - (intOf i).toNat)
  case atStart => exact ⟨0, by omega, rfl, by rw [HP0.out]⟩
  case round =>
    obtain ⟨j, hj, rfl, rfl⟩ := hrel
    by_cases hlt : j < rel.length
    · obtain ⟨b1, o1, rfl, h1⟩ := HS.out.rr.some (by show 0 < rel.length; omega)
      have g1 := h1 j hlt
      have hlt' : (j : Int) < (rel.length : Int) := by omega
      have hk0 : (0 : Int) ≤ (j : Int) := by omega
      have z1 := joinL_len (rel.take j)
      have z2 := lenI_upto rel (j + 1)
      have z3 := lenI_take rel j hlt
      have hT : rel.take (j + 1) = rel.take j ++ [rel[j]] := by rw [List.take_succ_eq_append_getElem hlt]
      dsimp only at g1
      generalize ht : rel[j] = t at *
      clear h1 ht
      have st := ofL_size t
      have htz : t.length ≤ 1048576 := by omega
      have sj : (ofL (([] : List UInt8) ++ joinL (rel.take j))).size ≤ 1048577 := by rw [ofL_size, List.length_append]; try simp only [List.length_nil]; omega
      have HC : Hid (∀ (h : j ≠ 0), ofL ((([] : List UInt8) ++ joinL (rel.take j)) ++ [46]) ++ ofL t = ofL (([] : List UInt8) ++ joinL (rel.take (j + 1)))) := by
        show ∀ (h : j ≠ 0), _ = _
        intro h
        rw [hT, cat_LL]
        cases hx : rel.take j with
        | nil => exfalso; have := congrArg List.length hx; rw [List.length_take, List.length_nil] at this; omega
        | cons u r => rw [joinL_snoc]; simp
      have HD : Hid (j = 0 → ofL (([] : List UInt8) ++ joinL (rel.take j)) ++ ofL t = ofL (([] : List UInt8) ++ joinL (rel.take (j + 1)))) := by
        show j = 0 → _ = _
        rintro rfl
        rw [hT, cat_LL]
        simp [joinL, dotted]
      have hcat : ofL (([] : List UInt8) ++ joinL (rel.take j)) ++ ⟨#[46]⟩ = ofL ((([] : List UInt8) ++ joinL (rel.take j)) ++ [46]) := by rw [← cat_LL]; rfl
      have sj2 : (ofL ((([] : List UInt8) ++ joinL (rel.take j)) ++ [46])).size ≤ 1048578 := by rw [ofL_size, List.length_append]; rw [ofL_size] at sj; simp only [List.length_cons, List.length_nil]; omega
      clear hT z1 z2 z3
      generalize ofL ((([] : List UInt8) ++ joinL (rel.take j)) ++ [46]) = X2 at *
      generalize ofL (([] : List UInt8) ++ joinL (rel.take j)) = X1 at *
      by_cases hk1 : j = 0
      · have HE := hide (HD.out hk1)
        subst hk1
        rw [Nat.add_zero] at g1
        go_wp2_with fail
        go_round
        case rel => exact ⟨1, by omega, rfl, by rw [HE.out]⟩
        case measure => simp [intOf]; omega
      · have hkp : (0 : Int) < (j : Int) := by omega
        have HE := hide (HC.out hk1)
        go_wp2_with fail
        go_round
        case rel => exact ⟨j + 1, by omega, by go_num, by rw [HE.out]⟩
        case measure => simp [intOf]; omega
    · obtain rfl : j = rel.length := by omega
      have hlt' : ¬ (rel.length : Int) < (rel.length : Int) := by omega
      rw [List.take_length]
      have z1 := joinL_len rel
      have y0 : (ofL (([] : List UInt8) ++ joinL rel)).size ≤ 1048577 := by rw [ofL_size, List.length_append]; try simp only [List.length_nil]; omega
      have D0 : (ofL (([] : List UInt8) ++ joinL rel)).data.toList = baseL ep rel := by rw [ofL_data]; exact HQ0.out
      generalize ofL (([] : List UInt8) ++ joinL rel) = T0 at *
      have H1 := HS
      have HL := hide H1.out.ll
      have HW := hide H1.out.bel
      cases b
      · cases d
        · obtain ⟨a1, T1, e1, f1, s1, g1, w1⟩ := catC T0 ⟨#[114, 99]⟩ n
          have ql1 : (⟨#[114, 99]⟩ : ByteArray).size = 2 := rfl
          have y1 : T1.size ≤ 2148577 := by omega
          have y1' : a1.size ≤ 2148577 := by omega
          clear ql1 s1 g1
          obtain ⟨Q, HQ⟩ : ∃ Q, Hid (T1 = ofL (Q ++ locQ (loc.take 0)) ∧ Q.length = T1.size ∧ ofL (Q ++ locQ loc) = ofL (textP ⟨ep, rel, 114, n, false, m, false, k, loc⟩)) := by
            refine ⟨T1.data.toList, ?_, ?_, ?_⟩
            · rw [List.take_zero]; show T1 = ofL (T1.data.toList ++ []); rw [List.append_nil, ofL_self]
            · exact len_data _
            · rw [w1, D0]
              unfold textP tailT preT preW postT devT locT locQ
              simp
          have qL := HQ.out.2.1
          have HF := hide HQ.out.2.2
          have HQ := hide HQ.out.1
          clear D0 w1
          go_wp2_with fail
          go_loop [3, 5] (fun y i => ∃ j : Nat, j ≤ loc.length ∧ i = .int .i64 j ∧ y = .string (ofL (Q ++ locQ (loc.take j)))) (fun _ i => loc.length - (intOf i).toNat)
          case atStart => exact ⟨0, by omega, rfl, by rw [HQ.out]⟩
          case round =>
            obtain ⟨j, hj, rfl, rfl⟩ := hrel
            by_cases hlj : j < loc.length
            · have hlj' : (j : Int) < (loc.length : Int) := by omega
              have hj0 : (0 : Int) ≤ (j : Int) := by omega
              obtain ⟨b1, o1, rfl, h1⟩ := HL.out.some (by show 0 < loc.length; omega)
              have g1 := h1 j hlj
              clear h1
              have v1 := locQ_len (loc.take j)
              have v2 := lenI_upto loc j
              have v3 := (lenI_ge loc).2 _ (List.getElem_mem hlj)
              have sj := ofL_size (Q ++ locQ (loc.take j))
              rw [List.length_append] at sj
              by_cases hj1 : j = 0
              · subst hj1
                obtain ⟨M, e1, e2, s1⟩ := loc_0 Q loc[0] loc hlj rfl
                rw [List.length_append] at s1
                have sM : M.size ≤ 10000000 := by omega
                have sX : (ofL (Q ++ locQ (loc.take 0))).size ≤ 10000000 := by omega
                have st := ofL_size loc[0]
                have HE := hide e2
                rw [Nat.add_zero] at g1
                generalize loc[0] = t at *
                generalize ofL (Q ++ locQ (loc.take 0)) = X1 at *
                generalize (Q ++ locQ (loc.take 0)).length = lX at *
                clear sj s1 v1 v2 e2
                go_wp2_with fail
                go_round
                case rel => exact ⟨1, by omega, rfl, by rw [HE.out]⟩
                case measure => simp [intOf]; omega
              · obtain ⟨M, e1, e2, s1⟩ := loc_n Q loc[j] loc j hlj rfl hj1
                rw [List.length_append] at s1
                have hjb : ((j : Int) == 0) = false := by simp; omega
                have sM : M.size ≤ 10000000 := by omega
                have sX : (ofL (Q ++ locQ (loc.take j))).size ≤ 10000000 := by omega
                have st := ofL_size loc[j]
                have HE := hide e2
                generalize loc[j] = t at *
                generalize ofL (Q ++ locQ (loc.take j)) = X1 at *
                clear sj s1 v1 v2 e2
                go_wp2_with fail
                go_round
                case rel => exact ⟨j + 1, by omega, by go_num, by rw [HE.out]⟩
                case measure => simp [intOf]; omega
            · obtain rfl : j = loc.length := by omega
              have hlj' : ¬ (loc.length : Int) < (loc.length : Int) := by omega
              rw [List.take_length]
              generalize hX : ofL (Q ++ locQ loc) = X1 at *
              have HX := hide hX
              clear hX
              go_wp2_with fail
              go_ret
              exact ⟨ret_s (by first | exact HF.out | (rw [← HX.out]; exact HF.out)), HW.out⟩
        · obtain ⟨a1, T1, e1, f1, s1, g1, w1⟩ := catC T0 ⟨#[114, 99]⟩ n
          have ql1 : (⟨#[114, 99]⟩ : ByteArray).size = 2 := rfl
          have y1 : T1.size ≤ 2148577 := by omega
          have y1' : a1.size ≤ 2148577 := by omega
          clear ql1 s1 g1
          obtain ⟨a3, T3, e3, f3, s3, g3, w3⟩ := catC T1 ⟨#[46, 100, 101, 118]⟩ k
          have ql3 : (⟨#[46, 100, 101, 118]⟩ : ByteArray).size = 4 := rfl
          have y3 : T3.size ≤ 4348577 := by omega
          have y3' : a3.size ≤ 4348577 := by omega
          clear ql3 s3 g3
          obtain ⟨Q, HQ⟩ : ∃ Q, Hid (T3 = ofL (Q ++ locQ (loc.take 0)) ∧ Q.length = T3.size ∧ ofL (Q ++ locQ loc) = ofL (textP ⟨ep, rel, 114, n, false, m, true, k, loc⟩)) := by
            refine ⟨T3.data.toList, ?_, ?_, ?_⟩
            · rw [List.take_zero]; show T3 = ofL (T3.data.toList ++ []); rw [List.append_nil, ofL_self]
            · exact len_data _
            · rw [w3, w1, D0]
              unfold textP tailT preT preW postT devT locT locQ
              simp
          have qL := HQ.out.2.1
          have HF := hide HQ.out.2.2
          have HQ := hide HQ.out.1
          clear D0 w1 w3
          go_wp2_with fail
          go_loop [3, 5] (fun y i => ∃ j : Nat, j ≤ loc.length ∧ i = .int .i64 j ∧ y = .string (ofL (Q ++ locQ (loc.take j)))) (fun _ i => loc.length - (intOf i).toNat)
          case atStart => exact ⟨0, by omega, rfl, by rw [HQ.out]⟩
          case round =>
            obtain ⟨j, hj, rfl, rfl⟩ := hrel
            by_cases hlj : j < loc.length
            · have hlj' : (j : Int) < (loc.length : Int) := by omega
              have hj0 : (0 : Int) ≤ (j : Int) := by omega
              obtain ⟨b1, o1, rfl, h1⟩ := HL.out.some (by show 0 < loc.length; omega)
              have g1 := h1 j hlj
              clear h1
              have v1 := locQ_len (loc.take j)
              have v2 := lenI_upto loc j
              have v3 := (lenI_ge loc).2 _ (List.getElem_mem hlj)
              have sj := ofL_size (Q ++ locQ (loc.take j))
              rw [List.length_append] at sj
              by_cases hj1 : j = 0
              · subst hj1
                obtain ⟨M, e1, e2, s1⟩ := loc_0 Q loc[0] loc hlj rfl
                rw [List.length_append] at s1
                have sM : M.size ≤ 10000000 := by omega
                have sX : (ofL (Q ++ locQ (loc.take 0))).size ≤ 10000000 := by omega
                have st := ofL_size loc[0]
                have HE := hide e2
                rw [Nat.add_zero] at g1
                generalize loc[0] = t at *
                generalize ofL (Q ++ locQ (loc.take 0)) = X1 at *
                generalize (Q ++ locQ (loc.take 0)).length = lX at *
                clear sj s1 v1 v2 e2
                go_wp2_with fail
                go_round
                case rel => exact ⟨1, by omega, rfl, by rw [HE.out]⟩
                case measure => simp [intOf]; omega
              · obtain ⟨M, e1, e2, s1⟩ := loc_n Q loc[j] loc j hlj rfl hj1
                rw [List.length_append] at s1
                have hjb : ((j : Int) == 0) = false := by simp; omega
                have sM : M.size ≤ 10000000 := by omega
                have sX : (ofL (Q ++ locQ (loc.take j))).size ≤ 10000000 := by omega
                have st := ofL_size loc[j]
                have HE := hide e2
                generalize loc[j] = t at *
                generalize ofL (Q ++ locQ (loc.take j)) = X1 at *
                clear sj s1 v1 v2 e2
                go_wp2_with fail
                go_round
                case rel => exact ⟨j + 1, by omega, by go_num, by rw [HE.out]⟩
                case measure => simp [intOf]; omega
            · obtain rfl : j = loc.length := by omega
              have hlj' : ¬ (loc.length : Int) < (loc.length : Int) := by omega
              rw [List.take_length]
              generalize hX : ofL (Q ++ locQ loc) = X1 at *
              have HX := hide hX
              clear hX
              go_wp2_with fail
              go_ret
              exact ⟨ret_s (by first | exact HF.out | (rw [← HX.out]; exact HF.out)), HW.out⟩
      · cases d
        · obtain ⟨a1, T1, e1, f1, s1, g1, w1⟩ := catC T0 ⟨#[114, 99]⟩ n
          have ql1 : (⟨#[114, 99]⟩ : ByteArray).size = 2 := rfl
          have y1 : T1.size ≤ 2148577 := by omega
          have y1' : a1.size ≤ 2148577 := by omega
          clear ql1 s1 g1
          obtain ⟨a2, T2, e2, f2, s2, g2, w2⟩ := catC T1 ⟨#[46, 112, 111, 115, 116]⟩ m
          have ql2 : (⟨#[46, 112, 111, 115, 116]⟩ : ByteArray).size = 5 := rfl
          have y2 : T2.size ≤ 3248577 := by omega
          have y2' : a2.size ≤ 3248577 := by omega
          clear ql2 s2 g2
          obtain ⟨Q, HQ⟩ : ∃ Q, Hid (T2 = ofL (Q ++ locQ (loc.take 0)) ∧ Q.length = T2.size ∧ ofL (Q ++ locQ loc) = ofL (textP ⟨ep, rel, 114, n, true, m, false, k, loc⟩)) := by
            refine ⟨T2.data.toList, ?_, ?_, ?_⟩
            · rw [List.take_zero]; show T2 = ofL (T2.data.toList ++ []); rw [List.append_nil, ofL_self]
            · exact len_data _
            · rw [w2, w1, D0]
              unfold textP tailT preT preW postT devT locT locQ
              simp
          have qL := HQ.out.2.1
          have HF := hide HQ.out.2.2
          have HQ := hide HQ.out.1
          clear D0 w1 w2
          go_wp2_with fail
          go_loop [3, 5] (fun y i => ∃ j : Nat, j ≤ loc.length ∧ i = .int .i64 j ∧ y = .string (ofL (Q ++ locQ (loc.take j)))) (fun _ i => loc.length - (intOf i).toNat)
          case atStart => exact ⟨0, by omega, rfl, by rw [HQ.out]⟩
          case round =>
            obtain ⟨j, hj, rfl, rfl⟩ := hrel
            by_cases hlj : j < loc.length
            · have hlj' : (j : Int) < (loc.length : Int) := by omega
              have hj0 : (0 : Int) ≤ (j : Int) := by omega
              obtain ⟨b1, o1, rfl, h1⟩ := HL.out.some (by show 0 < loc.length; omega)
              have g1 := h1 j hlj
              clear h1
              have v1 := locQ_len (loc.take j)
              have v2 := lenI_upto loc j
              have v3 := (lenI_ge loc).2 _ (List.getElem_mem hlj)
              have sj := ofL_size (Q ++ locQ (loc.take j))
              rw [List.length_append] at sj
              by_cases hj1 : j = 0
              · subst hj1
                obtain ⟨M, e1, e2, s1⟩ := loc_0 Q loc[0] loc hlj rfl
                rw [List.length_append] at s1
                have sM : M.size ≤ 10000000 := by omega
                have sX : (ofL (Q ++ locQ (loc.take 0))).size ≤ 10000000 := by omega
                have st := ofL_size loc[0]
                have HE := hide e2
                rw [Nat.add_zero] at g1
                generalize loc[0] = t at *
                generalize ofL (Q ++ locQ (loc.take 0)) = X1 at *
                generalize (Q ++ locQ (loc.take 0)).length = lX at *
                clear sj s1 v1 v2 e2
                go_wp2_with fail
                go_round
                case rel => exact ⟨1, by omega, rfl, by rw [HE.out]⟩
                case measure => simp [intOf]; omega
              · obtain ⟨M, e1, e2, s1⟩ := loc_n Q loc[j] loc j hlj rfl hj1
                rw [List.length_append] at s1
                have hjb : ((j : Int) == 0) = false := by simp; omega
                have sM : M.size ≤ 10000000 := by omega
                have sX : (ofL (Q ++ locQ (loc.take j))).size ≤ 10000000 := by omega
                have st := ofL_size loc[j]
                have HE := hide e2
                generalize loc[j] = t at *
                generalize ofL (Q ++ locQ (loc.take j)) = X1 at *
                clear sj s1 v1 v2 e2
                go_wp2_with fail
                go_round
                case rel => exact ⟨j + 1, by omega, by go_num, by rw [HE.out]⟩
                case measure => simp [intOf]; omega
            · obtain rfl : j = loc.length := by omega
              have hlj' : ¬ (loc.length : Int) < (loc.length : Int) := by omega
              rw [List.take_length]
              generalize hX : ofL (Q ++ locQ loc) = X1 at *
              have HX := hide hX
              clear hX
              go_wp2_with fail
              go_ret
              exact ⟨ret_s (by first | exact HF.out | (rw [← HX.out]; exact HF.out)), HW.out⟩
        · obtain ⟨a1, T1, e1, f1, s1, g1, w1⟩ := catC T0 ⟨#[114, 99]⟩ n
          have ql1 : (⟨#[114, 99]⟩ : ByteArray).size = 2 := rfl
          have y1 : T1.size ≤ 2148577 := by omega
          have y1' : a1.size ≤ 2148577 := by omega
          clear ql1 s1 g1
          obtain ⟨a2, T2, e2, f2, s2, g2, w2⟩ := catC T1 ⟨#[46, 112, 111, 115, 116]⟩ m
          have ql2 : (⟨#[46, 112, 111, 115, 116]⟩ : ByteArray).size = 5 := rfl
          have y2 : T2.size ≤ 3248577 := by omega
          have y2' : a2.size ≤ 3248577 := by omega
          clear ql2 s2 g2
          obtain ⟨a3, T3, e3, f3, s3, g3, w3⟩ := catC T2 ⟨#[46, 100, 101, 118]⟩ k
          have ql3 : (⟨#[46, 100, 101, 118]⟩ : ByteArray).size = 4 := rfl
          have y3 : T3.size ≤ 4348577 := by omega
          have y3' : a3.size ≤ 4348577 := by omega
          clear ql3 s3 g3
          obtain ⟨Q, HQ⟩ : ∃ Q, Hid (T3 = ofL (Q ++ locQ (loc.take 0)) ∧ Q.length = T3.size ∧ ofL (Q ++ locQ loc) = ofL (textP ⟨ep, rel, 114, n, true, m, true, k, loc⟩)) := by
            refine ⟨T3.data.toList, ?_, ?_, ?_⟩
            · rw [List.take_zero]; show T3 = ofL (T3.data.toList ++ []); rw [List.append_nil, ofL_self]
            · exact len_data _
            · rw [w3, w2, w1, D0]
              unfold textP tailT preT preW postT devT locT locQ
              simp
          have qL := HQ.out.2.1
          have HF := hide HQ.out.2.2
          have HQ := hide HQ.out.1
          clear D0 w1 w2 w3
          go_wp2_with fail
          go_loop [3, 5] (fun y i => ∃ j : Nat, j ≤ loc.length ∧ i = .int .i64 j ∧ y = .string (ofL (Q ++ locQ (loc.take j)))) (fun _ i => loc.length - (intOf i).toNat)
          case atStart => exact ⟨0, by omega, rfl, by rw [HQ.out]⟩
          case round =>
            obtain ⟨j, hj, rfl, rfl⟩ := hrel
            by_cases hlj : j < loc.length
            · have hlj' : (j : Int) < (loc.length : Int) := by omega
              have hj0 : (0 : Int) ≤ (j : Int) := by omega
              obtain ⟨b1, o1, rfl, h1⟩ := HL.out.some (by show 0 < loc.length; omega)
              have g1 := h1 j hlj
              clear h1
              have v1 := locQ_len (loc.take j)
              have v2 := lenI_upto loc j
              have v3 := (lenI_ge loc).2 _ (List.getElem_mem hlj)
              have sj := ofL_size (Q ++ locQ (loc.take j))
              rw [List.length_append] at sj
              by_cases hj1 : j = 0
              · subst hj1
                obtain ⟨M, e1, e2, s1⟩ := loc_0 Q loc[0] loc hlj rfl
                rw [List.length_append] at s1
                have sM : M.size ≤ 10000000 := by omega
                have sX : (ofL (Q ++ locQ (loc.take 0))).size ≤ 10000000 := by omega
                have st := ofL_size loc[0]
                have HE := hide e2
                rw [Nat.add_zero] at g1
                generalize loc[0] = t at *
                generalize ofL (Q ++ locQ (loc.take 0)) = X1 at *
                generalize (Q ++ locQ (loc.take 0)).length = lX at *
                clear sj s1 v1 v2 e2
                go_wp2_with fail
                go_round
                case rel => exact ⟨1, by omega, rfl, by rw [HE.out]⟩
                case measure => simp [intOf]; omega
              · obtain ⟨M, e1, e2, s1⟩ := loc_n Q loc[j] loc j hlj rfl hj1
                rw [List.length_append] at s1
                have hjb : ((j : Int) == 0) = false := by simp; omega
                have sM : M.size ≤ 10000000 := by omega
                have sX : (ofL (Q ++ locQ (loc.take j))).size ≤ 10000000 := by omega
                have st := ofL_size loc[j]
                have HE := hide e2
                generalize loc[j] = t at *
                generalize ofL (Q ++ locQ (loc.take j)) = X1 at *
                clear sj s1 v1 v2 e2
                go_wp2_with fail
                go_round
                case rel => exact ⟨j + 1, by omega, by go_num, by rw [HE.out]⟩
                case measure => simp [intOf]; omega
            · obtain rfl : j = loc.length := by omega
              have hlj' : ¬ (loc.length : Int) < (loc.length : Int) := by omega
              rw [List.take_length]
              generalize hX : ofL (Q ++ locQ loc) = X1 at *
              have HX := hide hX
              clear hX
              go_wp2_with fail
              go_ret
              exact ⟨ret_s (by first | exact HF.out | (rw [← HX.out]; exact HF.out)), HW.out⟩

end Go.Proofs.YtagnikhkmaplpaaGreat

/-
  Walks: the texts of versions by the document.
-/
namespace Go.Proofs.YtagnikhkmaplpaaGreat
open Go.RowKit Go.Shelf
set_option linter.unusedVariables false

set_option maxRecDepth 100000 in
set_option maxHeartbeats 8000000 in
theorem Rraw_e0 (ep : List UInt8) (rel : List (List UInt8)) (n : List UInt8) (b : Bool) (m : List UInt8) (d : Bool) (k : List UInt8) (loc : List (List UInt8)) (r1 q1 : Option Addr) (c1 d1 : Nat) (w : World) (rr : Txt w (.slice r1 rel.length c1) rel) (ll : Txt w (.slice q1 loc.length d1) loc) (hl : ep.length + lenI rel + n.length + m.length + k.length + lenI loc ≤ 1048576) (he : ep ≠ [48]) :
    Calls Tryz.prog 34 #[.agg #[.string (ofL ep), .slice r1 rel.length c1, .int .u8 0, .string (ofL n), .bool b, .string (ofL m), .bool d, .string (ofL k), .slice q1 loc.length d1]] w fun e w' => e = .returned (.string (ofL (textP ⟨ep, rel, 0, n, b, m, d, k, loc⟩))) ∧ Below w.heap.size w w' := by
  have S0 : TB w ⟨ep, rel, 0, n, b, m, d, k, loc⟩ r1 q1 c1 d1 (w.alloc (.cells #[.string (ofL ep), .slice r1 rel.length c1, .int .u8 0, .string (ofL n), .bool b, .string (ofL m), .bool d, .string (ofL k), .slice q1 loc.length d1] 24)) := TB.start (x := ⟨ep, rel, 0, n, b, m, d, k, loc⟩) rr ll
  have hlen := (lenI_ge rel).1
  have hlen2 := (lenI_ge loc).1
  have x1 := ofL_size n
  have x2 := ofL_size m
  have x3 := ofL_size k
  have e48 : ((ofL ep).toList == [48]) = false := eq48' ep false (by simpa using he)
  have HQ0 : Hid ((ep ++ [33]) ++ joinL rel = baseL ep rel) := by show _ = _; unfold baseL; rw [if_neg he]
  have hc33 : ofL ep ++ ⟨#[33]⟩ = ofL (ep ++ [33]) := by rw [← cat_LL]; rfl
  have HP0 : Hid (ofL (ep ++ [33]) = ofL ((ep ++ [33]) ++ joinL (rel.take 0))) := by show _ = _; simp [joinL]
  have se := ofL_size ep
  clear rr ll he
  obtain ⟨s0, s1, s2, s3, s4, s5, s6, s7, s8⟩ := S0.seen
  dsimp only at s0 s1 s2 s3 s4 s5 s6 s7 s8
  have HS := hide S0
  clear S0
  go_enter Tryz.func34, Tryz.ntmps34
  go_wp2_with fail
  generalize w.alloc (.cells #[.string (ofL ep), .slice r1 rel.length c1, .int .u8 0, .string (ofL n), .bool b, .string (ofL m), .bool d, .string (ofL k), .slice q1 loc.length d1] 24) = W0 at *
  go_loop [3, 4] (fun x i => ∃ j : Nat, j ≤ rel.length ∧ i = .int .i64 j ∧ x = .string (ofL ((ep ++ [33]) ++ joinL (rel.take j)))) (fun _ i => rel.length - (intOf i).toNat)
  case atStart => exact ⟨0, by omega, rfl, by rw [HP0.out]⟩
  case round =>
    obtain ⟨j, hj, rfl, rfl⟩ := hrel
    by_cases hlt : j < rel.length
    · obtain ⟨b1, o1, rfl, h1⟩ := HS.out.rr.some (by show 0 < rel.length; omega)
      have g1 := h1 j hlt
      have hlt' : (j : Int) < (rel.length : Int) := by omega
      have hk0 : (0 : Int) ≤ (j : Int) := by omega
      have z1 := joinL_len (rel.take j)
      have z2 := lenI_upto rel (j + 1)
      have z3 := lenI_take rel j hlt
      have hT : rel.take (j + 1) = rel.take j ++ [rel[j]] := by rw [List.take_succ_eq_append_getElem hlt]
      dsimp only at g1
      generalize ht : rel[j] = t at *
      clear h1 ht
      have st := ofL_size t
      have htz : t.length ≤ 1048576 := by omega
      have sj : (ofL ((ep ++ [33]) ++ joinL (rel.take j))).size ≤ 1048577 := by rw [ofL_size, List.length_append]; try simp only [List.length_nil, List.length_append, List.length_cons]; omega
      have HC : Hid (∀ (h : j ≠ 0), ofL (((ep ++ [33]) ++ joinL (rel.take j)) ++ [46]) ++ ofL t = ofL ((ep ++ [33]) ++ joinL (rel.take (j + 1)))) := by
        show ∀ (h : j ≠ 0), _ = _
        intro h
        rw [hT, cat_LL]
        cases hx : rel.take j with
        | nil => exfalso; have := congrArg List.length hx; rw [List.length_take, List.length_nil] at this; omega
        | cons u r => rw [joinL_snoc]; simp
      have HD : Hid (j = 0 → ofL ((ep ++ [33]) ++ joinL (rel.take j)) ++ ofL t = ofL ((ep ++ [33]) ++ joinL (rel.take (j + 1)))) := by
        show j = 0 → _ = _
        rintro rfl
        rw [hT, cat_LL]
        simp [joinL, dotted]
      have hcat : ofL ((ep ++ [33]) ++ joinL (rel.take j)) ++ ⟨#[46]⟩ = ofL (((ep ++ [33]) ++ joinL (rel.take j)) ++ [46]) := by rw [← cat_LL]; rfl
      have sj2 : (ofL (((ep ++ [33]) ++ joinL (rel.take j)) ++ [46])).size ≤ 1048578 := by rw [ofL_size, List.length_append]; rw [ofL_size] at sj; simp only [List.length_cons, List.length_nil]; omega
      clear hT z1 z2 z3
      generalize ofL (((ep ++ [33]) ++ joinL (rel.take j)) ++ [46]) = X2 at *
      generalize ofL ((ep ++ [33]) ++ joinL (rel.take j)) = X1 at *
      by_cases hk1 : j = 0
      · have HE := hide (HD.out hk1)
        subst hk1
        rw [Nat.add_zero] at g1
        go_wp2_with fail
        go_round
        case rel => exact ⟨1, by omega, rfl, by rw [HE.out]⟩
        case measure => simp [intOf]; omega
      · have hkp : (0 : Int) < (j : Int) := by omega
        have HE := hide (HC.out hk1)
        go_wp2_with fail
        go_round
        case rel => exact ⟨j + 1, by omega, by go_num, by rw [HE.out]⟩
        case measure => simp [intOf]; omega
    · obtain rfl : j = rel.length := by omega
      have hlt' : ¬ (rel.length : Int) < (rel.length : Int) := by omega
      rw [List.take_length]
      have z1 := joinL_len rel
      have y0 : (ofL ((ep ++ [33]) ++ joinL rel)).size ≤ 1048577 := by rw [ofL_size, List.length_append]; try simp only [List.length_nil, List.length_append, List.length_cons]; omega
      have D0 : (ofL ((ep ++ [33]) ++ joinL rel)).data.toList = baseL ep rel := by rw [ofL_data]; exact HQ0.out
      generalize ofL ((ep ++ [33]) ++ joinL rel) = T0 at *
      have H1 := HS
      have HL := hide H1.out.ll
      have HW := hide H1.out.bel
      cases b
      · cases d
        · obtain ⟨Q, HQ⟩ : ∃ Q, Hid (T0 = ofL (Q ++ locQ (loc.take 0)) ∧ Q.length = T0.size ∧ ofL (Q ++ locQ loc) = ofL (textP ⟨ep, rel, 0, n, false, m, false, k, loc⟩)) := by
            refine ⟨T0.data.toList, ?_, ?_, ?_⟩
            · rw [List.take_zero]; show T0 = ofL (T0.data.toList ++ []); rw [List.append_nil, ofL_self]
            · exact len_data _
            · rw [D0]
              unfold textP tailT preT preW postT devT locT locQ
              simp
          have qL := HQ.out.2.1
          have HF := hide HQ.out.2.2
          have HQ := hide HQ.out.1
          clear D0
          go_wp2_with fail
          go_loop [3, 5] (fun y i => ∃ j : Nat, j ≤ loc.length ∧ i = .int .i64 j ∧ y = .string (ofL (Q ++ locQ (loc.take j)))) (fun _ i => loc.length - (intOf i).toNat)
          case atStart => exact ⟨0, by omega, rfl, by rw [HQ.out]⟩
          case round =>
            obtain ⟨j, hj, rfl, rfl⟩ := hrel
            by_cases hlj : j < loc.length
            · have hlj' : (j : Int) < (loc.length : Int) := by omega
              have hj0 : (0 : Int) ≤ (j : Int) := by omega
              obtain ⟨b1, o1, rfl, h1⟩ := HL.out.some (by show 0 < loc.length; omega)
              have g1 := h1 j hlj
              clear h1
              have v1 := locQ_len (loc.take j)
              have v2 := lenI_upto loc j
              have v3 := (lenI_ge loc).2 _ (List.getElem_mem hlj)
              have sj := ofL_size (Q ++ locQ (loc.take j))
              rw [List.length_append] at sj
              by_cases hj1 : j = 0
              · subst hj1
                obtain ⟨M, e1, e2, s1⟩ := loc_0 Q loc[0] loc hlj rfl
                rw [List.length_append] at s1
                have sM : M.size ≤ 10000000 := by omega
                have sX : (ofL (Q ++ locQ (loc.take 0))).size ≤ 10000000 := by omega
                have st := ofL_size loc[0]
                have HE := hide e2
                rw [Nat.add_zero] at g1
                generalize loc[0] = t at *
                generalize ofL (Q ++ locQ (loc.take 0)) = X1 at *
                generalize (Q ++ locQ (loc.take 0)).length = lX at *
                clear sj s1 v1 v2 e2
                go_wp2_with fail
                go_round
                case rel => exact ⟨1, by omega, rfl, by rw [HE.out]⟩
                case measure => simp [intOf]; omega
              · obtain ⟨M, e1, e2, s1⟩ := loc_n Q loc[j] loc j hlj rfl hj1
                rw [List.length_append] at s1
                have hjb : ((j : Int) == 0) = false := by simp; omega
                have sM : M.size ≤ 10000000 := by omega
                have sX : (ofL (Q ++ locQ (loc.take j))).size ≤ 10000000 := by omega
                have st := ofL_size loc[j]
                have HE := hide e2
                generalize loc[j] = t at *
                generalize ofL (Q ++ locQ (loc.take j)) = X1 at *
                clear sj s1 v1 v2 e2
                go_wp2_with fail
                go_round
                case rel => exact ⟨j + 1, by omega, by go_num, by rw [HE.out]⟩
                case measure => simp [intOf]; omega
            · obtain rfl : j = loc.length := by omega
              have hlj' : ¬ (loc.length : Int) < (loc.length : Int) := by omega
              rw [List.take_length]
              generalize hX : ofL (Q ++ locQ loc) = X1 at *
              have HX := hide hX
              clear hX
              go_wp2_with fail
              go_ret
              exact ⟨ret_s (by first | exact HF.out | (rw [← HX.out]; exact HF.out)), HW.out⟩
        · obtain ⟨a3, T3, e3, f3, s3, g3, w3⟩ := catC T0 ⟨#[46, 100, 101, 118]⟩ k
          have ql3 : (⟨#[46, 100, 101, 118]⟩ : ByteArray).size = 4 := rfl
          have y3 : T3.size ≤ 4348577 := by omega
          have y3' : a3.size ≤ 4348577 := by omega
          clear ql3 s3 g3
          obtain ⟨Q, HQ⟩ : ∃ Q, Hid (T3 = ofL (Q ++ locQ (loc.take 0)) ∧ Q.length = T3.size ∧ ofL (Q ++ locQ loc) = ofL (textP ⟨ep, rel, 0, n, false, m, true, k, loc⟩)) := by
            refine ⟨T3.data.toList, ?_, ?_, ?_⟩
            · rw [List.take_zero]; show T3 = ofL (T3.data.toList ++ []); rw [List.append_nil, ofL_self]
            · exact len_data _
            · rw [w3, D0]
              unfold textP tailT preT preW postT devT locT locQ
              simp
          have qL := HQ.out.2.1
          have HF := hide HQ.out.2.2
          have HQ := hide HQ.out.1
          clear D0 w3
          go_wp2_with fail
          go_loop [3, 5] (fun y i => ∃ j : Nat, j ≤ loc.length ∧ i = .int .i64 j ∧ y = .string (ofL (Q ++ locQ (loc.take j)))) (fun _ i => loc.length - (intOf i).toNat)
          case atStart => exact ⟨0, by omega, rfl, by rw [HQ.out]⟩
          case round =>
            obtain ⟨j, hj, rfl, rfl⟩ := hrel
            by_cases hlj : j < loc.length
            · have hlj' : (j : Int) < (loc.length : Int) := by omega
              have hj0 : (0 : Int) ≤ (j : Int) := by omega
              obtain ⟨b1, o1, rfl, h1⟩ := HL.out.some (by show 0 < loc.length; omega)
              have g1 := h1 j hlj
              clear h1
              have v1 := locQ_len (loc.take j)
              have v2 := lenI_upto loc j
              have v3 := (lenI_ge loc).2 _ (List.getElem_mem hlj)
              have sj := ofL_size (Q ++ locQ (loc.take j))
              rw [List.length_append] at sj
              by_cases hj1 : j = 0
              · subst hj1
                obtain ⟨M, e1, e2, s1⟩ := loc_0 Q loc[0] loc hlj rfl
                rw [List.length_append] at s1
                have sM : M.size ≤ 10000000 := by omega
                have sX : (ofL (Q ++ locQ (loc.take 0))).size ≤ 10000000 := by omega
                have st := ofL_size loc[0]
                have HE := hide e2
                rw [Nat.add_zero] at g1
                generalize loc[0] = t at *
                generalize ofL (Q ++ locQ (loc.take 0)) = X1 at *
                generalize (Q ++ locQ (loc.take 0)).length = lX at *
                clear sj s1 v1 v2 e2
                go_wp2_with fail
                go_round
                case rel => exact ⟨1, by omega, rfl, by rw [HE.out]⟩
                case measure => simp [intOf]; omega
              · obtain ⟨M, e1, e2, s1⟩ := loc_n Q loc[j] loc j hlj rfl hj1
                rw [List.length_append] at s1
                have hjb : ((j : Int) == 0) = false := by simp; omega
                have sM : M.size ≤ 10000000 := by omega
                have sX : (ofL (Q ++ locQ (loc.take j))).size ≤ 10000000 := by omega
                have st := ofL_size loc[j]
                have HE := hide e2
                generalize loc[j] = t at *
                generalize ofL (Q ++ locQ (loc.take j)) = X1 at *
                clear sj s1 v1 v2 e2
                go_wp2_with fail
                go_round
                case rel => exact ⟨j + 1, by omega, by go_num, by rw [HE.out]⟩
                case measure => simp [intOf]; omega
            · obtain rfl : j = loc.length := by omega
              have hlj' : ¬ (loc.length : Int) < (loc.length : Int) := by omega
              rw [List.take_length]
              generalize hX : ofL (Q ++ locQ loc) = X1 at *
              have HX := hide hX
              clear hX
              go_wp2_with fail
              go_ret
              exact ⟨ret_s (by first | exact HF.out | (rw [← HX.out]; exact HF.out)), HW.out⟩
      · cases d
        · obtain ⟨a2, T2, e2, f2, s2, g2, w2⟩ := catC T0 ⟨#[46, 112, 111, 115, 116]⟩ m
          have ql2 : (⟨#[46, 112, 111, 115, 116]⟩ : ByteArray).size = 5 := rfl
          have y2 : T2.size ≤ 3248577 := by omega
          have y2' : a2.size ≤ 3248577 := by omega
          clear ql2 s2 g2
          obtain ⟨Q, HQ⟩ : ∃ Q, Hid (T2 = ofL (Q ++ locQ (loc.take 0)) ∧ Q.length = T2.size ∧ ofL (Q ++ locQ loc) = ofL (textP ⟨ep, rel, 0, n, true, m, false, k, loc⟩)) := by
            refine ⟨T2.data.toList, ?_, ?_, ?_⟩
            · rw [List.take_zero]; show T2 = ofL (T2.data.toList ++ []); rw [List.append_nil, ofL_self]
            · exact len_data _
            · rw [w2, D0]
              unfold textP tailT preT preW postT devT locT locQ
              simp
          have qL := HQ.out.2.1
          have HF := hide HQ.out.2.2
          have HQ := hide HQ.out.1
          clear D0 w2
          go_wp2_with fail
          go_loop [3, 5] (fun y i => ∃ j : Nat, j ≤ loc.length ∧ i = .int .i64 j ∧ y = .string (ofL (Q ++ locQ (loc.take j)))) (fun _ i => loc.length - (intOf i).toNat)
          case atStart => exact ⟨0, by omega, rfl, by rw [HQ.out]⟩
          case round =>
            obtain ⟨j, hj, rfl, rfl⟩ := hrel
            by_cases hlj : j < loc.length
            · have hlj' : (j : Int) < (loc.length : Int) := by omega
              have hj0 : (0 : Int) ≤ (j : Int) := by omega
              obtain ⟨b1, o1, rfl, h1⟩ := HL.out.some (by show 0 < loc.length; omega)
              have g1 := h1 j hlj
              clear h1
              have v1 := locQ_len (loc.take j)
              have v2 := lenI_upto loc j
              have v3 := (lenI_ge loc).2 _ (List.getElem_mem hlj)
              have sj := ofL_size (Q ++ locQ (loc.take j))
              rw [List.length_append] at sj
              by_cases hj1 : j = 0
              · subst hj1
                obtain ⟨M, e1, e2, s1⟩ := loc_0 Q loc[0] loc hlj rfl
                rw [List.length_append] at s1
                have sM : M.size ≤ 10000000 := by omega
                have sX : (ofL (Q ++ locQ (loc.take 0))).size ≤ 10000000 := by omega
                have st := ofL_size loc[0]
                have HE := hide e2
                rw [Nat.add_zero] at g1
                generalize loc[0] = t at *
                generalize ofL (Q ++ locQ (loc.take 0)) = X1 at *
                generalize (Q ++ locQ (loc.take 0)).length = lX at *
                clear sj s1 v1 v2 e2
                go_wp2_with fail
                go_round
                case rel => exact ⟨1, by omega, rfl, by rw [HE.out]⟩
                case measure => simp [intOf]; omega
              · obtain ⟨M, e1, e2, s1⟩ := loc_n Q loc[j] loc j hlj rfl hj1
                rw [List.length_append] at s1
                have hjb : ((j : Int) == 0) = false := by simp; omega
                have sM : M.size ≤ 10000000 := by omega
                have sX : (ofL (Q ++ locQ (loc.take j))).size ≤ 10000000 := by omega
                have st := ofL_size loc[j]
                have HE := hide e2
                generalize loc[j] = t at *
                generalize ofL (Q ++ locQ (loc.take j)) = X1 at *
                clear sj s1 v1 v2 e2
                go_wp2_with fail
                go_round
                case rel => exact ⟨j + 1, by omega, by go_num, by rw [HE.out]⟩
                case measure => simp [intOf]; omega
            · obtain rfl : j = loc.length := by omega
              have hlj' : ¬ (loc.length : Int) < (loc.length : Int) := by omega
              rw [List.take_length]
              generalize hX : ofL (Q ++ locQ loc) = X1 at *
              have HX := hide hX
              clear hX
              go_wp2_with fail
              go_ret
              exact ⟨ret_s (by first | exact HF.out | (rw [← HX.out]; exact HF.out)), HW.out⟩
        · obtain ⟨a2, T2, e2, f2, s2, g2, w2⟩ := catC T0 ⟨#[46, 112, 111, 115, 116]⟩ m
          have ql2 : (⟨#[46, 112, 111, 115, 116]⟩ : ByteArray).size = 5 := rfl
          have y2 : T2.size ≤ 3248577 := by omega
          have y2' : a2.size ≤ 3248577 := by omega
          clear ql2 s2 g2
          obtain ⟨a3, T3, e3, f3, s3, g3, w3⟩ := catC T2 ⟨#[46, 100, 101, 118]⟩ k
          have ql3 : (⟨#[46, 100, 101, 118]⟩ : ByteArray).size = 4 := rfl
          have y3 : T3.size ≤ 4348577 := by omega
          have y3' : a3.size ≤ 4348577 := by omega
          clear ql3 s3 g3
          obtain ⟨Q, HQ⟩ : ∃ Q, Hid (T3 = ofL (Q ++ locQ (loc.take 0)) ∧ Q.length = T3.size ∧ ofL (Q ++ locQ loc) = ofL (textP ⟨ep, rel, 0, n, true, m, true, k, loc⟩)) := by
            refine ⟨T3.data.toList, ?_, ?_, ?_⟩
            · rw [List.take_zero]; show T3 = ofL (T3.data.toList ++ []); rw [List.append_nil, ofL_self]
            · exact len_data _
            · rw [w3, w2, D0]
              unfold textP tailT preT preW postT devT locT locQ
              simp
          have qL := HQ.out.2.1
          have HF := hide HQ.out.2.2
          have HQ := hide HQ.out.1
          clear D0 w2 w3
          go_wp2_with fail
          go_loop [3, 5] (fun y i => ∃ j : Nat, j ≤ loc.length ∧ i = .int .i64 j ∧ y = .string (ofL (Q ++ locQ (loc.take j)))) (fun _ i => loc.length - (intOf i).toNat)
          case atStart => exact ⟨0, by omega, rfl, by rw [HQ.out]⟩
          case round =>
            obtain ⟨j, hj, rfl, rfl⟩ := hrel
            by_cases hlj : j < loc.length
            · have hlj' : (j : Int) < (loc.length : Int) := by omega
              have hj0 : (0 : Int) ≤ (j : Int) := by omega
              obtain ⟨b1, o1, rfl, h1⟩ := HL.out.some (by show 0 < loc.length; omega)
              have g1 := h1 j hlj
              clear h1
              have v1 := locQ_len (loc.take j)
              have v2 := lenI_upto loc j
              have v3 := (lenI_ge loc).2 _ (List.getElem_mem hlj)
              have sj := ofL_size (Q ++ locQ (loc.take j))
              rw [List.length_append] at sj
              by_cases hj1 : j = 0
              · subst hj1
                obtain ⟨M, e1, e2, s1⟩ := loc_0 Q loc[0] loc hlj rfl
                rw [List.length_append] at s1
                have sM : M.size ≤ 10000000 := by omega
                have sX : (ofL (Q ++ locQ (loc.take 0))).size ≤ 10000000 := by omega
                have st := ofL_size loc[0]
                have HE := hide e2
                rw [Nat.add_zero] at g1
                generalize loc[0] = t at *
                generalize ofL (Q ++ locQ (loc.take 0)) = X1 at *
                generalize (Q ++ locQ (loc.take 0)).length = lX at *
                clear sj s1 v1 v2 e2
                go_wp2_with fail
                go_round
                case rel => exact ⟨1, by omega, rfl, by rw [HE.out]⟩
                case measure => simp [intOf]; omega
              · obtain ⟨M, e1, e2, s1⟩ := loc_n Q loc[j] loc j hlj rfl hj1
                rw [List.length_append] at s1
                have hjb : ((j : Int) == 0) = false := by simp; omega
                have sM : M.size ≤ 10000000 := by omega
                have sX : (ofL (Q ++ locQ (loc.take j))).size ≤ 10000000 := by omega
                have st := ofL_size loc[j]
                have HE := hide e2
                generalize loc[j] = t at *
                generalize ofL (Q ++ locQ (loc.take j)) = X1 at *
                clear sj s1 v1 v2 e2
                go_wp2_with fail
                go_round
                case rel => exact ⟨j + 1, by omega, by go_num, by rw [HE.out]⟩
                case measure => simp [intOf]; omega
            · obtain rfl : j = loc.length := by omega
              have hlj' : ¬ (loc.length : Int) < (loc.length : Int) := by omega
              rw [List.take_length]
              generalize hX : ofL (Q ++ locQ loc) = X1 at *
              have HX := hide hX
              clear hX
              go_wp2_with fail
              go_ret
              exact ⟨ret_s (by first | exact HF.out | (rw [← HX.out]; exact HF.out)), HW.out⟩

set_option maxRecDepth 100000 in
set_option maxHeartbeats 8000000 in
theorem Rraw_e97 (ep : List UInt8) (rel : List (List UInt8)) (n : List UInt8) (b : Bool) (m : List UInt8) (d : Bool) (k : List UInt8) (loc : List (List UInt8)) (r1 q1 : Option Addr) (c1 d1 : Nat) (w : World) (rr : Txt w (.slice r1 rel.length c1) rel) (ll : Txt w (.slice q1 loc.length d1) loc) (hl : ep.length + lenI rel + n.length + m.length + k.length + lenI loc ≤ 1048576) (he : ep ≠ [48]) :
    Calls Tryz.prog 34 #[.agg #[.string (ofL ep), .slice r1 rel.length c1, .int .u8 97, .string (ofL n), .bool b, .string (ofL m), .bool d, .string (ofL k), .slice q1 loc.length d1]] w fun e w' => e = .returned (.string (ofL (textP ⟨ep, rel, 97, n, b, m, d, k, loc⟩))) ∧ Below w.heap.size w w' := by
  have S0 : TB w ⟨ep, rel, 97, n, b, m, d, k, loc⟩ r1 q1 c1 d1 (w.alloc (.cells #[.string (ofL ep), .slice r1 rel.length c1, .int .u8 97, .string (ofL n), .bool b, .string (ofL m), .bool d, .string (ofL k), .slice q1 loc.length d1] 24)) := TB.start (x := ⟨ep, rel, 97, n, b, m, d, k, loc⟩) rr ll
  have hlen := (lenI_ge rel).1
  have hlen2 := (lenI_ge loc).1
  have x1 := ofL_size n
  have x2 := ofL_size m
  have x3 := ofL_size k
  have e48 : ((ofL ep).toList == [48]) = false := eq48' ep false (by simpa using he)
  have HQ0 : Hid ((ep ++ [33]) ++ joinL rel = baseL ep rel) := by show _ = _; unfold baseL; rw [if_neg he]
  have hc33 : ofL ep ++ ⟨#[33]⟩ = ofL (ep ++ [33]) := by rw [← cat_LL]; rfl
  have HP0 : Hid (ofL (ep ++ [33]) = ofL ((ep ++ [33]) ++ joinL (rel.take 0))) := by show _ = _; simp [joinL]
  have se := ofL_size ep
  clear rr ll he
  obtain ⟨s0, s1, s2, s3, s4, s5, s6, s7, s8⟩ := S0.seen
  dsimp only at s0 s1 s2 s3 s4 s5 s6 s7 s8
  have HS := hide S0
  clear S0
  go_enter Tryz.func34, Tryz.ntmps34
  go_wp2_with fail
  generalize w.alloc (.cells #[.string (ofL ep), .slice r1 rel.length c1, .int .u8 97, .string (ofL n), .bool b, .string (ofL m), .bool d, .string (ofL k), .slice q1 loc.length d1] 24) = W0 at *
  go_loop [3, 4] (fun x i => ∃ j : Nat, j ≤ rel.length ∧ i = .int .i64 j ∧ x = .string (ofL ((ep ++ [33]) ++ joinL (rel.take j)))) (fun _ i => rel.length - (intOf i).toNat)
  case atStart => exact ⟨0, by omega, rfl, by rw [HP0.out]⟩
  case round =>
    obtain ⟨j, hj, rfl, rfl⟩ := hrel
    by_cases hlt : j < rel.length
    · obtain ⟨b1, o1, rfl, h1⟩ := HS.out.rr.some (by show 0 < rel.length; omega)
      have g1 := h1 j hlt
      have hlt' : (j : Int) < (rel.length : Int) := by omega
      have hk0 : (0 : Int) ≤ (j : Int) := by omega
      have z1 := joinL_len (rel.take j)
      have z2 := lenI_upto rel (j + 1)
      have z3 := lenI_take rel j hlt
      have hT : rel.take (j + 1) = rel.take j ++ [rel[j]] := by rw [List.take_succ_eq_append_getElem hlt]
      dsimp only at g1
      generalize ht : rel[j] = t at *
      clear h1 ht
      have st := ofL_size t
      have htz : t.length ≤ 1048576 := by omega
      have sj : (ofL ((ep ++ [33]) ++ joinL (rel.take j))).size ≤ 1048577 := by rw [ofL_size, List.length_append]; try simp only [List.length_nil, List.length_append, List.length_cons]; omega
      have HC : Hid (∀ (h : j ≠ 0), ofL (((ep ++ [33]) ++ joinL (rel.take j)) ++ [46]) ++ ofL t = ofL ((ep ++ [33]) ++ joinL (rel.take (j + 1)))) := by
        show ∀ (h : j ≠ 0), _ = _
        intro h
        rw [hT, cat_LL]
        cases hx : rel.take j with
        | nil => exfalso; have := congrArg List.length hx; rw [List.length_take, List.length_nil] at this; omega
        | cons u r => rw [joinL_snoc]; simp
      have HD : Hid (j = 0 → ofL ((ep ++ [33]) ++ joinL (rel.take j)) ++ ofL t = ofL ((ep ++ [33]) ++ joinL (rel.take (j + 1)))) := by
        show j = 0 → _ = _
        rintro rfl
        rw [hT, cat_LL]
        simp [joinL, dotted]
      have hcat : ofL ((ep ++ [33]) ++ joinL (rel.take j)) ++ ⟨#[46]⟩ = ofL (((ep ++ [33]) ++ joinL (rel.take j)) ++ [46]) := by rw [← cat_LL]; rfl
      have sj2 : (ofL (((ep ++ [33]) ++ joinL (rel.take j)) ++ [46])).size ≤ 1048578 := by rw [ofL_size, List.length_append]; rw [ofL_size] at sj; simp only [List.length_cons, List.length_nil]; omega
      clear hT z1 z2 z3
      generalize ofL (((ep ++ [33]) ++ joinL (rel.take j)) ++ [46]) = X2 at *
      generalize ofL ((ep ++ [33]) ++ joinL (rel.take j)) = X1 at *
      by_cases hk1 : j = 0
      · have HE := hide (HD.out hk1)
        subst hk1
        rw [Nat.add_zero] at g1
        go_wp2_with fail
        go_round
        case rel => exact ⟨1, by omega, rfl, by rw [HE.out]⟩
        case measure => simp [intOf]; omega
      · have hkp : (0 : Int) < (j : Int) := by omega
        have HE := hide (HC.out hk1)
        go_wp2_with fail
        go_round
        case rel => exact ⟨j + 1, by omega, by go_num, by rw [HE.out]⟩
        case measure => simp [intOf]; omega
    · obtain rfl : j = rel.length := by omega
      have hlt' : ¬ (rel.length : Int) < (rel.length : Int) := by omega
      rw [List.take_length]
      have z1 := joinL_len rel
      have y0 : (ofL ((ep ++ [33]) ++ joinL rel)).size ≤ 1048577 := by rw [ofL_size, List.length_append]; try simp only [List.length_nil, List.length_append, List.length_cons]; omega
      have D0 : (ofL ((ep ++ [33]) ++ joinL rel)).data.toList = baseL ep rel := by rw [ofL_data]; exact HQ0.out
      generalize ofL ((ep ++ [33]) ++ joinL rel) = T0 at *
      have bb := (Below.refl _ W0).alloc (Nat.le_refl _) (.cells #[.int .u8 97] 5)
      have hy : Bys (W0.alloc (.cells #[.int .u8 97] 5)) W0.heap.size [97] := by
        have e := World.alloc_heap_new W0 (.cells #[.int .u8 97] 5)
        refine ⟨fun i hi => ?_, fun i hi => one_free i e⟩
        match i, hi with
        | 0, _ => exact cell_at 0 e rfl
      have hback := hy.back (P := Tryz.prog) 66 9 5 1 Tryz.underlying66 Tryz.underlying5 Tryz.underlying9
      have hlb : ([97] : List UInt8).length = 1 := rfl
      rw [hlb] at hback
      have H1 := hide (HS.out.next bb)
      obtain ⟨i0, i1, i2, i3, i4, i5, i6, i7, i8⟩ := H1.out.seen
      dsimp only at i0 i1 i2 i3 i4 i5 i6 i7 i8
      have HL := hide H1.out.ll
      have HW := hide H1.out.bel
      cases b
      · cases d
        · obtain ⟨a1, T1, e1, f1, s1, g1, w1⟩ := catC T0 (ofL [97]) n
          have ql1 : ((ofL [97]) : ByteArray).size = 1 := ofL_size _
          have y1 : T1.size ≤ 2148577 := by omega
          have y1' : a1.size ≤ 2148577 := by omega
          clear s1 g1
          obtain ⟨Q, HQ⟩ : ∃ Q, Hid (T1 = ofL (Q ++ locQ (loc.take 0)) ∧ Q.length = T1.size ∧ ofL (Q ++ locQ loc) = ofL (textP ⟨ep, rel, 97, n, false, m, false, k, loc⟩)) := by
            refine ⟨T1.data.toList, ?_, ?_, ?_⟩
            · rw [List.take_zero]; show T1 = ofL (T1.data.toList ++ []); rw [List.append_nil, ofL_self]
            · exact len_data _
            · rw [w1, D0]
              unfold textP tailT preT preW postT devT locT locQ
              simp [ofL_data]
          have qL := HQ.out.2.1
          have HF := hide HQ.out.2.2
          have HQ := hide HQ.out.1
          clear D0 w1
          go_wp2_with fail
          generalize W0.alloc (.cells #[.int .u8 97] 5) = W1 at *
          go_loop [3, 5] (fun y i => ∃ j : Nat, j ≤ loc.length ∧ i = .int .i64 j ∧ y = .string (ofL (Q ++ locQ (loc.take j)))) (fun _ i => loc.length - (intOf i).toNat)
          case atStart => exact ⟨0, by omega, rfl, by rw [HQ.out]⟩
          case round =>
            obtain ⟨j, hj, rfl, rfl⟩ := hrel
            by_cases hlj : j < loc.length
            · have hlj' : (j : Int) < (loc.length : Int) := by omega
              have hj0 : (0 : Int) ≤ (j : Int) := by omega
              obtain ⟨b1, o1, rfl, h1⟩ := HL.out.some (by show 0 < loc.length; omega)
              have g1 := h1 j hlj
              clear h1
              have v1 := locQ_len (loc.take j)
              have v2 := lenI_upto loc j
              have v3 := (lenI_ge loc).2 _ (List.getElem_mem hlj)
              have sj := ofL_size (Q ++ locQ (loc.take j))
              rw [List.length_append] at sj
              by_cases hj1 : j = 0
              · subst hj1
                obtain ⟨M, e1, e2, s1⟩ := loc_0 Q loc[0] loc hlj rfl
                rw [List.length_append] at s1
                have sM : M.size ≤ 10000000 := by omega
                have sX : (ofL (Q ++ locQ (loc.take 0))).size ≤ 10000000 := by omega
                have st := ofL_size loc[0]
                have HE := hide e2
                rw [Nat.add_zero] at g1
                generalize loc[0] = t at *
                generalize ofL (Q ++ locQ (loc.take 0)) = X1 at *
                generalize (Q ++ locQ (loc.take 0)).length = lX at *
                clear sj s1 v1 v2 e2
                go_wp2_with fail
                go_round
                case rel => exact ⟨1, by omega, rfl, by rw [HE.out]⟩
                case measure => simp [intOf]; omega
              · obtain ⟨M, e1, e2, s1⟩ := loc_n Q loc[j] loc j hlj rfl hj1
                rw [List.length_append] at s1
                have hjb : ((j : Int) == 0) = false := by simp; omega
                have sM : M.size ≤ 10000000 := by omega
                have sX : (ofL (Q ++ locQ (loc.take j))).size ≤ 10000000 := by omega
                have st := ofL_size loc[j]
                have HE := hide e2
                generalize loc[j] = t at *
                generalize ofL (Q ++ locQ (loc.take j)) = X1 at *
                clear sj s1 v1 v2 e2
                go_wp2_with fail
                go_round
                case rel => exact ⟨j + 1, by omega, by go_num, by rw [HE.out]⟩
                case measure => simp [intOf]; omega
            · obtain rfl : j = loc.length := by omega
              have hlj' : ¬ (loc.length : Int) < (loc.length : Int) := by omega
              rw [List.take_length]
              generalize hX : ofL (Q ++ locQ loc) = X1 at *
              have HX := hide hX
              clear hX
              go_wp2_with fail
              go_ret
              exact ⟨ret_s (by first | exact HF.out | (rw [← HX.out]; exact HF.out)), HW.out⟩
        · obtain ⟨a1, T1, e1, f1, s1, g1, w1⟩ := catC T0 (ofL [97]) n
          have ql1 : ((ofL [97]) : ByteArray).size = 1 := ofL_size _
          have y1 : T1.size ≤ 2148577 := by omega
          have y1' : a1.size ≤ 2148577 := by omega
          clear s1 g1
          obtain ⟨a3, T3, e3, f3, s3, g3, w3⟩ := catC T1 ⟨#[46, 100, 101, 118]⟩ k
          have ql3 : (⟨#[46, 100, 101, 118]⟩ : ByteArray).size = 4 := rfl
          have y3 : T3.size ≤ 4348577 := by omega
          have y3' : a3.size ≤ 4348577 := by omega
          clear ql3 s3 g3
          obtain ⟨Q, HQ⟩ : ∃ Q, Hid (T3 = ofL (Q ++ locQ (loc.take 0)) ∧ Q.length = T3.size ∧ ofL (Q ++ locQ loc) = ofL (textP ⟨ep, rel, 97, n, false, m, true, k, loc⟩)) := by
            refine ⟨T3.data.toList, ?_, ?_, ?_⟩
            · rw [List.take_zero]; show T3 = ofL (T3.data.toList ++ []); rw [List.append_nil, ofL_self]
            · exact len_data _
            · rw [w3, w1, D0]
              unfold textP tailT preT preW postT devT locT locQ
              simp [ofL_data]
          have qL := HQ.out.2.1
          have HF := hide HQ.out.2.2
          have HQ := hide HQ.out.1
          clear D0 w1 w3
          go_wp2_with fail
          generalize W0.alloc (.cells #[.int .u8 97] 5) = W1 at *
          go_loop [3, 5] (fun y i => ∃ j : Nat, j ≤ loc.length ∧ i = .int .i64 j ∧ y = .string (ofL (Q ++ locQ (loc.take j)))) (fun _ i => loc.length - (intOf i).toNat)
          case atStart => exact ⟨0, by omega, rfl, by rw [HQ.out]⟩
          case round =>
            obtain ⟨j, hj, rfl, rfl⟩ := hrel
            by_cases hlj : j < loc.length
            · have hlj' : (j : Int) < (loc.length : Int) := by omega
              have hj0 : (0 : Int) ≤ (j : Int) := by omega
              obtain ⟨b1, o1, rfl, h1⟩ := HL.out.some (by show 0 < loc.length; omega)
              have g1 := h1 j hlj
              clear h1
              have v1 := locQ_len (loc.take j)
              have v2 := lenI_upto loc j
              have v3 := (lenI_ge loc).2 _ (List.getElem_mem hlj)
              have sj := ofL_size (Q ++ locQ (loc.take j))
              rw [List.length_append] at sj
              by_cases hj1 : j = 0
              · subst hj1
                obtain ⟨M, e1, e2, s1⟩ := loc_0 Q loc[0] loc hlj rfl
                rw [List.length_append] at s1
                have sM : M.size ≤ 10000000 := by omega
                have sX : (ofL (Q ++ locQ (loc.take 0))).size ≤ 10000000 := by omega
                have st := ofL_size loc[0]
                have HE := hide e2
                rw [Nat.add_zero] at g1
                generalize loc[0] = t at *
                generalize ofL (Q ++ locQ (loc.take 0)) = X1 at *
                generalize (Q ++ locQ (loc.take 0)).length = lX at *
                clear sj s1 v1 v2 e2
                go_wp2_with fail
                go_round
                case rel => exact ⟨1, by omega, rfl, by rw [HE.out]⟩
                case measure => simp [intOf]; omega
              · obtain ⟨M, e1, e2, s1⟩ := loc_n Q loc[j] loc j hlj rfl hj1
                rw [List.length_append] at s1
                have hjb : ((j : Int) == 0) = false := by simp; omega
                have sM : M.size ≤ 10000000 := by omega
                have sX : (ofL (Q ++ locQ (loc.take j))).size ≤ 10000000 := by omega
                have st := ofL_size loc[j]
                have HE := hide e2
                generalize loc[j] = t at *
                generalize ofL (Q ++ locQ (loc.take j)) = X1 at *
                clear sj s1 v1 v2 e2
                go_wp2_with fail
                go_round
                case rel => exact ⟨j + 1, by omega, by go_num, by rw [HE.out]⟩
                case measure => simp [intOf]; omega
            · obtain rfl : j = loc.length := by omega
              have hlj' : ¬ (loc.length : Int) < (loc.length : Int) := by omega
              rw [List.take_length]
              generalize hX : ofL (Q ++ locQ loc) = X1 at *
              have HX := hide hX
              clear hX
              go_wp2_with fail
              go_ret
              exact ⟨ret_s (by first | exact HF.out | (rw [← HX.out]; exact HF.out)), HW.out⟩
      · cases d
        · obtain ⟨a1, T1, e1, f1, s1, g1, w1⟩ := catC T0 (ofL [97]) n
          have ql1 : ((ofL [97]) : ByteArray).size = 1 := ofL_size _
          have y1 : T1.size ≤ 2148577 := by omega
          have y1' : a1.size ≤ 2148577 := by omega
          clear s1 g1
          obtain ⟨a2, T2, e2, f2, s2, g2, w2⟩ := catC T1 ⟨#[46, 112, 111, 115, 116]⟩ m
          have ql2 : (⟨#[46, 112, 111, 115, 116]⟩ : ByteArray).size = 5 := rfl
          have y2 : T2.size ≤ 3248577 := by omega
          have y2' : a2.size ≤ 3248577 := by omega
          clear ql2 s2 g2
          obtain ⟨Q, HQ⟩ : ∃ Q, Hid (T2 = ofL (Q ++ locQ (loc.take 0)) ∧ Q.length = T2.size ∧ ofL (Q ++ locQ loc) = ofL (textP ⟨ep, rel, 97, n, true, m, false, k, loc⟩)) := by
            refine ⟨T2.data.toList, ?_, ?_, ?_⟩
            · rw [List.take_zero]; show T2 = ofL (T2.data.toList ++ []); rw [List.append_nil, ofL_self]
            · exact len_data _
            · rw [w2, w1, D0]
              unfold textP tailT preT preW postT devT locT locQ
              simp [ofL_data]
          have qL := HQ.out.2.1
          have HF := hide HQ.out.2.2
          have HQ := hide HQ.out.1
          clear D0 w1 w2
          go_wp2_with fail
          generalize W0.alloc (.cells #[.int .u8 97] 5) = W1 at *
          go_loop [3, 5] (fun y i => ∃ j : Nat, j ≤ loc.length ∧ i = .int .i64 j ∧ y = .string (ofL (Q ++ locQ (loc.take j)))) (fun _ i => loc.length - (intOf i).toNat)
          case atStart => exact ⟨0, by omega, rfl, by rw [HQ.out]⟩
          case round =>
            obtain ⟨j, hj, rfl, rfl⟩ := hrel
            by_cases hlj : j < loc.length
            · have hlj' : (j : Int) < (loc.length : Int) := by omega
              have hj0 : (0 : Int) ≤ (j : Int) := by omega
              obtain ⟨b1, o1, rfl, h1⟩ := HL.out.some (by show 0 < loc.length; omega)
              have g1 := h1 j hlj
              clear h1
              have v1 := locQ_len (loc.take j)
              have v2 := lenI_upto loc j
              have v3 := (lenI_ge loc).2 _ (List.getElem_mem hlj)
              have sj := ofL_size (Q ++ locQ (loc.take j))
              rw [List.length_append] at sj
              by_cases hj1 : j = 0
              · subst hj1
                obtain ⟨M, e1, e2, s1⟩ := loc_0 Q loc[0] loc hlj rfl
                rw [List.length_append] at s1
                have sM : M.size ≤ 10000000 := by omega
                have sX : (ofL (Q ++ locQ (loc.take 0))).size ≤ 10000000 := by omega
                have st := ofL_size loc[0]
                have HE := hide e2
                rw [Nat.add_zero] at g1
                generalize loc[0] = t at *
                generalize ofL (Q ++ locQ (loc.take 0)) = X1 at *
                generalize (Q ++ locQ (loc.take 0)).length = lX at *
                clear sj s1 v1 v2 e2
                go_wp2_with fail
                go_round
                case rel => exact ⟨1, by omega, rfl, by rw [HE.out]⟩
                case measure => simp [intOf]; omega
              · obtain ⟨M, e1, e2, s1⟩ := loc_n Q loc[j] loc j hlj rfl hj1
                rw [List.length_append] at s1
                have hjb : ((j : Int) == 0) = false := by simp; omega
                have sM : M.size ≤ 10000000 := by omega
                have sX : (ofL (Q ++ locQ (loc.take j))).size ≤ 10000000 := by omega
                have st := ofL_size loc[j]
                have HE := hide e2
                generalize loc[j] = t at *
                generalize ofL (Q ++ locQ (loc.take j)) = X1 at *
                clear sj s1 v1 v2 e2
                go_wp2_with fail
                go_round
                case rel => exact ⟨j + 1, by omega, by go_num, by rw [HE.out]⟩
                case measure => simp [intOf]; omega
            · obtain rfl : j = loc.length := by omega
              have hlj' : ¬ (loc.length : Int) < (loc.length : Int) := by omega
              rw [List.take_length]
              generalize hX : ofL (Q ++ locQ loc) = X1 at *
              have HX := hide hX
              clear hX
              go_wp2_with fail
              go_ret
              exact ⟨ret_s (by first | exact HF.out | (rw [← HX.out]; exact HF.out)), HW.out⟩
        · obtain ⟨a1, T1, e1, f1, s1, g1, w1⟩ := catC T0 (ofL [97]) n
          have ql1 : ((ofL [97]) : ByteArray).size = 1 := ofL_size _
          have y1 : T1.size ≤ 2148577 := by omega
          have y1' : a1.size ≤ 2148577 := by omega
          clear s1 g1
          obtain ⟨a2, T2, e2, f2, s2, g2, w2⟩ := catC T1 ⟨#[46, 112, 111, 115, 116]⟩ m
          have ql2 : (⟨#[46, 112, 111, 115, 116]⟩ : ByteArray).size = 5 := rfl
          have y2 : T2.size ≤ 3248577 := by omega
          have y2' : a2.size ≤ 3248577 := by omega
          clear ql2 s2 g2
          obtain ⟨a3, T3, e3, f3, s3, g3, w3⟩ := catC T2 ⟨#[46, 100, 101, 118]⟩ k
          have ql3 : (⟨#[46, 100, 101, 118]⟩ : ByteArray).size = 4 := rfl
          have y3 : T3.size ≤ 4348577 := by omega
          have y3' : a3.size ≤ 4348577 := by omega
          clear ql3 s3 g3
          obtain ⟨Q, HQ⟩ : ∃ Q, Hid (T3 = ofL (Q ++ locQ (loc.take 0)) ∧ Q.length = T3.size ∧ ofL (Q ++ locQ loc) = ofL (textP ⟨ep, rel, 97, n, true, m, true, k, loc⟩)) := by
            refine ⟨T3.data.toList, ?_, ?_, ?_⟩
            · rw [List.take_zero]; show T3 = ofL (T3.data.toList ++ []); rw [List.append_nil, ofL_self]
            · exact len_data _
            · rw [w3, w2, w1, D0]
              unfold textP tailT preT preW postT devT locT locQ
              simp [ofL_data]
          have qL := HQ.out.2.1
          have HF := hide HQ.out.2.2
          have HQ := hide HQ.out.1
          clear D0 w1 w2 w3
          go_wp2_with fail
          generalize W0.alloc (.cells #[.int .u8 97] 5) = W1 at *
          go_loop [3, 5] (fun y i => ∃ j : Nat, j ≤ loc.length ∧ i = .int .i64 j ∧ y = .string (ofL (Q ++ locQ (loc.take j)))) (fun _ i => loc.length - (intOf i).toNat)
          case atStart => exact ⟨0, by omega, rfl, by rw [HQ.out]⟩
          case round =>
            obtain ⟨j, hj, rfl, rfl⟩ := hrel
            by_cases hlj : j < loc.length
            · have hlj' : (j : Int) < (loc.length : Int) := by omega
              have hj0 : (0 : Int) ≤ (j : Int) := by omega
              obtain ⟨b1, o1, rfl, h1⟩ := HL.out.some (by show 0 < loc.length; omega)
              have g1 := h1 j hlj
              clear h1
              have v1 := locQ_len (loc.take j)
              have v2 := lenI_upto loc j
              have v3 := (lenI_ge loc).2 _ (List.getElem_mem hlj)
              have sj := ofL_size (Q ++ locQ (loc.take j))
              rw [List.length_append] at sj
              by_cases hj1 : j = 0
              · subst hj1
                obtain ⟨M, e1, e2, s1⟩ := loc_0 Q loc[0] loc hlj rfl
                rw [List.length_append] at s1
                have sM : M.size ≤ 10000000 := by omega
                have sX : (ofL (Q ++ locQ (loc.take 0))).size ≤ 10000000 := by omega
                have st := ofL_size loc[0]
                have HE := hide e2
                rw [Nat.add_zero] at g1
                generalize loc[0] = t at *
                generalize ofL (Q ++ locQ (loc.take 0)) = X1 at *
                generalize (Q ++ locQ (loc.take 0)).length = lX at *
                clear sj s1 v1 v2 e2
                go_wp2_with fail
                go_round
                case rel => exact ⟨1, by omega, rfl, by rw [HE.out]⟩
                case measure => simp [intOf]; omega
              · obtain ⟨M, e1, e2, s1⟩ := loc_n Q loc[j] loc j hlj rfl hj1
                rw [List.length_append] at s1
                have hjb : ((j : Int) == 0) = false := by simp; omega
                have sM : M.size ≤ 10000000 := by omega
                have sX : (ofL (Q ++ locQ (loc.take j))).size ≤ 10000000 := by omega
                have st := ofL_size loc[j]
                have HE := hide e2
                generalize loc[j] = t at *
                generalize ofL (Q ++ locQ (loc.take j)) = X1 at *
                clear sj s1 v1 v2 e2
                go_wp2_with fail
                go_round
                case rel => exact ⟨j + 1, by omega, by go_num, by rw [HE.out]⟩
                case measure => simp [intOf]; omega
            · obtain rfl : j = loc.length := by omega
              have hlj' : ¬ (loc.length : Int) < (loc.length : Int) := by omega
              rw [List.take_length]
              generalize hX : ofL (Q ++ locQ loc) = X1 at *
              have HX := hide hX
              clear hX
              go_wp2_with fail
              go_ret
              exact ⟨ret_s (by first | exact HF.out | (rw [← HX.out]; exact HF.out)), HW.out⟩

end Go.Proofs.YtagnikhkmaplpaaGreat

/-
  Walks: the texts of versions by the document.
-/
namespace Go.Proofs.YtagnikhkmaplpaaGreat
open Go.RowKit Go.Shelf
set_option linter.unusedVariables false

set_option maxRecDepth 100000 in
set_option maxHeartbeats 8000000 in
theorem Rraw_e98 (ep : List UInt8) (rel : List (List UInt8)) (n : List UInt8) (b : Bool) (m : List UInt8) (d : Bool) (k : List UInt8) (loc : List (List UInt8)) (r1 q1 : Option Addr) (c1 d1 : Nat) (w : World) (rr : Txt w (.slice r1 rel.length c1) rel) (ll : Txt w (.slice q1 loc.length d1) loc) (hl : ep.length + lenI rel + n.length + m.length + k.length + lenI loc ≤ 1048576) (he : ep ≠ [48]) :
    Calls Tryz.prog 34 #[.agg #[.string (ofL ep), .slice r1 rel.length c1, .int .u8 98, .string (ofL n), .bool b, .string (ofL m), .bool d, .string (ofL k), .slice q1 loc.length d1]] w fun e w' => e = .returned (.string (ofL (textP ⟨ep, rel, 98, n, b, m, d, k, loc⟩))) ∧ Below w.heap.size w w' := by
  have S0 : TB w ⟨ep, rel, 98, n, b, m, d, k, loc⟩ r1 q1 c1 d1 (w.alloc (.cells #[.string (ofL ep), .slice r1 rel.length c1, .int .u8 98, .string (ofL n), .bool b, .string (ofL m), .bool d, .string (ofL k), .slice q1 loc.length d1] 24)) := TB.start (x := ⟨ep, rel, 98, n, b, m, d, k, loc⟩) rr ll
  have hlen := (lenI_ge rel).1
  have hlen2 := (lenI_ge loc).1
  have x1 := ofL_size n
  have x2 := ofL_size m
  have x3 := ofL_size k
  have e48 : ((ofL ep).toList == [48]) = false := eq48' ep false (by simpa using he)
  have HQ0 : Hid ((ep ++ [33]) ++ joinL rel = baseL ep rel) := by show _ = _; unfold baseL; rw [if_neg he]
  have hc33 : ofL ep ++ ⟨#[33]⟩ = ofL (ep ++ [33]) := by rw [← cat_LL]; rfl
  have HP0 : Hid (ofL (ep ++ [33]) = ofL ((ep ++ [33]) ++ joinL (rel.take 0))) := by show _ = _; simp [joinL]
  have se := ofL_size ep
  clear rr ll he
  obtain ⟨s0, s1, s2, s3, s4, s5, s6, s7, s8⟩ := S0.seen
  dsimp only at s0 s1 s2 s3 s4 s5 s6 s7 s8
  have HS := hide S0
  clear S0
  go_enter Tryz.func34, Tryz.ntmps34
  go_wp2_with fail
  generalize w.alloc (.cells #[.string (ofL ep), .slice r1 rel.length c1, .int .u8 98, .string (ofL n), .bool b, .string (ofL m), .bool d, .string (ofL k), .slice q1 loc.length d1] 24) = W0 at *
  go_loop [3, 4] (fun x i => ∃ j : Nat, j ≤ rel.length ∧ i = .int .i64 j ∧ x = .string (ofL ((ep ++ [33]) ++ joinL (rel.take j)))) (fun _ i => rel.length - (intOf i).toNat)
  case atStart => exact ⟨0, by omega, rfl, by rw [HP0.out]⟩
  case round =>
    obtain ⟨j, hj, rfl, rfl⟩ := hrel
    by_cases hlt : j < rel.length
    · obtain ⟨b1, o1, rfl, h1⟩ := HS.out.rr.some (by show 0 < rel.length; omega)
      have g1 := h1 j hlt
      have hlt' : (j : Int) < (rel.length : Int) := by omega
      have hk0 : (0 : Int) ≤ (j : Int) := by omega
      have z1 := joinL_len (rel.take j)
      have z2 := lenI_upto rel (j + 1)
      have z3 := lenI_take rel j hlt
      have hT : rel.take (j + 1) = rel.take j ++ [rel[j]] := by rw [List.take_succ_eq_append_getElem hlt]
      dsimp only at g1
      generalize ht : rel[j] = t at *
      clear h1 ht
      have st := ofL_size t
      have htz : t.length ≤ 1048576 := by omega
      have sj : (ofL ((ep ++ [33]) ++ joinL (rel.take j))).size ≤ 1048577 := by rw [ofL_size, List.length_append]; try simp only [List.length_nil, List.length_append, List.length_cons]; omega
      have HC : Hid (∀ (h : j ≠ 0), ofL (((ep ++ [33]) ++ joinL (rel.take j)) ++ [46]) ++ ofL t = ofL ((ep ++ [33]) ++ joinL (rel.take (j + 1)))) := by
        show ∀ (h : j ≠ 0), _ = _
        intro h
        rw [hT, cat_LL]
        cases hx : rel.take j with
        | nil => exfalso; have := congrArg List.length hx; rw [List.length_take, List.length_nil] at this; omega
        | cons u r => rw [joinL_snoc]; simp
      have HD : Hid (j = 0 → ofL ((ep ++ [33]) ++ joinL (rel.take j)) ++ ofL t = ofL ((ep ++ [33]) ++ joinL (rel.take (j + 1)))) := by
        show j = 0 → _ = _
        rintro rfl
        rw [hT, cat_LL]
        simp [joinL, dotted]
      have hcat : ofL ((ep ++ [33]) ++ joinL (rel.take j)) ++ ⟨#[46]⟩ = ofL (((ep ++ [33]) ++ joinL (rel.take j)) ++ [46]) := by rw [← cat_LL]; rfl
      have sj2 : (ofL (((ep ++ [33]) ++ joinL (rel.take j)) ++ [46])).size ≤ 1048578 := by rw [ofL_size, List.length_append]; rw [ofL_size] at sj; simp only [List.length_cons, List.length_nil]; omega
      clear hT z1 z2 z3
      generalize ofL (((ep ++ [33]) ++ joinL (rel.take j)) ++ [46]) = X2 at *
      generalize ofL ((ep ++ [33]) ++ joinL (rel.take j)) = X1 at *
      by_cases hk1 : j = 0
      · have HE := hide (HD.out hk1)
        subst hk1
        rw [Nat.add_zero] at g1
        go_wp2_with fail
        go_round
        case rel => exact ⟨1, by omega, rfl, by rw [HE.out]⟩
        case measure => simp [intOf]; omega
      · have hkp : (0 : Int) < (j : Int) := by omega
        have HE := hide (HC.out hk1)
        go_wp2_with fail
        go_round
        case rel => exact ⟨j + 1, by omega, by go_num, by rw [HE.out]⟩
        case measure => simp [intOf]; omega
    · obtain rfl : j = rel.length := by omega
      have hlt' : ¬ (rel.length : Int) < (rel.length : Int) := by omega
      rw [List.take_length]
      have z1 := joinL_len rel
      have y0 : (ofL ((ep ++ [33]) ++ joinL rel)).size ≤ 1048577 := by rw [ofL_size, List.length_append]; try simp only [List.length_nil, List.length_append, List.length_cons]; omega
      have D0 : (ofL ((ep ++ [33]) ++ joinL rel)).data.toList = baseL ep rel := by rw [ofL_data]; exact HQ0.out
      generalize ofL ((ep ++ [33]) ++ joinL rel) = T0 at *
      have bb := (Below.refl _ W0).alloc (Nat.le_refl _) (.cells #[.int .u8 98] 5)
      have hy : Bys (W0.alloc (.cells #[.int .u8 98] 5)) W0.heap.size [98] := by
        have e := World.alloc_heap_new W0 (.cells #[.int .u8 98] 5)
        refine ⟨fun i hi => ?_, fun i hi => one_free i e⟩
        match i, hi with
        | 0, _ => exact cell_at 0 e rfl
      have hback := hy.back (P := Tryz.prog) 66 9 5 1 Tryz.underlying66 Tryz.underlying5 Tryz.underlying9
      have hlb : ([98] : List UInt8).length = 1 := rfl
      rw [hlb] at hback
      have H1 := hide (HS.out.next bb)
      obtain ⟨i0, i1, i2, i3, i4, i5, i6, i7, i8⟩ := H1.out.seen
      dsimp only at i0 i1 i2 i3 i4 i5 i6 i7 i8
      have HL := hide H1.out.ll
      have HW := hide H1.out.bel
      cases b
      · cases d
        · obtain ⟨a1, T1, e1, f1, s1, g1, w1⟩ := catC T0 (ofL [98]) n
          have ql1 : ((ofL [98]) : ByteArray).size = 1 := ofL_size _
          have y1 : T1.size ≤ 2148577 := by omega
          have y1' : a1.size ≤ 2148577 := by omega
          clear s1 g1
          obtain ⟨Q, HQ⟩ : ∃ Q, Hid (T1 = ofL (Q ++ locQ (loc.take 0)) ∧ Q.length = T1.size ∧ ofL (Q ++ locQ loc) = ofL (textP ⟨ep, rel, 98, n, false, m, false, k, loc⟩)) := by
            refine ⟨T1.data.toList, ?_, ?_, ?_⟩
            · rw [List.take_zero]; show T1 = ofL (T1.data.toList ++ []); rw [List.append_nil, ofL_self]
            · exact len_data _
            · rw [w1, D0]
              unfold textP tailT preT preW postT devT locT locQ
              simp [ofL_data]
          have qL := HQ.out.2.1
          have HF := hide HQ.out.2.2
          have HQ := hide HQ.out.1
          clear D0 w1
          go_wp2_with fail
          generalize W0.alloc (.cells #[.int .u8 98] 5) = W1 at *
          go_loop [3, 5] (fun y i => ∃ j : Nat, j ≤ loc.length ∧ i = .int .i64 j ∧ y = .string (ofL (Q ++ locQ (loc.take j)))) (fun _ i => loc.length - (intOf i).toNat)
          case atStart => exact ⟨0, by omega, rfl, by rw [HQ.out]⟩
          case round =>
            obtain ⟨j, hj, rfl, rfl⟩ := hrel
            by_cases hlj : j < loc.length
            · have hlj' : (j : Int) < (loc.length : Int) := by omega
              have hj0 : (0 : Int) ≤ (j : Int) := by omega
              obtain ⟨b1, o1, rfl, h1⟩ := HL.out.some (by show 0 < loc.length; omega)
              have g1 := h1 j hlj
              clear h1
              have v1 := locQ_len (loc.take j)
              have v2 := lenI_upto loc j
              have v3 := (lenI_ge loc).2 _ (List.getElem_mem hlj)
              have sj := ofL_size (Q ++ locQ (loc.take j))
              rw [List.length_append] at sj
              by_cases hj1 : j = 0
              · subst hj1
                obtain ⟨M, e1, e2, s1⟩ := loc_0 Q loc[0] loc hlj rfl
                rw [List.length_append] at s1
                have sM : M.size ≤ 10000000 := by omega
                have sX : (ofL (Q ++ locQ (loc.take 0))).size ≤ 10000000 := by omega
                have st := ofL_size loc[0]
                have HE := hide e2
                rw [Nat.add_zero] at g1
                generalize loc[0] = t at *
                generalize ofL (Q ++ locQ (loc.take 0)) = X1 at *
                generalize (Q ++ locQ (loc.take 0)).length = lX at *
                clear sj s1 v1 v2 e2
                go_wp2_with fail
                go_round
                case rel => exact ⟨1, by omega, rfl, by rw [HE.out]⟩
                case measure => simp [intOf]; omega
              · obtain ⟨M, e1, e2, s1⟩ := loc_n Q loc[j] loc j hlj rfl hj1
                rw [List.length_append] at s1
                have hjb : ((j : Int) == 0) = false := by simp; omega
                have sM : M.size ≤ 10000000 := by omega
                have sX : (ofL (Q ++ locQ (loc.take j))).size ≤ 10000000 := by omega
                have st := ofL_size loc[j]
                have HE := hide e2
                generalize loc[j] = t at *
                generalize ofL (Q ++ locQ (loc.take j)) = X1 at *
                clear sj s1 v1 v2 e2
                go_wp2_with fail
                go_round
                case rel => exact ⟨j + 1, by omega, by go_num, by rw [HE.out]⟩
                case measure => simp [intOf]; omega
            · obtain rfl : j = loc.length := by omega
              have hlj' : ¬ (loc.length : Int) < (loc.length : Int) := by omega
              rw [List.take_length]
              generalize hX : ofL (Q ++ locQ loc) = X1 at *
              have HX := hide hX
              clear hX
              go_wp2_with fail
              go_ret
              exact ⟨ret_s (by first | exact HF.out | (rw [← HX.out]; exact HF.out)), HW.out⟩
        · obtain ⟨a1, T1, e1, f1, s1, g1, w1⟩ := catC T0 (ofL [98]) n
          have ql1 : ((ofL [98]) : ByteArray).size = 1 := ofL_size _
          have y1 : T1.size ≤ 2148577 := by omega
          have y1' : a1.size ≤ 2148577 := by omega
          clear s1 g1
          obtain ⟨a3, T3, e3, f3, s3, g3, w3⟩ := catC T1 ⟨#[46, 100, 101, 118]⟩ k
          have ql3 : (⟨#[46, 100, 101, 118]⟩ : ByteArray).size = 4 := rfl
          have y3 : T3.size ≤ 4348577 := by omega
          have y3' : a3.size ≤ 4348577 := by omega
          clear ql3 s3 g3
          obtain ⟨Q, HQ⟩ : ∃ Q, Hid (T3 = ofL (Q ++ locQ (loc.take 0)) ∧ Q.length = T3.size ∧ ofL (Q ++ locQ loc) = ofL (textP ⟨ep, rel, 98, n, false, m, true, k, loc⟩)) := by
            refine ⟨T3.data.toList, ?_, ?_, ?_⟩
            · rw [List.take_zero]; show T3 = ofL (T3.data.toList ++ []); rw [List.append_nil, ofL_self]
            · exact len_data _
            · rw [w3, w1, D0]
              unfold textP tailT preT preW postT devT locT locQ
              simp [ofL_data]
          have qL := HQ.out.2.1
          have HF := hide HQ.out.2.2
          have HQ := hide HQ.out.1
          clear D0 w1 w3
          go_wp2_with fail
          generalize W0.alloc (.cells #[.int .u8 98] 5) = W1 at *
          go_loop [3, 5] (fun y i => ∃ j : Nat, j ≤ loc.length ∧ i = .int .i64 j ∧ y = .string (ofL (Q ++ locQ (loc.take j)))) (fun _ i => loc.length - (intOf i).toNat)
          case atStart => exact ⟨0, by omega, rfl, by rw [HQ.out]⟩
          case round =>
            obtain ⟨j, hj, rfl, rfl⟩ := hrel
            by_cases hlj : j < loc.length
            · have hlj' : (j : Int) < (loc.length : Int) := by omega
              have hj0 : (0 : Int) ≤ (j : Int) := by omega
              obtain ⟨b1, o1, rfl, h1⟩ := HL.out.some (by show 0 < loc.length; omega)
              have g1 := h1 j hlj
              clear h1
              have v1 := locQ_len (loc.take j)
              have v2 := lenI_upto loc j
              have v3 := (lenI_ge loc).2 _ (List.getElem_mem hlj)
              have sj := ofL_size (Q ++ locQ (loc.take j))
              rw [List.length_append] at sj
              by_cases hj1 : j = 0
              · subst hj1
                obtain ⟨M, e1, e2, s1⟩ := loc_0 Q loc[0] loc hlj rfl
                rw [List.length_append] at s1
                have sM : M.size ≤ 10000000 := by omega
                have sX : (ofL (Q ++ locQ (loc.take 0))).size ≤ 10000000 := by omega
                have st := ofL_size loc[0]
                have HE := hide e2
                rw [Nat.add_zero] at g1
                generalize loc[0] = t at *
                generalize ofL (Q ++ locQ (loc.take 0)) = X1 at *
                generalize (Q ++ locQ (loc.take 0)).length = lX at *
                clear sj s1 v1 v2 e2
                go_wp2_with fail
                go_round
                case rel => exact ⟨1, by omega, rfl, by rw [HE.out]⟩
                case measure => simp [intOf]; omega
              · obtain ⟨M, e1, e2, s1⟩ := loc_n Q loc[j] loc j hlj rfl hj1
                rw [List.length_append] at s1
                have hjb : ((j : Int) == 0) = false := by simp; omega
                have sM : M.size ≤ 10000000 := by omega
                have sX : (ofL (Q ++ locQ (loc.take j))).size ≤ 10000000 := by omega
                have st := ofL_size loc[j]
                have HE := hide e2
                generalize loc[j] = t at *
                generalize ofL (Q ++ locQ (loc.take j)) = X1 at *
                clear sj s1 v1 v2 e2
                go_wp2_with fail
                go_round
                case rel => exact ⟨j + 1, by omega, by go_num, by rw [HE.out]⟩
                case measure => simp [intOf]; omega
            · obtain rfl : j = loc.length := by omega
              have hlj' : ¬ (loc.length : Int) < (loc.length : Int) := by omega
              rw [List.take_length]
              generalize hX : ofL (Q ++ locQ loc) = X1 at *
              have HX := hide hX
              clear hX
              go_wp2_with fail
              go_ret
              exact ⟨ret_s (by first | exact HF.out | (rw [← HX.out]; exact HF.out)), HW.out⟩
      · cases d
        · obtain ⟨a1, T1, e1, f1, s1, g1, w1⟩ := catC T0 (ofL [98]) n
          have ql1 : ((ofL [98]) : ByteArray).size = 1 := ofL_size _
          have y1 : T1.size ≤ 2148577 := by omega
          have y1' : a1.size ≤ 2148577 := by omega
          clear s1 g1
          obtain ⟨a2, T2, e2, f2, s2, g2, w2⟩ := catC T1 ⟨#[46, 112, 111, 115, 116]⟩ m
          have ql2 : (⟨#[46, 112, 111, 115, 116]⟩ : ByteArray).size = 5 := rfl
          have y2 : T2.size ≤ 3248577 := by omega
          have y2' : a2.size ≤ 3248577 := by omega
          clear ql2 s2 g2
          obtain ⟨Q, HQ⟩ : ∃ Q, Hid (T2 = ofL (Q ++ locQ (loc.take 0)) ∧ Q.length = T2.size ∧ ofL (Q ++ locQ loc) = ofL (textP ⟨ep, rel, 98, n, true, m, false, k, loc⟩)) := by
            refine ⟨T2.data.toList, ?_, ?_, ?_⟩
            · rw [List.take_zero]; show T2 = ofL (T2.data.toList ++ []); rw [List.append_nil, ofL_self]
            · exact len_data _
            · rw [w2, w1, D0]
              unfold textP tailT preT preW postT devT locT locQ
              simp [ofL_data]
          have qL := HQ.out.2.1
          have HF := hide HQ.out.2.2
          have HQ := hide HQ.out.1
          clear D0 w1 w2
          go_wp2_with fail
          generalize W0.alloc (.cells #[.int .u8 98] 5) = W1 at *
          go_loop [3, 5] (fun y i => ∃ j : Nat, j ≤ loc.length ∧ i = .int .i64 j ∧ y = .string (ofL (Q ++ locQ (loc.take j)))) (fun _ i => loc.length - (intOf i).toNat)
          case atStart => exact ⟨0, by omega, rfl, by rw [HQ.out]⟩
          case round =>
            obtain ⟨j, hj, rfl, rfl⟩ := hrel
            by_cases hlj : j < loc.length
            · have hlj' : (j : Int) < (loc.length : Int) := by omega
              have hj0 : (0 : Int) ≤ (j : Int) := by omega
              obtain ⟨b1, o1, rfl, h1⟩ := HL.out.some (by show 0 < loc.length; omega)
              have g1 := h1 j hlj
              clear h1
              have v1 := locQ_len (loc.take j)
              have v2 := lenI_upto loc j
              have v3 := (lenI_ge loc).2 _ (List.getElem_mem hlj)
              have sj := ofL_size (Q ++ locQ (loc.take j))
              rw [List.length_append] at sj
              by_cases hj1 : j = 0
              · subst hj1
                obtain ⟨M, e1, e2, s1⟩ := loc_0 Q loc[0] loc hlj rfl
                rw [List.length_append] at s1
                have sM : M.size ≤ 10000000 := by omega
                have sX : (ofL (Q ++ locQ (loc.take 0))).size ≤ 10000000 := by omega
                have st := ofL_size loc[0]
                have HE := hide e2
                rw [Nat.add_zero] at g1
                generalize loc[0] = t at *
                generalize ofL (Q ++ locQ (loc.take 0)) = X1 at *
                generalize (Q ++ locQ (loc.take 0)).length = lX at *
                clear sj s1 v1 v2 e2
                go_wp2_with fail
                go_round
                case rel => exact ⟨1, by omega, rfl, by rw [HE.out]⟩
                case measure => simp [intOf]; omega
              · obtain ⟨M, e1, e2, s1⟩ := loc_n Q loc[j] loc j hlj rfl hj1
                rw [List.length_append] at s1
                have hjb : ((j : Int) == 0) = false := by simp; omega
                have sM : M.size ≤ 10000000 := by omega
                have sX : (ofL (Q ++ locQ (loc.take j))).size ≤ 10000000 := by omega
                have st := ofL_size loc[j]
                have HE := hide e2
                generalize loc[j] = t at *
                generalize ofL (Q ++ locQ (loc.take j)) = X1 at *
                clear sj s1 v1 v2 e2
                go_wp2_with fail
                go_round
                case rel => exact ⟨j + 1, by omega, by go_num, by rw [HE.out]⟩
                case measure => simp [intOf]; omega
            · obtain rfl : j = loc.length := by omega
              have hlj' : ¬ (loc.length : Int) < (loc.length : Int) := by omega
              rw [List.take_length]
              generalize hX : ofL (Q ++ locQ loc) = X1 at *
              have HX := hide hX
              clear hX
              go_wp2_with fail
              go_ret
              exact ⟨ret_s (by first | exact HF.out | (rw [← HX.out]; exact HF.out)), HW.out⟩
        · obtain ⟨a1, T1, e1, f1, s1, g1, w1⟩ := catC T0 (ofL [98]) n
          have ql1 : ((ofL [98]) : ByteArray).size = 1 := ofL_size _
          have y1 : T1.size ≤ 2148577 := by omega
          have y1' : a1.size ≤ 2148577 := by omega
          clear s1 g1
          obtain ⟨a2, T2, e2, f2, s2, g2, w2⟩ := catC T1 ⟨#[46, 112, 111, 115, 116]⟩ m
          have ql2 : (⟨#[46, 112, 111, 115, 116]⟩ : ByteArray).size = 5 := rfl
          have y2 : T2.size ≤ 3248577 := by omega
          have y2' : a2.size ≤ 3248577 := by omega
          clear ql2 s2 g2
          obtain ⟨a3, T3, e3, f3, s3, g3, w3⟩ := catC T2 ⟨#[46, 100, 101, 118]⟩ k
          have ql3 : (⟨#[46, 100, 101, 118]⟩ : ByteArray).size = 4 := rfl
          have y3 : T3.size ≤ 4348577 := by omega
          have y3' : a3.size ≤ 4348577 := by omega
          clear ql3 s3 g3
          obtain ⟨Q, HQ⟩ : ∃ Q, Hid (T3 = ofL (Q ++ locQ (loc.take 0)) ∧ Q.length = T3.size ∧ ofL (Q ++ locQ loc) = ofL (textP ⟨ep, rel, 98, n, true, m, true, k, loc⟩)) := by
            refine ⟨T3.data.toList, ?_, ?_, ?_⟩
            · rw [List.take_zero]; show T3 = ofL (T3.data.toList ++ []); rw [List.append_nil, ofL_self]
            · exact len_data _
            · rw [w3, w2, w1, D0]
              unfold textP tailT preT preW postT devT locT locQ
              simp [ofL_data]
          have qL := HQ.out.2.1
          have HF := hide HQ.out.2.2
          have HQ := hide HQ.out.1
          clear D0 w1 w2 w3
          go_wp2_with fail
          generalize W0.alloc (.cells #[.int .u8 98] 5) = W1 at *
          go_loop [3, 5] (fun y i => ∃ j : Nat, j ≤ loc.length ∧ i = .int .i64 j ∧ y = .string (ofL (Q ++ locQ (loc.take j)))) (fun _ i => loc.length - (intOf i).toNat)
          case atStart => exact ⟨0, by omega, rfl, by rw [HQ.out]⟩
          case round =>
            obtain ⟨j, hj, rfl, rfl⟩ := hrel
            by_cases hlj : j < loc.length
            · have hlj' : (j : Int) < (loc.length : Int) := by omega
              have hj0 : (0 : Int) ≤ (j : Int) := by omega
              obtain ⟨b1, o1, rfl, h1⟩ := HL.out.some (by show 0 < loc.length; omega)
              have g1 := h1 j hlj
              clear h1
              have v1 := locQ_len (loc.take j)
              have v2 := lenI_upto loc j
              have v3 := (lenI_ge loc).2 _ (List.getElem_mem hlj)
              have sj := ofL_size (Q ++ locQ (loc.take j))
              rw [List.length_append] at sj
              by_cases hj1 : j = 0
              · subst hj1
                obtain ⟨M, e1, e2, s1⟩ := loc_0 Q loc[0] loc hlj rfl
                rw [List.length_append] at s1
                have sM : M.size ≤ 10000000 := by omega
                have sX : (ofL (Q ++ locQ (loc.take 0))).size ≤ 10000000 := by omega
                have st := ofL_size loc[0]
                have HE := hide e2
                rw [Nat.add_zero] at g1
                generalize loc[0] = t at *
                generalize ofL (Q ++ locQ (loc.take 0)) = X1 at *
                generalize (Q ++ locQ (loc.take 0)).length = lX at *
                clear sj s1 v1 v2 e2
                go_wp2_with fail
                go_round
                case rel => exact ⟨1, by omega, rfl, by rw [HE.out]⟩
                case measure => simp [intOf]; omega
              · obtain ⟨M, e1, e2, s1⟩ := loc_n Q loc[j] loc j hlj rfl hj1
                rw [List.length_append] at s1
                have hjb : ((j : Int) == 0) = false := by simp; omega
                have sM : M.size ≤ 10000000 := by omega
                have sX : (ofL (Q ++ locQ (loc.take j))).size ≤ 10000000 := by omega
                have st := ofL_size loc[j]
                have HE := hide e2
                generalize loc[j] = t at *
                generalize ofL (Q ++ locQ (loc.take j)) = X1 at *
                clear sj s1 v1 v2 e2
                go_wp2_with fail
                go_round
                case rel => exact ⟨j + 1, by omega, by go_num, by rw [HE.out]⟩
                case measure => simp [intOf]; omega
            · obtain rfl : j = loc.length := by omega
              have hlj' : ¬ (loc.length : Int) < (loc.length : Int) := by omega
              rw [List.take_length]
              generalize hX : ofL (Q ++ locQ loc) = X1 at *
              have HX := hide hX
              clear hX
              go_wp2_with fail
              go_ret
              exact ⟨ret_s (by first | exact HF.out | (rw [← HX.out]; exact HF.out)), HW.out⟩

set_option maxRecDepth 100000 in
set_option maxHeartbeats 8000000 in
theorem Rraw_e114 (ep : List UInt8) (rel : List (List UInt8)) (n : List UInt8) (b : Bool) (m : List UInt8) (d : Bool) (k : List UInt8) (loc : List (List UInt8)) (r1 q1 : Option Addr) (c1 d1 : Nat) (w : World) (rr : Txt w (.slice r1 rel.length c1) rel) (ll : Txt w (.slice q1 loc.length d1) loc) (hl : ep.length + lenI rel + n.length + m.length + k.length + lenI loc ≤ 1048576) (he : ep ≠ [48]) :
    Calls Tryz.prog 34 #[.agg #[.string (ofL ep), .slice r1 rel.length c1, .int .u8 114, .string (ofL n), .bool b, .string (ofL m), .bool d, .string (ofL k), .slice q1 loc.length d1]] w fun e w' => e = .returned (.string (ofL (textP ⟨ep, rel, 114, n, b, m, d, k, loc⟩))) ∧ Below w.heap.size w w' := by
  have S0 : TB w ⟨ep, rel, 114, n, b, m, d, k, loc⟩ r1 q1 c1 d1 (w.alloc (.cells #[.string (ofL ep), .slice r1 rel.length c1, .int .u8 114, .string (ofL n), .bool b, .string (ofL m), .bool d, .string (ofL k), .slice q1 loc.length d1] 24)) := TB.start (x := ⟨ep, rel, 114, n, b, m, d, k, loc⟩) rr ll
  have hlen := (lenI_ge rel).1
  have hlen2 := (lenI_ge loc).1
  have x1 := ofL_size n
  have x2 := ofL_size m
  have x3 := ofL_size k
  have e48 : ((ofL ep).toList == [48]) = false := eq48' ep false (by simpa using he)
  have HQ0 : Hid ((ep ++ [33]) ++ joinL rel = baseL ep rel) := by show _ = _; unfold baseL; rw [if_neg he]
  have hc33 : ofL ep ++ ⟨#[33]⟩ = ofL (ep ++ [33]) := by rw [← cat_LL]; rfl
  have HP0 : Hid (ofL (ep ++ [33]) = ofL ((ep ++ [33]) ++ joinL (rel.take 0))) := by show _ = _; simp [joinL]
  have se := ofL_size ep
  clear rr ll he
  obtain ⟨s0, s1, s2, s3, s4, s5, s6, s7, s8⟩ := S0.seen
  dsimp only at s0 s1 s2 s3 s4 s5 s6 s7 s8
  have HS := hide S0
  clear S0
  go_enter Tryz.func34, Tryz.ntmps34
  go_wp2_with fail
  generalize w.alloc (.cells #[.string (ofL ep), .slice r1 rel.length c1, .int .u8 114, .string (ofL n), .bool b, .string (ofL m), .bool d, .string (ofL k), .slice q1 loc.length d1] 24) = W0 at *
  go_loop [3, 4] (fun x i => ∃ j : Nat, j ≤ rel.length ∧ i = .int .i64 j ∧ x = .string (ofL ((ep ++ [33]) ++ joinL (rel.take j)))) (fun _ i => rel.length - (intOf i).toNat)
  case atStart => exact ⟨0, by omega, rfl, by rw [HP0.out]⟩
  case round =>
    obtain ⟨j, hj, rfl, rfl⟩ := hrel
    by_cases hlt : j < rel.length
    · obtain ⟨b1, o1, rfl, h1⟩ := HS.out.rr.some (by show 0 < rel.length; omega)
      have g1 := h1 j hlt
      have hlt' : (j : Int) < (rel.length : Int) := by omega
      have hk0 : (0 : Int) ≤ (j : Int) := by omega
      have z1 := joinL_len (rel.take j)
      have z2 := lenI_upto rel (j + 1)
      have z3 := lenI_take rel j hlt
      have hT : rel.take (j + 1) = rel.take j ++ [rel[j]] := by rw [List.take_succ_eq_append_getElem hlt]
      dsimp only at g1
      generalize ht : rel[j] = t at *
      clear h1 ht
      have st := ofL_size t
      have htz : t.length ≤ 1048576 := by omega
      have sj : (ofL ((ep ++ [33]) ++ joinL (rel.take j))).size ≤ 1048577 := by rw [ofL_size, List.length_append]; try simp only [List.length_nil, List.length_append, List.length_cons]; omega
      have HC : Hid (∀ (h : j ≠ 0), ofL (((ep ++ [33]) ++ joinL (rel.take j)) ++ [46]) ++ ofL t = ofL ((ep ++ [33]) ++ joinL (rel.take (j + 1)))) := by
        show ∀ (h : j ≠ 0), _ = _
        intro h
        rw [hT, cat_LL]
        cases hx : rel.take j with
        | nil => exfalso; have := congrArg List.length hx; rw [List.length_take, List.length_nil] at this; omega
        | cons u r => rw [joinL_snoc]; simp
      have HD : Hid (j = 0 → ofL ((ep ++ [33]) ++ joinL (rel.take j)) ++ ofL t = ofL ((ep ++ [33]) ++ joinL (rel.take (j + 1)))) := by
        show j = 0 → _ = _
        rintro rfl
        rw [hT, cat_LL]
        simp [joinL, dotted]
      have hcat : ofL ((ep ++ [33]) ++ joinL (rel.take j)) ++ ⟨#[46]⟩ = ofL (((ep ++ [33]) ++ joinL (rel.take j)) ++ [46]) := by rw [← cat_LL]; rfl
      have sj2 : (ofL (((ep ++ [33]) ++ joinL (rel.take j)) ++ [46])).size ≤ 1048578 := by rw [ofL_size, List.length_append]; rw [ofL_size] at sj; simp only [List.length_cons, List.length_nil]; omega
      clear hT z1 z2 z3
      generalize ofL (((ep ++ [33]) ++ joinL (rel.take j)) ++ [46]) = X2 at *
      generalize ofL ((ep ++ [33]) ++ joinL (rel.take j)) = X1 at *
      by_cases hk1 : j = 0
      · have HE := hide (HD.out hk1)
        subst hk1
        rw [Nat.add_zero] at g1
        go_wp2_with fail
        go_round
        case rel => exact ⟨1, by omega, rfl, by rw [HE.out]⟩
        case measure => simp [intOf]; omega
      · have hkp : (0 : Int) < (j : Int) := by omega
        have HE := hide (HC.out hk1)
        go_wp2_with fail
        go_round
        case rel => exact ⟨j + 1, by omega, by go_num, by rw [HE.out]⟩
        case measure => simp [intOf]; omega
    · obtain rfl : j = rel.length := by omega
      have hlt' : ¬ (rel.length : Int) < (rel.length : Int) := by omega
      rw [List.take_length]
      have z1 := joinL_len rel
      have y0 : (ofL ((ep ++ [33]) ++ joinL rel)).size ≤ 1048577 := by rw [ofL_size, List.length_append]; try simp only [List.length_nil, List.length_append, List.length_cons]; omega
      have D0 : (ofL ((ep ++ [33]) ++ joinL rel)).data.toList = baseL ep rel := by rw [ofL_data]; exact HQ0.out
      generalize ofL ((ep ++ [33]) ++ joinL rel) = T0 at *
      have H1 := HS
      have HL := hide H1.out.ll
      have HW := hide H1.out.bel
      cases b
      · cases d
        · obtain ⟨a1, T1, e1, f1, s1, g1, w1⟩ := catC T0 ⟨#[114, 99]⟩ n
          have ql1 : (⟨#[114, 99]⟩ : ByteArray).size = 2 := rfl
          have y1 : T1.size ≤ 2148577 := by omega
          have y1' : a1.size ≤ 2148577 := by omega
          clear ql1 s1 g1
          obtain ⟨Q, HQ⟩ : ∃ Q, Hid (T1 = ofL (Q ++ locQ (loc.take 0)) ∧ Q.length = T1.size ∧ ofL (Q ++ locQ loc) = ofL (textP ⟨ep, rel, 114, n, false, m, false, k, loc⟩)) := by
            refine ⟨T1.data.toList, ?_, ?_, ?_⟩
            · rw [List.take_zero]; show T1 = ofL (T1.data.toList ++ []); rw [List.append_nil, ofL_self]
            · exact len_data _
            · rw [w1, D0]
              unfold textP tailT preT preW postT devT locT locQ
              simp
          have qL := HQ.out.2.1
          have HF := hide HQ.out.2.2
          have HQ := hide HQ.out.1
          clear D0 w1
          go_wp2_with fail
          go_loop [3, 5] (fun y i => ∃ j : Nat, j ≤ loc.length ∧ i = .int .i64 j ∧ y = .string (ofL (Q ++ locQ (loc.take j)))) (fun _ i => loc.length - (intOf i).toNat)
          case atStart => exact ⟨0, by omega, rfl, by rw [HQ.out]⟩
          case round =>
            obtain ⟨j, hj, rfl, rfl⟩ := hrel
            by_cases hlj : j < loc.length
            · have hlj' : (j : Int) < (loc.length : Int) := by omega
              have hj0 : (0 : Int) ≤ (j : Int) := by omega
              obtain ⟨b1, o1, rfl, h1⟩ := HL.out.some (by show 0 < loc.length; omega)
              have g1 := h1 j hlj
              clear h1
              have v1 := locQ_len (loc.take j)
              have v2 := lenI_upto loc j
              have v3 := (lenI_ge loc).2 _ (List.getElem_mem hlj)
              have sj := ofL_size (Q ++ locQ (loc.take j))
              rw [List.length_append] at sj
              by_cases hj1 : j = 0
              · subst hj1
                obtain ⟨M, e1, e2, s1⟩ := loc_0 Q loc[0] loc hlj rfl
                rw [List.length_append] at s1
                have sM : M.size ≤ 10000000 := by omega
                have sX : (ofL (Q ++ locQ (loc.take 0))).size ≤ 10000000 := by omega
                have st := ofL_size loc[0]
                have HE := hide e2
                rw [Nat.add_zero] at g1
                generalize loc[0] = t at *
                generalize ofL (Q ++ locQ (loc.take 0)) = X1 at *
                generalize (Q ++ locQ (loc.take 0)).length = lX at *
                clear sj s1 v1 v2 e2
                go_wp2_with fail
                go_round
                case rel => exact ⟨1, by omega, rfl, by rw [HE.out]⟩
                case measure => simp [intOf]; omega
              · obtain ⟨M, e1, e2, s1⟩ := loc_n Q loc[j] loc j hlj rfl hj1
                rw [List.length_append] at s1
                have hjb : ((j : Int) == 0) = false := by simp; omega
                have sM : M.size ≤ 10000000 := by omega
                have sX : (ofL (Q ++ locQ (loc.take j))).size ≤ 10000000 := by omega
                have st := ofL_size loc[j]
                have HE := hide e2
                generalize loc[j] = t at *
                generalize ofL (Q ++ locQ (loc.take j)) = X1 at *
                clear sj s1 v1 v2 e2
                go_wp2_with fail
                go_round
                case rel => exact ⟨j + 1, by omega, by go_num, by rw [HE.out]⟩
                case measure => simp [intOf]; omega
            · obtain rfl : j = loc.length := by omega
              have hlj' : ¬ (loc.length : Int) < (loc.length : Int) := by omega
              rw [List.take_length]
              generalize hX : ofL (Q ++ locQ loc) = X1 at *
              have HX := hide hX
              clear hX
              go_wp2_with fail
              go_ret
              exact ⟨ret_s (by first | exact HF.out | (rw [← HX.out]; exact HF.out)), HW.out⟩
        · obtain ⟨a1, T1, e1, f1, s1, g1, w1⟩ := catC T0 ⟨#[114, 99]⟩ n
          have ql1 : (⟨#[114, 99]⟩ : ByteArray).size = 2 := rfl
          have y1 : T1.size ≤ 2148577 := by omega
          have y1' : a1.size ≤ 2148577 := by omega
          clear ql1 s1 g1
          obtain ⟨a3, T3, e3, f3, s3, g3, w3⟩ := catC T1 ⟨#[46, 100, 101, 118]⟩ k
          have ql3 : (⟨#[46, 100, 101, 118]⟩ : ByteArray).size = 4 := rfl
          have y3 : T3.size ≤ 4348577 := by omega
          have y3' : a3.size ≤ 4348577 := by omega
          clear ql3 s3 g3
          obtain ⟨Q, HQ⟩ : ∃ Q, Hid (T3 = ofL (Q ++ locQ (loc.take 0)) ∧ Q.length = T3.size ∧ ofL (Q ++ locQ loc) = ofL (textP ⟨ep, rel, 114, n, false, m, true, k, loc⟩)) := by
            refine ⟨T3.data.toList, ?_, ?_, ?_⟩
            · rw [List.take_zero]; show T3 = ofL (T3.data.toList ++ []); rw [List.append_nil, ofL_self]
            · exact len_data _
            · rw [w3, w1, D0]
              unfold textP tailT preT preW postT devT locT locQ
              simp
          have qL := HQ.out.2.1
          have HF := hide HQ.out.2.2
          have HQ := hide HQ.out.1
          clear D0 w1 w3
          go_wp2_with fail
          go_loop [3, 5] (fun y i => ∃ j : Nat, j ≤ loc.length ∧ i = .int .i64 j ∧ y = .string (ofL (Q ++ locQ (loc.take j)))) (fun _ i => loc.length - (intOf i).toNat)
          case atStart => exact ⟨0, by omega, rfl, by rw [HQ.out]⟩
          case round =>
            obtain ⟨j, hj, rfl, rfl⟩ := hrel
            by_cases hlj : j < loc.length
            · have hlj' : (j : Int) < (loc.length : Int) := by omega
              have hj0 : (0 : Int) ≤ (j : Int) := by omega
              obtain ⟨b1, o1, rfl, h1⟩ := HL.out.some (by show 0 < loc.length; omega)
              have g1 := h1 j hlj
              clear h1
              have v1 := locQ_len (loc.take j)
              have v2 := lenI_upto loc j
              have v3 := (lenI_ge loc).2 _ (List.getElem_mem hlj)
              have sj := ofL_size (Q ++ locQ (loc.take j))
              rw [List.length_append] at sj
              by_cases hj1 : j = 0
              · subst hj1
                obtain ⟨M, e1, e2, s1⟩ := loc_0 Q loc[0] loc hlj rfl
                rw [List.length_append] at s1
                have sM : M.size ≤ 10000000 := by omega
                have sX : (ofL (Q ++ locQ (loc.take 0))).size ≤ 10000000 := by omega
                have st := ofL_size loc[0]
                have HE := hide e2
                rw [Nat.add_zero] at g1
                generalize loc[0] = t at *
                generalize ofL (Q ++ locQ (loc.take 0)) = X1 at *
                generalize (Q ++ locQ (loc.take 0)).length = lX at *
                clear sj s1 v1 v2 e2
                go_wp2_with fail
                go_round
                case rel => exact ⟨1, by omega, rfl, by rw [HE.out]⟩
                case measure => simp [intOf]; omega
              · obtain ⟨M, e1, e2, s1⟩ := loc_n Q loc[j] loc j hlj rfl hj1
                rw [List.length_append] at s1
                have hjb : ((j : Int) == 0) = false := by simp; omega
                have sM : M.size ≤ 10000000 := by omega
                have sX : (ofL (Q ++ locQ (loc.take j))).size ≤ 10000000 := by omega
                have st := ofL_size loc[j]
                have HE := hide e2
                generalize loc[j] = t at *
                generalize ofL (Q ++ locQ (loc.take j)) = X1 at *
                clear sj s1 v1 v2 e2
                go_wp2_with fail
                go_round
                case rel => exact ⟨j + 1, by omega, by go_num, by rw [HE.out]⟩
                case measure => simp [intOf]; omega
            · obtain rfl : j = loc.length := by omega
              have hlj' : ¬ (loc.length : Int) < (loc.length : Int) := by omega
              rw [List.take_length]
              generalize hX : ofL (Q ++ locQ loc) = X1 at *
              have HX := hide hX
              clear hX
              go_wp2_with fail
              go_ret
              exact ⟨ret_s (by first | exact HF.out | (rw [← HX.out]; exact HF.out)), HW.out⟩
      · cases d
        · obtain ⟨a1, T1, e1, f1, s1, g1, w1⟩ := catC T0 ⟨#[114, 99]⟩ n
          have ql1 : (⟨#[114, 99]⟩ : ByteArray).size = 2 := rfl
          have y1 : T1.size ≤ 2148577 := by omega
          have y1' : a1.size ≤ 2148577 := by omega
          clear ql1 s1 g1
          obtain ⟨a2, T2, e2, f2, s2, g2, w2⟩ := catC T1 ⟨#[46, 112, 111, 115, 116]⟩ m
          have ql2 : (⟨#[46, 112, 111, 115, 116]⟩ : ByteArray).size = 5 := rfl
          have y2 : T2.size ≤ 3248577 := by omega
          have y2' : a2.size ≤ 3248577 := by omega
          clear ql2 s2 g2
          obtain ⟨Q, HQ⟩ : ∃ Q, Hid (T2 = ofL (Q ++ locQ (loc.take 0)) ∧ Q.length = T2.size ∧ ofL (Q ++ locQ loc) = ofL (textP ⟨ep, rel, 114, n, true, m, false, k, loc⟩)) := by
            refine ⟨T2.data.toList, ?_, ?_, ?_⟩
            · rw [List.take_zero]; show T2 = ofL (T2.data.toList ++ []); rw [List.append_nil, ofL_self]
            · exact len_data _
            · rw [w2, w1, D0]
              unfold textP tailT preT preW postT devT locT locQ
              simp
          have qL := HQ.out.2.1
          have HF := hide HQ.out.2.2
          have HQ := hide HQ.out.1
          clear D0 w1 w2
          go_wp2_with fail
          go_loop [3, 5] (fun y i => ∃ j : Nat, j ≤ loc.length ∧ i = .int .i64 j ∧ y = .string (ofL (Q ++ locQ (loc.take j)))) (fun _ i => loc.length - (intOf i).toNat)
          case atStart => exact ⟨0, by omega, rfl, by rw [HQ.out]⟩
          case round =>
            obtain ⟨j, hj, rfl, rfl⟩ := hrel
            by_cases hlj : j < loc.length
            · have hlj' : (j : Int) < (loc.length : Int) := by omega
              have hj0 : (0 : Int) ≤ (j : Int) := by omega
              obtain ⟨b1, o1, rfl, h1⟩ := HL.out.some (by show 0 < loc.length; omega)
              have g1 := h1 j hlj
              clear h1
              have v1 := locQ_len (loc.take j)
              have v2 := lenI_upto loc j
              have v3 := (lenI_ge loc).2 _ (List.getElem_mem hlj)
              have sj := ofL_size (Q ++ locQ (loc.take j))
              rw [List.length_append] at sj
              by_cases hj1 : j = 0
              · subst hj1
                obtain ⟨M, e1, e2, s1⟩ := loc_0 Q loc[0] loc hlj rfl
                rw [List.length_append] at s1
                have sM : M.size ≤ 10000000 := by omega
                have sX : (ofL (Q ++ locQ (loc.take 0))).size ≤ 10000000 := by omega
                have st := ofL_size loc[0]
                have HE := hide e2
                rw [Nat.add_zero] at g1
                generalize loc[0] = t at *
                generalize ofL (Q ++ locQ (loc.take 0)) = X1 at *
                generalize (Q ++ locQ (loc.take 0)).length = lX at *
                clear sj s1 v1 v2 e2
                go_wp2_with fail
                go_round
                case rel => exact ⟨1, by omega, rfl, by rw [HE.out]⟩
                case measure => simp [intOf]; omega
              · obtain ⟨M, e1, e2, s1⟩ := loc_n Q loc[j] loc j hlj rfl hj1
                rw [List.length_append] at s1
                have hjb : ((j : Int) == 0) = false := by simp; omega
                have sM : M.size ≤ 10000000 := by omega
                have sX : (ofL (Q ++ locQ (loc.take j))).size ≤ 10000000 := by omega
                have st := ofL_size loc[j]
                have HE := hide e2
                generalize loc[j] = t at *
                generalize ofL (Q ++ locQ (loc.take j)) = X1 at *
                clear sj s1 v1 v2 e2
                go_wp2_with fail
                go_round
                case rel => exact ⟨j + 1, by omega, by go_num, by rw [HE.out]⟩
                case measure => simp [intOf]; omega
            · obtain rfl : j = loc.length := by omega
              have hlj' : ¬ (loc.length : Int) < (loc.length : Int) := by omega
              rw [List.take_length]
              generalize hX : ofL (Q ++ locQ loc) = X1 at *
              have HX := hide hX
              clear hX
              go_wp2_with fail
              go_ret
              exact ⟨ret_s (by first | exact HF.out | (rw [← HX.out]; exact HF.out)), HW.out⟩
        · obtain ⟨a1, T1, e1, f1, s1, g1, w1⟩ := catC T0 ⟨#[114, 99]⟩ n
          have ql1 : (⟨#[114, 99]⟩ : ByteArray).size = 2 := rfl
          have y1 : T1.size ≤ 2148577 := by omega
          have y1' : a1.size ≤ 2148577 := by omega
          clear ql1 s1 g1
          obtain ⟨a2, T2, e2, f2, s2, g2, w2⟩ := catC T1 ⟨#[46, 112, 111, 115, 116]⟩ m
          have ql2 : (⟨#[46, 112, 111, 115, 116]⟩ : ByteArray).size = 5 := rfl
          have y2 : T2.size ≤ 3248577 := by omega
          have y2' : a2.size ≤ 3248577 := by omega
          clear ql2 s2 g2
          obtain ⟨a3, T3, e3, f3, s3, g3, w3⟩ := catC T2 ⟨#[46, 100, 101, 118]⟩ k
          have ql3 : (⟨#[46, 100, 101, 118]⟩ : ByteArray).size = 4 := rfl
          have y3 : T3.size ≤ 4348577 := by omega
          have y3' : a3.size ≤ 4348577 := by omega
          clear ql3 s3 g3
          obtain ⟨Q, HQ⟩ : ∃ Q, Hid (T3 = ofL (Q ++ locQ (loc.take 0)) ∧ Q.length = T3.size ∧ ofL (Q ++ locQ loc) = ofL (textP ⟨ep, rel, 114, n, true, m, true, k, loc⟩)) := by
            refine ⟨T3.data.toList, ?_, ?_, ?_⟩
            · rw [List.take_zero]; show T3 = ofL (T3.data.toList ++ []); rw [List.append_nil, ofL_self]
            · exact len_data _
            · rw [w3, w2, w1, D0]
              unfold textP tailT preT preW postT devT locT locQ
              simp
          have qL := HQ.out.2.1
          have HF := hide HQ.out.2.2
          have HQ := hide HQ.out.1
          clear D0 w1 w2 w3
          go_wp2_with fail
          go_loop [3, 5] (fun y i => ∃ j : Nat, j ≤ loc.length ∧ i = .int .i64 j ∧ y = .string (ofL (Q ++ locQ (loc.take j)))) (fun _ i => loc.length - (intOf i).toNat)
          case atStart => exact ⟨0, by omega, rfl, by rw [HQ.out]⟩
          case round =>
            obtain ⟨j, hj, rfl, rfl⟩ := hrel
            by_cases hlj : j < loc.length
            · have hlj' : (j : Int) < (loc.length : Int) := by omega
              have hj0 : (0 : Int) ≤ (j : Int) := by omega
              obtain ⟨b1, o1, rfl, h1⟩ := HL.out.some (by show 0 < loc.length; omega)
              have g1 := h1 j hlj
              clear h1
              have v1 := locQ_len (loc.take j)
              have v2 := lenI_upto loc j
              have v3 := (lenI_ge loc).2 _ (List.getElem_mem hlj)
              have sj := ofL_size (Q ++ locQ (loc.take j))
              rw [List.length_append] at sj
              by_cases hj1 : j = 0
              · subst hj1
                obtain ⟨M, e1, e2, s1⟩ := loc_0 Q loc[0] loc hlj rfl
                rw [List.length_append] at s1
                have sM : M.size ≤ 10000000 := by omega
                have sX : (ofL (Q ++ locQ (loc.take 0))).size ≤ 10000000 := by omega
                have st := ofL_size loc[0]
                have HE := hide e2
                rw [Nat.add_zero] at g1
                generalize loc[0] = t at *
                generalize ofL (Q ++ locQ (loc.take 0)) = X1 at *
                generalize (Q ++ locQ (loc.take 0)).length = lX at *
                clear sj s1 v1 v2 e2
                go_wp2_with fail
                go_round
                case rel => exact ⟨1, by omega, rfl, by rw [HE.out]⟩
                case measure => simp [intOf]; omega
              · obtain ⟨M, e1, e2, s1⟩ := loc_n Q loc[j] loc j hlj rfl hj1
                rw [List.length_append] at s1
                have hjb : ((j : Int) == 0) = false := by simp; omega
                have sM : M.size ≤ 10000000 := by omega
                have sX : (ofL (Q ++ locQ (loc.take j))).size ≤ 10000000 := by omega
                have st := ofL_size loc[j]
                have HE := hide e2
                generalize loc[j] = t at *
                generalize ofL (Q ++ locQ (loc.take j)) = X1 at *
                clear sj s1 v1 v2 e2
                go_wp2_with fail
                go_round
                case rel => exact ⟨j + 1, by omega, by go_num, by rw [HE.out]⟩
                case measure => simp [intOf]; omega
            · obtain rfl : j = loc.length := by omega
              have hlj' : ¬ (loc.length : Int) < (loc.length : Int) := by omega
              rw [List.take_length]
              generalize hX : ofL (Q ++ locQ loc) = X1 at *
              have HX := hide hX
              clear hX
              go_wp2_with fail
              go_ret
              exact ⟨ret_s (by first | exact HF.out | (rw [← HX.out]; exact HF.out)), HW.out⟩

end Go.Proofs.YtagnikhkmaplpaaGreat
