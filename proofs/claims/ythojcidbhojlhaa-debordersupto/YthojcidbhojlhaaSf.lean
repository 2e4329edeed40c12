/-
  Walks: one element merged into what stands left of it.
-/
import Derived.Test.YthojcidbhojlhaaSd
import Derived.Test.YthojcidbhojlhaaMu
namespace Go.Proofs.Ythojcidbhojlhaa
open Go.RowKit Go.Shelf
set_option linter.unusedVariables false

theorem zar_l {α : Type} (P L S : List α) (y : α) (q : Nat) (h : q < L.length) : (P ++ (L ++ (y :: S)))[P.length + q]? = L[q]? := by
  rw [List.getElem?_append_right (by omega), show P.length + q - P.length = q by omega, List.getElem?_append_left h]
theorem zar_r {α : Type} (P L S : List α) (y : α) : (P ++ (L ++ (y :: S)))[P.length + L.length]? = some y := by
  rw [List.getElem?_append_right (by omega), show P.length + L.length - P.length = L.length by omega]; simp

set_option maxRecDepth 100000 in
set_option maxHeartbeats 4000000 in
theorem symR_any {α : Type} (E : Cel α) (f : α → α → Int) (hf : Cmp3 f) (cb : Value) (w0 : World) (B : Nat) (HC : CmpG E f cb w0 B) (P L S : List α) (y : α) (hL : Srt f L) (N a m b : Nat) (hN : (P ++ (L ++ (y :: S))).length = N) (ha : P.length = a) (hm : a + L.length = m) (hb : m + 1 = b) (hL1 : L.length ≠ 1) (w : World) (hd : DW E w0 B (P ++ (L ++ (y :: S))) w) (hl : N ≤ 1152921504606846976) :
    Calls Try.prog 74 #[.slice (some ⟨B, 0, none⟩) N N, .int .i64 (a : Int), .int .i64 (m : Int), .int .i64 (b : Int), .func (.func 64) #[] #[cb]] w fun e w' => e = .returned (.tuple #[]) ∧ DW E w0 B (P ++ (mrg f L [y] ++ S)) w' := by
  have hNs : b + S.length = N := by rw [← hN]; simp; omega
  have HC := hide HC
  have HYA : Hid ((P ++ (L ++ (y :: S)))[m]? = some y) := by show _ = _; have := zar_r P L S y; rwa [ha, hm] at this
  have HZL : Hid (∀ i, a ≤ i → i < m → (P ++ (L ++ (y :: S)))[i]? = L[i - a]?) := by
    intro i h1 h2
    have := zar_l P L S y (i - a) (by omega)
    rwa [ha, show a + (i - a) = i by omega] at this
  have eM : ((m : Int) - (a : Int) == 1) = false := by simp; omega
  have eB : ((b : Int) - (m : Int) == 1) = true := by simp; omega
  have HO := hide (one_r hf hL y)
  generalize hZ : P ++ (L ++ (y :: S)) = Z at *
  have HZ := hide hZ
  clear hZ hN hL1
  go_enter Try.func74, Try.ntmps74
  go_wp2_with fail
  go_loopw [14, 15] (fun u v wr => ∃ (i j : Nat), u = .int .i64 i ∧ v = .int .i64 j ∧ a ≤ i ∧ i ≤ j ∧ j ≤ m ∧ DW E w0 B Z wr ∧ Hid (i = a ∨ ∃ l, L[i - a - 1]? = some l ∧ 0 ≤ f y l) ∧ Hid (j = m ∨ ∃ l, L[j - a]? = some l ∧ f y l < 0)) (fun u v _ => (intOf v).toNat - (intOf u).toNat)
  case atStart => exact ⟨a, m, rfl, rfl, Nat.le_refl _, by omega, Nat.le_refl _, hd, .inl rfl, .inl rfl⟩
  case round =>
    clear hd
    obtain ⟨i, j, rfl, rfl, hai, hij, hjm, hD, HI, HJ⟩ := hrel
    by_cases hlt : i < j
    · have hlt' : (i : Int) < (j : Int) := by omega
      obtain ⟨h, hh⟩ : ∃ h : Nat, h = (i + j) / 2 := ⟨_, rfl⟩
      have eH : ((i : Int) + (j : Int)) / 2 = (h : Int) := by omega
      have hih : i ≤ h := by omega
      have hhj : h < j := by omega
      clear hh
      obtain ⟨z, hz⟩ := some_at L (h - a) (by omega)
      have HY : Hid (Z[h]? = some z) := by show _ = _; rw [HZL.out h (by omega) (by omega)]; exact hz
      have HX := HYA
      have HZ1 := hide hz
      clear hz
      have CM := hide (fun W hW => HC.out W hW y z)
      have lh : (h : Int) < (N : Int) := by omega
      have lm : (m : Int) < (N : Int) := by omega
      obtain ⟨p0, p1, p2, p3, p4⟩ := hD.seen m y HX.out
      obtain ⟨q0, q1, q2, q3, q4⟩ := hD.seen h z HY.out
      have D0 := hD.drew
      by_cases hc : f y z < 0
      · have hcd : decide (f y z < 0) = true := by simpa using hc
        go_wp2_with fail
        go_region_held3 (fun w' => w'.cell? ⟨B, m * 5, none⟩ = some (.string (E.c0 y)) ∧ w'.cell? ⟨B, m * 5 + 1, none⟩ = some (.string (E.c1 y)) ∧ w'.cell? ⟨B, m * 5 + 2, none⟩ = some (.string (E.c2 y)) ∧ w'.cell? ⟨B, m * 5 + 3, none⟩ = some (.string (E.c3 y)) ∧ w'.cell? ⟨B, m * 5 + 4, none⟩ = some (.bool (E.c4 y)) ∧ w'.cell? ⟨B, h * 5, none⟩ = some (.string (E.c0 z)) ∧ w'.cell? ⟨B, h * 5 + 1, none⟩ = some (.string (E.c1 z)) ∧ w'.cell? ⟨B, h * 5 + 2, none⟩ = some (.string (E.c2 z)) ∧ w'.cell? ⟨B, h * 5 + 3, none⟩ = some (.string (E.c3 z)) ∧ w'.cell? ⟨B, h * 5 + 4, none⟩ = some (.bool (E.c4 z)))
          (go_keep)
          ((first
            | (go_at_call 64; refine (CM.out _ D0.turn).mono ?_; rintro e w1 ⟨rfl, b1⟩; have Q1 := D0.next b1; obtain ⟨g0, g1, g2, g3, g4⟩ := Q1.seen m y HX.out; obtain ⟨h0, h1, h2, h3, h4⟩ := Q1.seen h z HY.out)
            | fail))
        clear p0 p1 p2 p3 p4 q0 q1 q2 q3 q4 g0 g1 g2 g3 g4 h0 h1 h2 h3 h4
        go_wp2_with fail
        go_roundw
        case rel => exact ⟨i, h, rfl, rfl, hai, hih, by omega, Q1, HI, .inr ⟨z, HZ1.out, hc⟩⟩
        case measure => simp [intOf]; omega
      · have hcd : decide (f y z < 0) = false := by simpa using hc
        go_wp2_with fail
        go_region_held3 (fun w' => w'.cell? ⟨B, m * 5, none⟩ = some (.string (E.c0 y)) ∧ w'.cell? ⟨B, m * 5 + 1, none⟩ = some (.string (E.c1 y)) ∧ w'.cell? ⟨B, m * 5 + 2, none⟩ = some (.string (E.c2 y)) ∧ w'.cell? ⟨B, m * 5 + 3, none⟩ = some (.string (E.c3 y)) ∧ w'.cell? ⟨B, m * 5 + 4, none⟩ = some (.bool (E.c4 y)) ∧ w'.cell? ⟨B, h * 5, none⟩ = some (.string (E.c0 z)) ∧ w'.cell? ⟨B, h * 5 + 1, none⟩ = some (.string (E.c1 z)) ∧ w'.cell? ⟨B, h * 5 + 2, none⟩ = some (.string (E.c2 z)) ∧ w'.cell? ⟨B, h * 5 + 3, none⟩ = some (.string (E.c3 z)) ∧ w'.cell? ⟨B, h * 5 + 4, none⟩ = some (.bool (E.c4 z)))
          (go_keep)
          ((first
            | (go_at_call 64; refine (CM.out _ D0.turn).mono ?_; rintro e w1 ⟨rfl, b1⟩; have Q1 := D0.next b1; obtain ⟨g0, g1, g2, g3, g4⟩ := Q1.seen m y HX.out; obtain ⟨h0, h1, h2, h3, h4⟩ := Q1.seen h z HY.out)
            | fail))
        clear p0 p1 p2 p3 p4 q0 q1 q2 q3 q4 g0 g1 g2 g3 g4 h0 h1 h2 h3 h4
        go_wp2_with fail
        go_roundw
        case rel => exact ⟨h + 1, j, by go_num, rfl, by omega, by omega, hjm, Q1, .inr ⟨z, by rw [show h + 1 - a - 1 = h - a by omega]; exact HZ1.out, by omega⟩, HJ⟩
        case measure => simp [intOf]; omega
    · have hlt' : ¬ (i : Int) < (j : Int) := by omega
      obtain rfl : i = j := by omega
      have HM : Hid (mrg f L [y] = L.take (i - a) ++ y :: L.drop (i - a)) := HO.out (i - a) (by
        rcases HI.out with h | ⟨r, h1, h2⟩
        · exact .inl (by omega)
        · exact .inr ⟨r, h1, by omega⟩) (by
        rcases HJ.out with h | h
        · exact .inl (by omega)
        · exact .inr h)
      have hT : (L.take (i - a)).length = i - a := by rw [List.length_take]; omega
      have HT2 : Hid ((L.drop (i - a)).length = m - i) := by show _ = _; rw [List.length_drop]; omega
      have hZD : DW E w0 B ((P ++ L.take (i - a)) ++ (L.drop (i - a) ++ (y :: S))) wr := by
        have e1 : (P ++ L.take (i - a)) ++ (L.drop (i - a) ++ (y :: S)) = P ++ (L ++ (y :: S)) := by
          rw [List.append_assoc, ← List.append_assoc (L.take (i - a)), List.take_append_drop]
        rw [e1, HZ.out]; exact hD
      have hPT : (P ++ L.take (i - a)).length = i := by rw [List.length_append, hT]; omega
      generalize L.take (i - a) = T1 at *
      generalize L.drop (i - a) = T2 at *
      have HFin : Hid (P ++ (mrg f L [y] ++ S) = (P ++ T1) ++ (y :: (T2 ++ S))) := by show _ = _; rw [HM.out]; simp
      generalize P ++ T1 = PT at *
      clear hD HJ HI HZL HYA HO hT
      go_wp2_with fail
      go_loopw [17] (fun u wr2 => ∃ (q : Nat) (A C : List α), u = .int .i64 q ∧ Hid (T2 = A ++ C) ∧ i + A.length = q ∧ q ≤ m ∧ DW E w0 B (PT ++ (A ++ (y :: (C ++ S)))) wr2) (fun u _ => (intOf u).toNat)
      case atStart => exact ⟨m, T2, [], rfl, by simp [Hid], by have := HT2.out; omega, Nat.le_refl _, by simpa using hZD⟩
      case round =>
        clear hZD
        obtain ⟨q, A, C, rfl, HAC, hq, hqm, hD⟩ := hrel
        by_cases hlq : i < q
        · have hlq' : (i : Int) < (q : Int) := by omega
          obtain ⟨A', z, rfl⟩ := last_of A (by omega)
          have hA' : i + A'.length + 1 = q := by simp at hq; omega
          have hx : (PT ++ ((A' ++ [z]) ++ (y :: (C ++ S))))[q]? = some y := by
            rw [← List.append_assoc, List.getElem?_append_right (by simp; omega), show q - (PT ++ (A' ++ [z])).length = 0 by simp; omega]; rfl
          have hy : (PT ++ ((A' ++ [z]) ++ (y :: (C ++ S))))[q - 1]? = some z := by
            rw [List.append_assoc, ← List.append_assoc, List.getElem?_append_right (by simp; omega), show q - 1 - (PT ++ A').length = 0 by simp; omega]; rfl
          have HSW : Hid (swp (PT ++ ((A' ++ [z]) ++ (y :: (C ++ S)))) q (q - 1) = PT ++ (A' ++ (y :: ((z :: C) ++ S)))) := by
            show _ = _
            have e1 : PT ++ ((A' ++ [z]) ++ (y :: (C ++ S))) = (PT ++ A') ++ z :: ([] ++ y :: (C ++ S)) := by simp
            have := swp_parts (PT ++ A') [] (C ++ S) z y
            rw [show (PT ++ A').length = q - 1 by simp; omega, List.length_nil, Nat.add_zero, show q - 1 + 1 = q by omega, ← e1] at this
            have e2 : swp (PT ++ ((A' ++ [z]) ++ (y :: (C ++ S)))) q (q - 1) = swp (PT ++ ((A' ++ [z]) ++ (y :: (C ++ S)))) (q - 1) q := by
              rw [swp_at hx hy, swp_at hy hx, List.set_comm _ _ (by omega)]
            rw [e2, this]; simp
          have HAC' : Hid (T2 = A' ++ (z :: C)) := by show _ = _; rw [HAC.out]; simp
          have HX := hide hx
          have HY := hide hy
          generalize hZZ : PT ++ ((A' ++ [z]) ++ (y :: (C ++ S))) = ZZ at *
          have eK : (q : Int) - 1 = ((q - 1 : Nat) : Int) := by omega
          have lq : (q : Int) < (N : Int) := by omega
          have lK : ((q - 1 : Nat) : Int) < (N : Int) := by omega
          have wK : IntKind.i64.wrap ((q - 1 : Nat) : Int) = ((q - 1 : Nat) : Int) := by rw [IntKind.wrap_i64]; omega
          have hqK : q - 1 + 1 = q := by omega
          generalize hK1 : q - 1 = K1 at *
          clear hZZ hx hy hq hK1
          obtain ⟨p0, p1, p2, p3, p4⟩ := hD.seen q y HX.out
          obtain ⟨q0, q1, q2, q3, q4⟩ := hD.seen K1 z HY.out
          have z0 := hD.free (q * 5)
          have z1 := hD.free (q * 5 + 1)
          have z2 := hD.free (q * 5 + 2)
          have z3 := hD.free (q * 5 + 3)
          have z4 := hD.free (q * 5 + 4)
          have y0 := hD.free (K1 * 5)
          have y1 := hD.free (K1 * 5 + 1)
          have y2 := hD.free (K1 * 5 + 2)
          have y3 := hD.free (K1 * 5 + 3)
          have y4 := hD.free (K1 * 5 + 4)
          go_wp2_with fail
          go_big_region
          all_goals go_wp2_with fail
          go_roundw
          case rel => exact ⟨K1, A', z :: C, by first | rfl | go_num, HAC', by omega, by omega, by rw [← HSW.out]; exact (hD.swap HX.out HY.out).drew⟩
          case measure => simp [intOf]; omega
        · have hlq' : ¬ (i : Int) < (q : Int) := by omega
          obtain rfl : A = [] := List.length_eq_zero_iff.1 (by omega)
          go_wp2_with fail
          refine bodyPost_ret (results_none rfl _ _ _) rfl ?_
          refine ⟨rfl, ?_⟩
          rw [HFin.out, HAC.out]
          simpa using hD

end Go.Proofs.Ythojcidbhojlhaa
