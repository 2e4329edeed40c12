/-
  Walks: one element merged into what stands right of it.
-/
import Derived.Test.YthojcidbhojlhaaSd
import Derived.Test.YthojcidbhojlhaaMu
import Derived.WalkLawsBesides
namespace Go.Proofs.Ythojcidbhojlhaa
open Go.RowKit Go.Shelf
set_option linter.unusedVariables false

theorem zat_l {α : Type} (P R S : List α) (x : α) : (P ++ (x :: (R ++ S)))[P.length]? = some x := by simp
theorem zat_r {α : Type} (P R S : List α) (x : α) (q : Nat) (h : q < R.length) : (P ++ (x :: (R ++ S)))[P.length + 1 + q]? = R[q]? := by
  rw [List.getElem?_append_right (by omega), show P.length + 1 + q - P.length = q + 1 by omega, List.getElem?_cons_succ, List.getElem?_append_left h]

set_option maxRecDepth 100000 in
set_option maxHeartbeats 4000000 in
theorem symL_any {α : Type} (E : Cel α) (f : α → α → Int) (hf : Cmp3 f) (cb : Value) (w0 : World) (B : Nat) (HC : CmpG E f cb w0 B) (P R S : List α) (x : α) (hR : Srt f R) (N a m b : Nat) (hN : (P ++ (x :: (R ++ S))).length = N) (ha : P.length = a) (hm : a + 1 = m) (hb : m + R.length = b) (w : World) (hd : DW E w0 B (P ++ (x :: (R ++ S))) w) (hl : N ≤ 1152921504606846976) :
    Calls Try.prog 74 #[.slice (some ⟨B, 0, none⟩) N N, .int .i64 (a : Int), .int .i64 (m : Int), .int .i64 (b : Int), .func (.func 64) #[] #[cb]] w fun e w' => e = .returned (.tuple #[]) ∧ DW E w0 B (P ++ (mrg f [x] R ++ S)) w' := by
  have hNs : b + S.length = N := by rw [← hN]; simp; omega
  have HC := hide HC
  have HXA : Hid ((P ++ (x :: (R ++ S)))[a]? = some x) := by show _ = _; rw [← ha]; exact zat_l P R S x
  have HZR : Hid (∀ i, m ≤ i → i < b → (P ++ (x :: (R ++ S)))[i]? = R[i - m]?) := by
    intro i h1 h2
    have := zat_r P R S x (i - m) (by omega)
    rwa [ha, show a + 1 + (i - m) = i by omega] at this
  have eM : ((m : Int) - (a : Int) == 1) = true := by simp; omega
  have HO := hide (one_l hf hR x)
  generalize hZ : P ++ (x :: (R ++ S)) = Z at *
  have HZ := hide hZ
  clear hZ hN
  go_enter Try.func74, Try.ntmps74
  go_wp2_with fail
  go_loopw [10, 11] (fun u v wr => ∃ (i j : Nat), u = .int .i64 i ∧ v = .int .i64 j ∧ m ≤ i ∧ i ≤ j ∧ j ≤ b ∧ DW E w0 B Z wr ∧ Hid (j = b ∨ ∃ r, R[j - m]? = some r ∧ 0 ≤ f r x) ∧ Hid (i = m ∨ ∃ r, R[i - m - 1]? = some r ∧ f r x < 0)) (fun u v _ => (intOf v).toNat - (intOf u).toNat)
  case atStart => exact ⟨m, b, rfl, rfl, Nat.le_refl _, by omega, Nat.le_refl _, hd, .inl rfl, .inl rfl⟩
  case round =>
    clear hd
    obtain ⟨i, j, rfl, rfl, hmi, hij, hjb, hD, HJ, HI⟩ := hrel
    by_cases hlt : i < j
    · have hlt' : (i : Int) < (j : Int) := by omega
      obtain ⟨h, hh⟩ : ∃ h : Nat, h = (i + j) / 2 := ⟨_, rfl⟩
      have eH : ((i : Int) + (j : Int)) / 2 = (h : Int) := by omega
      have hih : i ≤ h := by omega
      have hhj : h < j := by omega
      clear hh
      obtain ⟨z, hz⟩ := some_at R (h - m) (by omega)
      have HX : Hid (Z[h]? = some z) := by show _ = _; rw [HZR.out h (by omega) (by omega)]; exact hz
      have HY := HXA
      have HZ1 := hide hz
      clear hz
      have CM := hide (fun W hW => HC.out W hW z x)
      have lh : (h : Int) < (N : Int) := by omega
      have lA : (a : Int) < (N : Int) := by omega
      obtain ⟨p0, p1, p2, p3, p4⟩ := hD.seen h z HX.out
      obtain ⟨q0, q1, q2, q3, q4⟩ := hD.seen a x HY.out
      have D0 := hD.drew
      by_cases hc : f z x < 0
      · go_wp2_with fail
        go_region_held3 (fun w' => w'.cell? ⟨B, h * 5, none⟩ = some (.string (E.c0 z)) ∧ w'.cell? ⟨B, h * 5 + 1, none⟩ = some (.string (E.c1 z)) ∧ w'.cell? ⟨B, h * 5 + 2, none⟩ = some (.string (E.c2 z)) ∧ w'.cell? ⟨B, h * 5 + 3, none⟩ = some (.string (E.c3 z)) ∧ w'.cell? ⟨B, h * 5 + 4, none⟩ = some (.bool (E.c4 z)) ∧ w'.cell? ⟨B, a * 5, none⟩ = some (.string (E.c0 x)) ∧ w'.cell? ⟨B, a * 5 + 1, none⟩ = some (.string (E.c1 x)) ∧ w'.cell? ⟨B, a * 5 + 2, none⟩ = some (.string (E.c2 x)) ∧ w'.cell? ⟨B, a * 5 + 3, none⟩ = some (.string (E.c3 x)) ∧ w'.cell? ⟨B, a * 5 + 4, none⟩ = some (.bool (E.c4 x)))
          (go_keep)
          ((first
            | (go_at_call 64; refine (CM.out _ D0.turn).mono ?_; rintro e w1 ⟨rfl, b1⟩; have Q1 := D0.next b1; obtain ⟨g0, g1, g2, g3, g4⟩ := Q1.seen h z HX.out; obtain ⟨h0, h1, h2, h3, h4⟩ := Q1.seen a x HY.out)
            | fail))
        clear p0 p1 p2 p3 p4 q0 q1 q2 q3 q4 g0 g1 g2 g3 g4 h0 h1 h2 h3 h4
        go_wp2_with fail
        go_roundw
        case rel => exact ⟨h + 1, j, by go_num, rfl, by omega, by omega, hjb, Q1, HJ, .inr ⟨z, by rw [show h + 1 - m - 1 = h - m by omega]; exact HZ1.out, hc⟩⟩
        case measure => simp [intOf]; omega
      · go_wp2_with fail
        go_region_held3 (fun w' => w'.cell? ⟨B, h * 5, none⟩ = some (.string (E.c0 z)) ∧ w'.cell? ⟨B, h * 5 + 1, none⟩ = some (.string (E.c1 z)) ∧ w'.cell? ⟨B, h * 5 + 2, none⟩ = some (.string (E.c2 z)) ∧ w'.cell? ⟨B, h * 5 + 3, none⟩ = some (.string (E.c3 z)) ∧ w'.cell? ⟨B, h * 5 + 4, none⟩ = some (.bool (E.c4 z)) ∧ w'.cell? ⟨B, a * 5, none⟩ = some (.string (E.c0 x)) ∧ w'.cell? ⟨B, a * 5 + 1, none⟩ = some (.string (E.c1 x)) ∧ w'.cell? ⟨B, a * 5 + 2, none⟩ = some (.string (E.c2 x)) ∧ w'.cell? ⟨B, a * 5 + 3, none⟩ = some (.string (E.c3 x)) ∧ w'.cell? ⟨B, a * 5 + 4, none⟩ = some (.bool (E.c4 x)))
          (go_keep)
          ((first
            | (go_at_call 64; refine (CM.out _ D0.turn).mono ?_; rintro e w1 ⟨rfl, b1⟩; have Q1 := D0.next b1; obtain ⟨g0, g1, g2, g3, g4⟩ := Q1.seen h z HX.out; obtain ⟨h0, h1, h2, h3, h4⟩ := Q1.seen a x HY.out)
            | fail))
        clear p0 p1 p2 p3 p4 q0 q1 q2 q3 q4 g0 g1 g2 g3 g4 h0 h1 h2 h3 h4
        go_wp2_with fail
        go_roundw
        case rel => exact ⟨i, h, rfl, rfl, hmi, hih, by omega, Q1, .inr ⟨z, HZ1.out, by omega⟩, HI⟩
        case measure => simp [intOf]; omega
    · have hlt' : ¬ (i : Int) < (j : Int) := by omega
      obtain rfl : i = j := by omega
      have HM : Hid (mrg f [x] R = R.take (i - m) ++ x :: R.drop (i - m)) := HO.out (i - m) (by
        rcases HJ.out with h | ⟨r, h1, h2⟩
        · exact .inl (by omega)
        · exact .inr ⟨r, h1, by omega⟩) (by
        rcases HI.out with h | h
        · exact .inl (by omega)
        · exact .inr h)
      have HT : Hid ((R.take (i - m)).length = i - m) := by show _ = _; rw [List.length_take]; omega
      have hZD : DW E w0 B (P ++ (x :: (R.take (i - m) ++ (R.drop (i - m) ++ S)))) wr := by
        rw [← List.append_assoc (R.take (i - m)), List.take_append_drop, HZ.out]; exact hD
      have hRd : (R.drop (i - m)).length = b - i := by rw [List.length_drop]; omega
      generalize R.take (i - m) = T1 at *
      generalize R.drop (i - m) = T2 at *
      clear hD HJ HI HZR HXA HO
      go_wp2_with fail
      go_loopw [13] (fun u wr2 => ∃ (q : Nat) (A C : List α), u = .int .i64 q ∧ Hid (T1 = A ++ C) ∧ a + A.length = q ∧ a + A.length + 1 + C.length = i ∧ DW E w0 B (P ++ (A ++ (x :: (C ++ (T2 ++ S))))) wr2) (fun u _ => i - (intOf u).toNat)
      case atStart => exact ⟨a, [], T1, rfl, rfl, by simp, by have := HT.out; simp; omega, hZD⟩
      case round =>
        clear hZD
        obtain ⟨q, A, C, rfl, HAC, hq, hqi, hD⟩ := hrel
        by_cases hlq : q + 1 < i
        · have hlq' : (q : Int) < (i : Int) - 1 := by omega
          obtain ⟨z, C', rfl⟩ : ∃ z C', C = z :: C' := by
            cases C with
            | nil => simp at hqi; omega
            | cons z C' => exact ⟨z, C', rfl⟩
          have hx : (P ++ (A ++ (x :: ((z :: C') ++ (T2 ++ S)))))[q]? = some x := by
            rw [← List.append_assoc, List.getElem?_append_right (by simp; omega), show q - (P ++ A).length = 0 by simp; omega]; rfl
          have hy : (P ++ (A ++ (x :: ((z :: C') ++ (T2 ++ S)))))[q + 1]? = some z := by
            rw [← List.append_assoc, List.getElem?_append_right (by simp; omega), show q + 1 - (P ++ A).length = 1 by simp; omega]; rfl
          have HSW : Hid (swp (P ++ (A ++ (x :: ((z :: C') ++ (T2 ++ S))))) q (q + 1) = P ++ ((A ++ [z]) ++ (x :: (C' ++ (T2 ++ S))))) := by
            have := swp_parts (P ++ A) [] (C' ++ (T2 ++ S)) x z
            rw [show (P ++ A).length = q by simp; omega, List.length_nil, Nat.add_zero] at this
            show _ = _
            have e1 : P ++ (A ++ (x :: ((z :: C') ++ (T2 ++ S)))) = (P ++ A) ++ x :: ([] ++ z :: (C' ++ (T2 ++ S))) := by simp
            rw [e1, this]; simp
          have hA1 : a + (A ++ [z]).length = q + 1 := by simp; omega
          have hC1 : a + (A ++ [z]).length + 1 + C'.length = i := by simp at hqi ⊢; omega
          have HAC' : Hid (T1 = (A ++ [z]) ++ C') := by show _ = _; rw [HAC.out]; simp
          have HX := hide hx
          have HY := hide hy
          generalize hZZ : P ++ (A ++ (x :: ((z :: C') ++ (T2 ++ S)))) = ZZ at *
          have eK : (q : Int) + 1 = ((q + 1 : Nat) : Int) := by omega
          have lq : (q : Int) < (N : Int) := by omega
          have lK : ((q + 1 : Nat) : Int) < (N : Int) := by omega
          have wK : IntKind.i64.wrap ((q + 1 : Nat) : Int) = ((q + 1 : Nat) : Int) := by rw [IntKind.wrap_i64]; omega
          have hqK : q < q + 1 := by omega
          generalize hK1 : q + 1 = K1 at *
          clear hZZ hx hy hqi hq
          obtain ⟨p0, p1, p2, p3, p4⟩ := hD.seen q x HX.out
          obtain ⟨q0, q1, q2, q3, q4⟩ := hD.seen K1 z HY.out
          have z0 := hD.free (q * 5)
          have z1 := hD.free (q * 5 + 1)
          have z2 := hD.free (q * 5 + 2)
          have z3 := hD.free (q * 5 + 3)
          have z4 := hD.free (q * 5 + 4)
          have y0 := hD.free (K1 * 5)
          have y1 := hD.free (K1 * 5 + 1)
          have y2 := hD.free (K1 * 5 + 2)
          have y3 := hD.free (K1 * 5 + 3)
          have y4 := hD.free (K1 * 5 + 4)
          go_wp2_with fail
          go_big_region
          all_goals go_wp2_with fail
          go_roundw
          case rel => exact ⟨K1, A ++ [z], C', by first | rfl | go_num, HAC', hA1, hC1, by rw [← HSW.out]; exact (hD.swap HX.out HY.out).drew⟩
          case measure => simp [intOf]; omega
        · have hlq' : ¬ (q : Int) < (i : Int) - 1 := by omega
          obtain rfl : C = [] := List.length_eq_zero_iff.1 (by omega)
          go_wp2_with fail
          refine bodyPost_ret (results_none rfl _ _ _) rfl ?_
          refine ⟨rfl, ?_⟩
          rw [HM.out, HAC.out]
          simpa using hD

end Go.Proofs.Ythojcidbhojlhaa
