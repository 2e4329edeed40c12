/-
  Walks: the insertion sort of a range.
-/
import Derived.Test.YthojcidbhojlhaaSc
import Derived.Deep.RegionHeld3
namespace Go.Proofs.Ythojcidbhojlhaa
open Go.RowKit Go.Shelf
set_option linter.unusedVariables false

/-- What is asked of the comparing function. -/
def CmpG {α : Type} (E : Cel α) (f : α → α → Int) (cb : Value) (w0 : World) (B : Nat) : Prop :=
  ∀ W, Turn B w0 W → ∀ x y : α, Calls Try.prog 64 #[E.val x, E.val y, cb] W fun e W' => e = .returned (.int .i64 (f x y)) ∧ Below W.heap.size W W'

theorem last_of {α : Type} (A : List α) (h : 0 < A.length) : ∃ A' x, A = A' ++ [x] := ⟨A.dropLast, A.getLast (List.length_pos_iff.1 h), (List.dropLast_concat_getLast (List.length_pos_iff.1 h)).symm⟩

set_option maxRecDepth 100000 in
set_option maxHeartbeats 4000000 in
theorem insertion_any {α : Type} (E : Cel α) (f : α → α → Int) (hf : Cmp3 f) (cb : Value) (w0 : World) (B : Nat) (HC : CmpG E f cb w0 B) (P L S : List α) (N a b : Nat) (hN : (P ++ (L ++ S)).length = N) (ha : P.length = a) (hb : a + L.length = b) (w : World) (hd : DW E w0 B (P ++ (L ++ S)) w) (hl : N ≤ 4611686018427387904) :
    Calls Try.prog 73 #[.slice (some ⟨B, 0, none⟩) N N, .int .i64 (a : Int), .int .i64 (b : Int), .func (.func 64) #[] #[cb]] w fun e w' => e = .returned (.tuple #[]) ∧ DW E w0 B (P ++ (srt f L ++ S)) w' := by
  have hNs : b + S.length = N := by rw [← hN]; simp; omega
  have HC := hide HC
  go_enter Try.func73, Try.ntmps73
  go_wp2_with fail
  go_loopw [8] (fun x wr => ∃ (i : Nat) (L1 L2 : List α), x = .int .i64 i ∧ Hid (L = L1 ++ L2) ∧ (L2.length = 0 ∨ a + L1.length = i) ∧ a + L1.length ≤ i ∧ i ≤ b + 1 ∧ a + L1.length + L2.length = b ∧ DW E w0 B (P ++ (srt f L1 ++ (L2 ++ S))) wr) (fun x _ => b + 1 - (intOf x).toNat)
  case atStart =>
    cases L with
    | nil => exact ⟨a + 1, [], [], by go_num, rfl, .inl rfl, by simp, by simp at hb; omega, by simpa using hb, hd⟩
    | cons z L => exact ⟨a + 1, [z], L, by go_num, rfl, .inr (by simp), by simp, by simp at hb; omega, by simp at hb ⊢; omega, by rw [show srt f [z] = [z] from mrg_nil_r f [z]]; exact hd⟩
  case round =>
    clear hd hN hb
    obtain ⟨i, L1, L2, rfl, HL, h12, h1i, hib, hlen, hD⟩ := hrel
    by_cases hlt : i < b
    · have hlt' : (i : Int) < (b : Int) := by omega
      have hi : a + L1.length = i := by omega
      obtain ⟨y, L3, rfl⟩ : ∃ y L3, L2 = y :: L3 := by
        cases L2 with
        | nil => simp at hlen; omega
        | cons y L3 => exact ⟨y, L3, rfl⟩
      have HS := hide (srt_snoc hf L1 y)
      have HSo := hide (srt_srt hf L1)
      have hsl : (srt f L1).length = i - a := by rw [srt_length]; omega
      have HLL : Hid (L = (L1 ++ [y]) ++ L3) := by show _ = _; rw [HL.out]; simp
      have hl3 : i + 1 + L3.length = b := by simp only [List.length_cons] at hlen; omega
      have hl1 : a + (L1 ++ [y]).length = i + 1 := by simp; omega
      generalize srt f L1 = T at *
      clear h12 hlen HL
      go_wp2_with fail
      go_loopw [9] (fun x wr2 => ∃ (j : Nat) (A C : List α), x = .int .i64 j ∧ Hid (T = A ++ C) ∧ a + A.length = j ∧ j ≤ i ∧ Hid (∀ c ∈ C, f y c < 0) ∧ DW E w0 B (P ++ (A ++ (y :: (C ++ (L3 ++ S))))) wr2) (fun x _ => (intOf x).toNat)
      case atStart => exact ⟨i, T, [], rfl, by simp [Hid], by omega, Nat.le_refl _, by simp [Hid], by simpa using hD⟩
      case round =>
        clear hD
        obtain ⟨j, A, C, rfl, HT, haj, hji, HCl, hD⟩ := hrel
        have OUT : Hid ((∀ l ∈ A, ¬ f y l < 0) → ∀ wr3, DW E w0 B (P ++ (A ++ (y :: (C ++ (L3 ++ S))))) wr3 → DW E w0 B (P ++ (srt f (L1 ++ [y]) ++ (L3 ++ S))) wr3) := fun h wr3 hD => by
          rw [HS.out, HT.out, mrg_one_r f y A C h HCl.out]
          simpa using hD
        by_cases hja : a < j
        · have hja' : (a : Int) < (j : Int) := by omega
          have hjad : decide ((j : Int) > (a : Int)) = true := by simp; omega
          obtain ⟨A', x, rfl⟩ := last_of A (by omega)
          have hla : a + A'.length + 1 = j := by simp at haj; omega
          have hy : (P ++ ((A' ++ [x]) ++ (y :: (C ++ (L3 ++ S)))))[j]? = some y := by
            rw [← List.append_assoc, List.getElem?_append_right (by simp; omega)]
            rw [show j - (P ++ (A' ++ [x])).length = 0 by simp; omega]; rfl
          have hx : (P ++ ((A' ++ [x]) ++ (y :: (C ++ (L3 ++ S)))))[j - 1]? = some x := by
            rw [List.append_assoc, ← List.append_assoc, List.getElem?_append_right (by simp; omega)]
            rw [show j - 1 - (P ++ A').length = 0 by simp; omega]; rfl
          have hjN : j + 1 ≤ N := by omega
          have HSW : Hid (swp (P ++ ((A' ++ [x]) ++ (y :: (C ++ (L3 ++ S))))) j (j - 1) = P ++ (A' ++ (y :: ((x :: C) ++ (L3 ++ S))))) := by
            show _ = _
            have e1 : P ++ ((A' ++ [x]) ++ (y :: (C ++ (L3 ++ S)))) = (P ++ A') ++ x :: ([] ++ y :: (C ++ (L3 ++ S))) := by simp
            have := swp_parts (P ++ A') [] (C ++ (L3 ++ S)) x y
            rw [show (P ++ A').length = j - 1 by simp; omega, List.length_nil, Nat.add_zero, show j - 1 + 1 = j by omega, ← e1] at this
            have e2 : swp (P ++ ((A' ++ [x]) ++ (y :: (C ++ (L3 ++ S))))) j (j - 1) = swp (P ++ ((A' ++ [x]) ++ (y :: (C ++ (L3 ++ S))))) (j - 1) j := by
              rw [swp_at hy hx, swp_at hx hy, List.set_comm _ _ (by omega)]
            rw [e2, this]; simp
          have HTT : Hid (T = A' ++ (x :: C)) := by show _ = _; rw [HT.out]; simp
          have HTo : Hid (∀ l ∈ A' ++ [x], f l x ≤ 0) := by
            have h := HSo.out
            rw [HTT.out] at h
            intro l hl
            rcases List.mem_append.1 hl with hl | hl
            · exact (List.pairwise_append.1 h).2.2 l hl x List.mem_cons_self
            · rw [List.mem_singleton.1 hl, hf.self]; exact Int.le_refl _
          have HX := hide hx
          have HY := hide hy
          have CM := hide (fun W hW => HC.out W hW y x)
          generalize hZ : P ++ ((A' ++ [x]) ++ (y :: (C ++ (L3 ++ S)))) = Z at *
          have HZ := hide hZ
          clear hx hy hZ
          have eJ : (j : Int) - 1 = ((j - 1 : Nat) : Int) := by omega
          have wJ : IntKind.i64.wrap ((j - 1 : Nat) : Int) = ((j - 1 : Nat) : Int) := by rw [IntKind.wrap_i64]; omega
          have lJ : ((j - 1 : Nat) : Int) < (N : Int) := by omega
          have lJ' : (j : Int) < (N : Int) := by omega
          have hjj : j - 1 + 1 = j := by omega
          generalize hJ1 : j - 1 = J1 at *
          have HJ1 := hide hJ1
          clear hJ1
          obtain ⟨p0, p1, p2, p3, p4⟩ := hD.seen j y HY.out
          obtain ⟨q0, q1, q2, q3, q4⟩ := hD.seen J1 x HX.out
          have D0 := hD.drew
          by_cases hc : f y x < 0
          · go_wp2_with fail
            go_region_held3 (fun w' => w'.cell? ⟨B, j * 5, none⟩ = some (.string (E.c0 y)) ∧ w'.cell? ⟨B, j * 5 + 1, none⟩ = some (.string (E.c1 y)) ∧ w'.cell? ⟨B, j * 5 + 2, none⟩ = some (.string (E.c2 y)) ∧ w'.cell? ⟨B, j * 5 + 3, none⟩ = some (.string (E.c3 y)) ∧ w'.cell? ⟨B, j * 5 + 4, none⟩ = some (.bool (E.c4 y)) ∧ w'.cell? ⟨B, J1 * 5, none⟩ = some (.string (E.c0 x)) ∧ w'.cell? ⟨B, J1 * 5 + 1, none⟩ = some (.string (E.c1 x)) ∧ w'.cell? ⟨B, J1 * 5 + 2, none⟩ = some (.string (E.c2 x)) ∧ w'.cell? ⟨B, J1 * 5 + 3, none⟩ = some (.string (E.c3 x)) ∧ w'.cell? ⟨B, J1 * 5 + 4, none⟩ = some (.bool (E.c4 x)))
              (go_keep)
              ((first
                | (go_at_call 64; refine (CM.out _ D0.turn).mono ?_; rintro e w1 ⟨rfl, b1⟩; have Q1 := D0.next b1; obtain ⟨g0, g1, g2, g3, g4⟩ := Q1.seen j y HY.out; obtain ⟨h0, h1, h2, h3, h4⟩ := Q1.seen J1 x HX.out)
                | fail))
            clear p0 p1 p2 p3 p4 q0 q1 q2 q3 q4
            have z0 := Q1.free (j * 5)
            have z1 := Q1.free (j * 5 + 1)
            have z2 := Q1.free (j * 5 + 2)
            have z3 := Q1.free (j * 5 + 3)
            have z4 := Q1.free (j * 5 + 4)
            have y0 := Q1.free (J1 * 5)
            have y1 := Q1.free (J1 * 5 + 1)
            have y2 := Q1.free (J1 * 5 + 2)
            have y3 := Q1.free (J1 * 5 + 3)
            have y4 := Q1.free (J1 * 5 + 4)
            go_wp2_with fail
            go_big_region
            all_goals go_wp2_with fail
            go_roundw
            case rel => exact ⟨J1, A', x :: C, by first | rfl | go_num | (congr 1; omega), HTT, by omega, by omega, by intro c hcm; rcases List.mem_cons.1 hcm with rfl | hcm; exact hc; exact HCl.out c hcm, by rw [← HSW.out]; exact (Q1.swap HY.out HX.out).drew⟩
            case measure => simp [intOf]; omega
          · go_wp2_with fail
            go_region_held3 (fun w' => w'.cell? ⟨B, j * 5, none⟩ = some (.string (E.c0 y)) ∧ w'.cell? ⟨B, j * 5 + 1, none⟩ = some (.string (E.c1 y)) ∧ w'.cell? ⟨B, j * 5 + 2, none⟩ = some (.string (E.c2 y)) ∧ w'.cell? ⟨B, j * 5 + 3, none⟩ = some (.string (E.c3 y)) ∧ w'.cell? ⟨B, j * 5 + 4, none⟩ = some (.bool (E.c4 y)) ∧ w'.cell? ⟨B, J1 * 5, none⟩ = some (.string (E.c0 x)) ∧ w'.cell? ⟨B, J1 * 5 + 1, none⟩ = some (.string (E.c1 x)) ∧ w'.cell? ⟨B, J1 * 5 + 2, none⟩ = some (.string (E.c2 x)) ∧ w'.cell? ⟨B, J1 * 5 + 3, none⟩ = some (.string (E.c3 x)) ∧ w'.cell? ⟨B, J1 * 5 + 4, none⟩ = some (.bool (E.c4 x)))
              (go_keep)
              ((first
                | (go_at_call 64; refine (CM.out _ D0.turn).mono ?_; rintro e w1 ⟨rfl, b1⟩; have Q1 := D0.next b1; obtain ⟨g0, g1, g2, g3, g4⟩ := Q1.seen j y HY.out; obtain ⟨h0, h1, h2, h3, h4⟩ := Q1.seen J1 x HX.out)
                | fail))
            clear p0 p1 p2 p3 p4 q0 q1 q2 q3 q4 g0 g1 g2 g3 g4 h0 h1 h2 h3 h4
            go_wp2_with fail
            have D9 := OUT.out (fun l hl => by
              by_cases hn : f y l < 0
              · have := hf.lt_le hn (HTo.out l hl); omega
              · omega) _ Q1
            go_roundw
            case rel => exact ⟨i + 1, L1 ++ [y], L3, by go_num, HLL, .inr hl1, by omega, by omega, by omega, D9⟩
            case measure => simp [intOf]; omega
        · have hja' : ¬ (a : Int) < (j : Int) := by omega
          have hjad : decide ((j : Int) > (a : Int)) = false := by simp; omega
          obtain rfl : A = [] := List.length_eq_zero_iff.1 (by omega)
          have D9 := OUT.out (fun l hl => by cases hl)
          have D9 := hide D9
          go_wp2_with fail
          go_big_region
          all_goals go_wp2_with fail
          go_roundw
          case rel => exact ⟨i + 1, L1 ++ [y], L3, by go_num, HLL, .inr hl1, by omega, by omega, by omega, D9.out _ hD.drew⟩
          case measure => simp [intOf]; omega
    · have hlt' : ¬ (i : Int) < (b : Int) := by omega
      obtain rfl : L2 = [] := List.length_eq_zero_iff.1 (by omega)
      go_wp2_with fail
      go_end0
      exact ⟨rfl, by rw [HL.out, List.append_nil]; simpa using hD⟩

end Go.Proofs.Ythojcidbhojlhaa
