/-
  Walks: the document's order of parts.
-/
import Derived.Test.YthojcidbhojlhaaRa
import Derived.Deep.CutBlock
namespace Go.Proofs.Ythojcidbhojlhaa
open Go.RowKit Go.Shelf
set_option linter.unusedVariables false

set_option maxRecDepth 100000 in
set_option maxHeartbeats 16000000 in
theorem RPart_any (a b : ByteArray) (w : World) (ha : a.size ≤ 9223372036854775000) (hb : b.size ≤ 9223372036854775000) :
    Calls Try.prog 17 #[.string a, .string b] w fun e w' => e = .returned (.int .i64 (partO a.data.toList b.data.toList)) ∧ Below w.heap.size w w' := by
  have B0 := Below.refl w.heap.size w
  go_enter Try.func17, Try.ntmps17
  go_wp2_with fail
  go_loopw [5, 6] (fun x y wr => ∃ i k : Nat, i ≤ a.size ∧ k ≤ b.size ∧ x = .int .i64 i ∧ y = .int .i64 k ∧ Below w.heap.size w wr ∧ Hid (partO a.data.toList b.data.toList = partO (a.data.toList.drop i) (b.data.toList.drop k)))
    (fun x y _ => (a.size - (intOf x).toNat) + (b.size - (intOf y).toNat))
  case atStart => exact ⟨0, 0, by omega, by omega, rfl, rfl, B0, by simp [Hid]⟩
  case round =>
    clear B0
    obtain ⟨i, k, hi, hk, rfl, rfl, hB, HR⟩ := hrel
    have HWA := hide (fun t => word_in a i t hi)
    have HWB := hide (fun t => word_in b k t hk)
    have HOA := hide (word_out a i hi)
    have HOB := hide (word_out b k hk)
    have hlA := word_drop_le a i hi
    have hlB := word_drop_le b k hk
    have HTA : Hid (∀ t, t ≤ (wordL (a.data.toList.drop i)).length → wtD a.data.toList (i + t) = wtL (wordL (a.data.toList.drop i)) t) := fun t h => by rw [← wtD_drop, wt_word _ _ h]
    have HTB : Hid (∀ t, t ≤ (wordL (b.data.toList.drop k)).length → wtD b.data.toList (k + t) = wtL (wordL (b.data.toList.drop k)) t) := fun t h => by rw [← wtD_drop, wt_word _ _ h]
    have HNA := hide (wt_ne (a.data.toList.drop i))
    have HNB := hide (wt_ne (b.data.toList.drop k))
    have HPW := hide (part_word (a.data.toList.drop i) (b.data.toList.drop k))
    have HPD := hide (part_digs (a.data.toList.drop i) (b.data.toList.drop k))
    have HRA : Hid (restL (a.data.toList.drop i) = a.data.toList.drop (i + (wordL (a.data.toList.drop i)).length + runL 1 (a.data.toList.drop (i + (wordL (a.data.toList.drop i)).length)))) := by
      show _ = _; unfold restL; rw [List.drop_drop, List.drop_drop]; congr 1; omega
    have HRB : Hid (restL (b.data.toList.drop k) = b.data.toList.drop (k + (wordL (b.data.toList.drop k)).length + runL 1 (b.data.toList.drop (k + (wordL (b.data.toList.drop k)).length)))) := by
      show _ = _; unfold restL; rw [List.drop_drop, List.drop_drop]; congr 1; omega
    have HDA : Hid (digsL (a.data.toList.drop i) = (a.data.toList.drop (i + (wordL (a.data.toList.drop i)).length)).take (runL 1 (a.data.toList.drop (i + (wordL (a.data.toList.drop i)).length)))) := by
      show _ = _; unfold digsL; rw [List.drop_drop]
    have HDB : Hid (digsL (b.data.toList.drop k) = (b.data.toList.drop (k + (wordL (b.data.toList.drop k)).length)).take (runL 1 (b.data.toList.drop (k + (wordL (b.data.toList.drop k)).length)))) := by
      show _ = _; unfold digsL; rw [List.drop_drop]
    have HEN : Hid (i = a.size → k = b.size → partO (a.data.toList.drop i) (b.data.toList.drop k) = 0) := fun h1 h2 => by rw [h1, h2, drop_end a _ (Nat.le_refl _), drop_end b _ (Nat.le_refl _)]; rfl
    have HMV : Hid ((i < a.size ∨ k < b.size) → (wordL (a.data.toList.drop i)).length = 0 ∨ True) := fun _ => .inr trivial
    have hmov : i < a.size → 0 < (wordL (a.data.toList.drop i)).length + runL 1 (a.data.toList.drop (i + (wordL (a.data.toList.drop i)).length)) := fun h => by
      have := runs_pos (a.data.toList.drop i) (fun e => by have := congrArg List.length e; rw [List.length_drop, len_data, List.length_nil] at this; omega)
      rwa [List.drop_drop] at this
    have hmovB : k < b.size → 0 < (wordL (b.data.toList.drop k)).length + runL 1 (b.data.toList.drop (k + (wordL (b.data.toList.drop k)).length)) := fun h => by
      have := runs_pos (b.data.toList.drop k) (fun e => by have := congrArg List.length e; rw [List.length_drop, len_data, List.length_nil] at this; omega)
      rwa [List.drop_drop] at this
    have HMA := hide hmov
    have HMB := hide hmovB
    have HLA := hide (fun p h => runL_drop_le 1 a p h)
    have HLB := hide (fun p h => runL_drop_le 1 b p h)
    clear hmov hmovB HMV
    generalize hP : partO (a.data.toList.drop i) (b.data.toList.drop k) = PO at *
    clear hP
    generalize wordL (a.data.toList.drop i) = wA at *
    generalize wordL (b.data.toList.drop k) = wB at *
    generalize restL (a.data.toList.drop i) = reA at *
    generalize restL (b.data.toList.drop k) = reB at *
    generalize digsL (a.data.toList.drop i) = dA at *
    generalize digsL (b.data.toList.drop k) = dB at *
    by_cases w1 : i < a.size
    · have w1' : (i : Int) < (a.size : Int) := by omega
      go_upto_block 2 with fail
      go_cut [5, 6, 7, 8] from 12 to 99 (fun x y _ _ wx => ∃ p q : Nat, x = .int .i64 p ∧ y = .int .i64 q ∧ Below w.heap.size w wx ∧ Hid (p = i + wA.length) ∧ Hid (q = k + wB.length) ∧ Hid (wordO wA wB = 0))
      case first =>
        go_wp2_with fail
        go_loopw [5, 6] (fun x y wr2 => ∃ t : Nat, t ≤ wA.length ∧ t ≤ wB.length ∧ x = .int .i64 ((i + t : Nat) : Int) ∧ y = .int .i64 ((k + t : Nat) : Int) ∧ Below w.heap.size w wr2 ∧ Hid (wordO wA wB = wordO (wA.drop t) (wB.drop t))) (fun x _ _ => a.size + 1 - (intOf x).toNat)
        case atStart => exact ⟨0, by omega, by omega, by first | rfl | (congr 1; omega), by first | rfl | (congr 1; omega), hB, by simp [Hid]⟩
        case round =>
          clear hB
          obtain ⟨t, htA, htB, rfl, rfl, hB, HT⟩ := hrel
          obtain ⟨It, hIt⟩ : ∃ It, It = i + t := ⟨_, rfl⟩
          obtain ⟨Kt, hKt⟩ : ∃ Kt, Kt = k + t := ⟨_, rfl⟩
          have WA := fun w => Rweight_any a (i + t) w ha
          have WB := fun w => Rweight_any b (k + t) w hb
          rw [HTA.out t htA] at WA
          rw [HTB.out t htB] at WB
          rw [← hIt] at WA ⊢
          rw [← hKt] at WB ⊢
          have WA := hide WA
          have WB := hide WB
          have HNE := hide (word_ne wA wB t HT.out)
          have HEQ := hide (word_eq wA wB t HT.out)
          by_cases nA : t < wA.length
          · obtain ⟨hIl, hIc⟩ := HWA.out t nA
            have hx0 := HNA.out t nA
            have hyB := HNB.out t
            generalize wtL wA t = xw at *
            have hyz : ¬ t < wB.length → wtL wB t = 0 := fun h => wtL_out _ _ (by omega)
            have HYZ := hide hyz
            have HYB := hide hyB
            clear hyz hyB
            generalize wtL wB t = yw at *
            have hIl2 : It < a.size := by rw [hIt]; exact hIl
            have hIc2 : isC (a[It].toNat : Int) 1 = false := by subst hIt; exact hIc
            have hI2 : Hid (It = i + t) := hIt
            have hK2 : Hid (Kt = k + t) := hKt
            clear hIl hIc hIt hKt
            have hIl' : (It : Int) < (a.size : Int) := by omega
            have hbI : (b.size : Int) ≤ 9223372036854775000 := by omega
            by_cases hxy : xw = yw
            · have nB : t < wB.length := by
                by_cases h : t < wB.length
                · exact h
                · have := HYZ.out h; omega
              have H1 : Hid _ := HEQ.out hxy
              subst hxy
              have hKl : (Kt : Int) < (b.size : Int) := by have := hK2.out; omega
              go_wp2_with fail
              refine (Rdigit_any _ _).mono ?_
              rintro e w' ⟨rfl, hw'⟩
              rw [hw']
              clear hw' w'
              go_wp2_with fail
              refine (WA.out _).mono ?_
              rintro e w' ⟨rfl, hw'⟩
              rw [hw']
              clear hw' w'
              go_wp2_with fail
              refine (WB.out _).mono ?_
              rintro e w' ⟨rfl, hw'⟩
              rw [hw']
              clear hw' w'
              go_wp2_with fail
              go_roundw
              case rel => exact ⟨t + 1, by omega, by omega, by have := hI2.out; first | rfl | go_num | (congr 1; omega), by have := hK2.out; first | rfl | go_num | (congr 1; omega), hB, H1⟩
              case measure => have := hI2.out; simp [intOf]; omega
            · have hxyb : (xw != yw) = true := by simpa using hxy
              have HS := hide (HNE.out hxy)
              by_cases hlt9 : xw < yw
              · have HS2 : Hid (PO = -1) := by
                  show _ = _
                  have h1 : cmpI xw yw = -1 := by unfold cmpI; (repeat' split) <;> omega
                  exact HPW.out _ (by decide) (by rw [HS.out, h1])
                clear HS HNE HEQ hxy
                go_wp2_with fail
                refine (Rdigit_any _ _).mono ?_
                rintro e w' ⟨rfl, hw'⟩
                rw [hw']
                clear hw' w'
                go_wp2_with fail
                refine (WA.out _).mono ?_
                rintro e w' ⟨rfl, hw'⟩
                rw [hw']
                clear hw' w'
                go_wp2_with fail
                refine (WB.out _).mono ?_
                rintro e w' ⟨rfl, hw'⟩
                rw [hw']
                clear hw' w'
                go_wp2_with fail
                go_ret
                exact ⟨ret_i (by rw [HR.out, HS2.out]), hB⟩
              · have HS2 : Hid (PO = 1) := by
                  show _ = _
                  have h1 : cmpI xw yw = 1 := by unfold cmpI; (repeat' split) <;> omega
                  exact HPW.out _ (by decide) (by rw [HS.out, h1])
                have hgt9 : yw < xw := by omega
                clear HS HNE HEQ hxy
                go_wp2_with fail
                refine (Rdigit_any _ _).mono ?_
                rintro e w' ⟨rfl, hw'⟩
                rw [hw']
                clear hw' w'
                go_wp2_with fail
                refine (WA.out _).mono ?_
                rintro e w' ⟨rfl, hw'⟩
                rw [hw']
                clear hw' w'
                go_wp2_with fail
                refine (WB.out _).mono ?_
                rintro e w' ⟨rfl, hw'⟩
                rw [hw']
                clear hw' w'
                go_wp2_with fail
                go_ret
                exact ⟨ret_i (by rw [HR.out, HS2.out]), hB⟩
          · obtain rfl : t = wA.length := by omega
            clear nA
            by_cases nB : wA.length < wB.length
            · obtain ⟨hJl, hJc⟩ := HWB.out _ nB
              have hx0 : wtL wA wA.length = 0 := wtL_out _ _ (Nat.le_refl _)
              have hy0 := HNB.out _ nB
              generalize wtL wA wA.length = xw at *
              generalize wtL wB wA.length = yw at *
              have hxy : xw ≠ yw := by omega
              have HS := hide (HNE.out hxy)
              have hxyb : (xw != yw) = true := by simpa using hxy
              have hJl2 : Kt < b.size := by rw [hKt]; exact hJl
              have hJc2 : isC (b[Kt].toNat : Int) 1 = false := by subst hKt; exact hJc
              have hJl' : (Kt : Int) < (b.size : Int) := by omega
              clear hJl hJc hKt
              rcases HOA.out with hoA | ⟨hoA, hcA⟩
              · have hIl' : ¬ (It : Int) < (a.size : Int) := by omega
                clear hIt hx0
                by_cases hlt9 : xw < yw
                · have HS2 : Hid (PO = -1) := by
                    show _ = _
                    have h1 : cmpI xw yw = -1 := by unfold cmpI; (repeat' split) <;> omega
                    exact HPW.out _ (by decide) (by rw [HS.out, h1])
                  clear HS HNE HEQ hxy
                  go_wp2_with fail
                  refine (Rdigit_any _ _).mono ?_
                  rintro e w' ⟨rfl, hw'⟩
                  rw [hw']
                  clear hw' w'
                  go_wp2_with fail
                  refine (WA.out _).mono ?_
                  rintro e w' ⟨rfl, hw'⟩
                  rw [hw']
                  clear hw' w'
                  go_wp2_with fail
                  refine (WB.out _).mono ?_
                  rintro e w' ⟨rfl, hw'⟩
                  rw [hw']
                  clear hw' w'
                  go_wp2_with fail
                  go_ret
                  exact ⟨ret_i (by rw [HR.out, HS2.out]), hB⟩
                · have HS2 : Hid (PO = 1) := by
                    show _ = _
                    have h1 : cmpI xw yw = 1 := by unfold cmpI; (repeat' split) <;> omega
                    exact HPW.out _ (by decide) (by rw [HS.out, h1])
                  have hgt9 : yw < xw := by omega
                  clear HS HNE HEQ hxy
                  go_wp2_with fail
                  refine (Rdigit_any _ _).mono ?_
                  rintro e w' ⟨rfl, hw'⟩
                  rw [hw']
                  clear hw' w'
                  go_wp2_with fail
                  refine (WA.out _).mono ?_
                  rintro e w' ⟨rfl, hw'⟩
                  rw [hw']
                  clear hw' w'
                  go_wp2_with fail
                  refine (WB.out _).mono ?_
                  rintro e w' ⟨rfl, hw'⟩
                  rw [hw']
                  clear hw' w'
                  go_wp2_with fail
                  go_ret
                  exact ⟨ret_i (by rw [HR.out, HS2.out]), hB⟩
              · have hIl2 : It < a.size := by omega
                have hIc2 : isC (a[It].toNat : Int) 1 = true := by subst hIt; exact hcA
                have hIl' : (It : Int) < (a.size : Int) := by omega
                clear hIt hcA hx0
                by_cases hlt9 : xw < yw
                · have HS2 : Hid (PO = -1) := by
                    show _ = _
                    have h1 : cmpI xw yw = -1 := by unfold cmpI; (repeat' split) <;> omega
                    exact HPW.out _ (by decide) (by rw [HS.out, h1])
                  clear HS HNE HEQ hxy
                  go_wp2_with fail
                  refine (Rdigit_any _ _).mono ?_
                  rintro e w' ⟨rfl, hw'⟩
                  rw [hw']
                  clear hw' w'
                  go_wp2_with fail
                  refine (Rdigit_any _ _).mono ?_
                  rintro e w' ⟨rfl, hw'⟩
                  rw [hw']
                  clear hw' w'
                  go_wp2_with fail
                  refine (WA.out _).mono ?_
                  rintro e w' ⟨rfl, hw'⟩
                  rw [hw']
                  clear hw' w'
                  go_wp2_with fail
                  refine (WB.out _).mono ?_
                  rintro e w' ⟨rfl, hw'⟩
                  rw [hw']
                  clear hw' w'
                  go_wp2_with fail
                  go_ret
                  exact ⟨ret_i (by rw [HR.out, HS2.out]), hB⟩
                · have HS2 : Hid (PO = 1) := by
                    show _ = _
                    have h1 : cmpI xw yw = 1 := by unfold cmpI; (repeat' split) <;> omega
                    exact HPW.out _ (by decide) (by rw [HS.out, h1])
                  have hgt9 : yw < xw := by omega
                  clear HS HNE HEQ hxy
                  go_wp2_with fail
                  refine (Rdigit_any _ _).mono ?_
                  rintro e w' ⟨rfl, hw'⟩
                  rw [hw']
                  clear hw' w'
                  go_wp2_with fail
                  refine (Rdigit_any _ _).mono ?_
                  rintro e w' ⟨rfl, hw'⟩
                  rw [hw']
                  clear hw' w'
                  go_wp2_with fail
                  refine (WA.out _).mono ?_
                  rintro e w' ⟨rfl, hw'⟩
                  rw [hw']
                  clear hw' w'
                  go_wp2_with fail
                  refine (WB.out _).mono ?_
                  rintro e w' ⟨rfl, hw'⟩
                  rw [hw']
                  clear hw' w'
                  go_wp2_with fail
                  go_ret
                  exact ⟨ret_i (by rw [HR.out, HS2.out]), hB⟩
            · have hAB : wA.length = wB.length := by omega
              have HZ : Hid (wordO wA wB = 0) := by show _ = _; rw [HT.out]; exact wordO_end _ _ _ (Nat.le_refl _) (by omega)
              clear nB HNE HEQ WA WB HT
              rw [hAB] at hKt
              rcases HOA.out with hoA | ⟨hoA, hcA⟩
              · have hIl' : ¬ (It : Int) < (a.size : Int) := by omega
                rcases HOB.out with hoB | ⟨hoB, hcB⟩
                · have hJl' : ¬ (Kt : Int) < (b.size : Int) := by omega
                  have hI2 : Hid (It = i + wA.length) := hIt
                  have hK2 : Hid (Kt = k + wB.length) := hKt
                  clear hIt hKt hAB hoA hoB htA htB
                  go_wp2_with fail
                  go_meet
                  exact ⟨It, Kt, rfl, rfl, hB, hI2, hK2, HZ⟩
                · have hJl2 : Kt < b.size := by omega
                  have hJc2 : isC (b[Kt].toNat : Int) 1 = true := by subst hKt; exact hcB
                  have hJl' : (Kt : Int) < (b.size : Int) := by omega
                  clear hcB
                  have hI2 : Hid (It = i + wA.length) := hIt
                  have hK2 : Hid (Kt = k + wB.length) := hKt
                  clear hIt hKt hAB hoA hoB htA htB
                  go_wp2_with fail
                  refine (Rdigit_any _ _).mono ?_
                  rintro e w' ⟨rfl, hw'⟩
                  rw [hw']
                  clear hw' w'
                  go_wp2_with fail
                  go_meet
                  exact ⟨It, Kt, rfl, rfl, hB, hI2, hK2, HZ⟩
              · have hIl2 : It < a.size := by omega
                have hIc2 : isC (a[It].toNat : Int) 1 = true := by subst hIt; exact hcA
                have hIl' : (It : Int) < (a.size : Int) := by omega
                clear hcA
                rcases HOB.out with hoB | ⟨hoB, hcB⟩
                · have hJl' : ¬ (Kt : Int) < (b.size : Int) := by omega
                  have hI2 : Hid (It = i + wA.length) := hIt
                  have hK2 : Hid (Kt = k + wB.length) := hKt
                  clear hIt hKt hAB hoA hoB htA htB
                  go_wp2_with fail
                  refine (Rdigit_any _ _).mono ?_
                  rintro e w' ⟨rfl, hw'⟩
                  rw [hw']
                  clear hw' w'
                  go_wp2_with fail
                  go_meet
                  exact ⟨It, Kt, rfl, rfl, hB, hI2, hK2, HZ⟩
                · have hJl2 : Kt < b.size := by omega
                  have hJc2 : isC (b[Kt].toNat : Int) 1 = true := by subst hKt; exact hcB
                  have hJl' : (Kt : Int) < (b.size : Int) := by omega
                  clear hcB
                  have hI2 : Hid (It = i + wA.length) := hIt
                  have hK2 : Hid (Kt = k + wB.length) := hKt
                  clear hIt hKt hAB hoA hoB htA htB
                  go_wp2_with fail
                  refine (Rdigit_any _ _).mono ?_
                  rintro e w' ⟨rfl, hw'⟩
                  rw [hw']
                  clear hw' w'
                  go_wp2_with fail
                  refine (Rdigit_any _ _).mono ?_
                  rintro e w' ⟨rfl, hw'⟩
                  rw [hw']
                  clear hw' w'
                  go_wp2_with fail
                  go_meet
                  exact ⟨It, Kt, rfl, rfl, hB, hI2, hK2, HZ⟩
      case rest =>
        clear hB
        obtain ⟨p, q, rfl, rfl, hB, hp, hq, HZ⟩ := hcut
        have HV := hide (HPD.out HZ.out)
        rw [← hp.out] at HRA HDA HMA
        rw [← hq.out] at HRB HDB HMB
        have hpa : p ≤ a.size := by have := hp.out; omega
        have hqb : q ≤ b.size := by have := hq.out; omega
        have hpi : i ≤ p := by have := hp.out; omega
        have hqk : k ≤ q := by have := hq.out; omega
        have lrA := HLA.out p hpa
        have lrB := HLB.out q hqb
        clear HPD HPW HNA HNB HTA HTB HWA HWB HLA HLB HOA HOB HZ HEN hlA hlB
        go_upto_block 4 with fail
        go_cut [5] from 12 to 99 (fun x wx => ∃ I c : Nat, x = .int .i64 I ∧ Below w.heap.size w wx ∧ I ≤ a.size ∧ p ≤ I ∧ Hid (I = p + c) ∧ Hid (runL 1 (a.data.toList.drop p) = c))
        case first =>
          go_wp2_with fail
          go_loopw [5] (fun x wr3 => ∃ c : Nat, p + c ≤ a.size ∧ x = .int .i64 ((p + c : Nat) : Int) ∧ Below w.heap.size w wr3 ∧ Hid (runL 1 (a.data.toList.drop p) = c + runL 1 (a.data.toList.drop (p + c)))) (fun x _ => a.size - (intOf x).toNat)
          case atStart => exact ⟨0, by omega, by first | rfl | (congr 1; omega), hB, by simp [Hid]⟩
          case round =>
            clear hB
            obtain ⟨c, hc, rfl, hB, HC⟩ := hrel
            obtain ⟨I, hI⟩ : ∃ I, I = p + c := ⟨_, rfl⟩
            rw [← hI] at hc HC ⊢
            by_cases hIl : I < a.size
            · have hIl' : (I : Int) < (a.size : Int) := by omega
              cases hIc : isC (a[I].toNat : Int) 1
              · have HXA : Hid (runL 1 (a.data.toList.drop p) = c) := by show _ = _; rw [HC.out, runL_miss 1 a I hIl hIc]; omega
                have hI2 : Hid (I = p + c) := hI
                have hpI : p ≤ I := by omega
                clear hI
                go_wp2_with fail
                refine (Rdigit_any _ _).mono ?_
                rintro e w' ⟨rfl, hw'⟩
                rw [hw']
                clear hw' w'
                go_wp2_with fail
                go_meet
                exact ⟨I, c, rfl, hB, by omega, hpI, hI2, HXA⟩
              · have H1 := hide (runL_hit 1 a I hIl hIc)
                have hI2 : Hid (I = p + c) := hI
                clear hI
                go_wp2_with fail
                refine (Rdigit_any _ _).mono ?_
                rintro e w' ⟨rfl, hw'⟩
                rw [hw']
                clear hw' w'
                go_wp2_with fail
                go_roundw
                case rel => exact ⟨c + 1, by have := hI2.out; omega, by have := hI2.out; first | rfl | go_num | (congr 1; omega), hB, by have a1 := HC.out; have b1 := H1.out; have := hI2.out; show _ = _; rw [show p + (c + 1) = I + 1 by omega]; omega⟩
                case measure => simp [intOf]; omega
            · have hIl' : ¬ (I : Int) < (a.size : Int) := by omega
              have HXA : Hid (runL 1 (a.data.toList.drop p) = c) := by show _ = _; rw [HC.out, runL_end 1 a I (by omega)]; omega
              have hI2 : Hid (I = p + c) := hI
              have hpI : p ≤ I := by omega
              clear hI
              go_wp2_with fail
              go_meet
              exact ⟨I, c, rfl, hB, by omega, hpI, hI2, HXA⟩
        case rest =>
          clear hB
          obtain ⟨I, c, rfl, hB, hIa, hpI, hI2, HXA⟩ := hcut
          go_upto_block 6 with fail
          go_cut [6] from 12 to 99 (fun x wx => ∃ J d : Nat, x = .int .i64 J ∧ Below w.heap.size w wx ∧ J ≤ b.size ∧ q ≤ J ∧ Hid (J = q + d) ∧ Hid (runL 1 (b.data.toList.drop q) = d))
          case first =>
            go_wp2_with fail
            go_loopw [6] (fun x wr4 => ∃ d : Nat, q + d ≤ b.size ∧ x = .int .i64 ((q + d : Nat) : Int) ∧ Below w.heap.size w wr4 ∧ Hid (runL 1 (b.data.toList.drop q) = d + runL 1 (b.data.toList.drop (q + d)))) (fun x _ => b.size - (intOf x).toNat)
            case atStart => exact ⟨0, by omega, by first | rfl | (congr 1; omega), hB, by simp [Hid]⟩
            case round =>
              clear hB
              obtain ⟨d, hd, rfl, hB, HD⟩ := hrel
              obtain ⟨J, hJ⟩ : ∃ J, J = q + d := ⟨_, rfl⟩
              rw [← hJ] at hd HD ⊢
              by_cases hJl : J < b.size
              · have hJl' : (J : Int) < (b.size : Int) := by omega
                cases hJc : isC (b[J].toNat : Int) 1
                · have HXB : Hid (runL 1 (b.data.toList.drop q) = d) := by show _ = _; rw [HD.out, runL_miss 1 b J hJl hJc]; omega
                  have hJ2 : Hid (J = q + d) := hJ
                  have hqJ : q ≤ J := by omega
                  clear hJ
                  go_wp2_with fail
                  refine (Rdigit_any _ _).mono ?_
                  rintro e w' ⟨rfl, hw'⟩
                  rw [hw']
                  clear hw' w'
                  go_wp2_with fail
                  go_meet
                  exact ⟨J, d, rfl, hB, by omega, hqJ, hJ2, HXB⟩
                · have H1 := hide (runL_hit 1 b J hJl hJc)
                  have hJ2 : Hid (J = q + d) := hJ
                  clear hJ
                  go_wp2_with fail
                  refine (Rdigit_any _ _).mono ?_
                  rintro e w' ⟨rfl, hw'⟩
                  rw [hw']
                  clear hw' w'
                  go_wp2_with fail
                  go_roundw
                  case rel => exact ⟨d + 1, by have := hJ2.out; omega, by have := hJ2.out; first | rfl | go_num | (congr 1; omega), hB, by have a1 := HD.out; have b1 := H1.out; have := hJ2.out; show _ = _; rw [show q + (d + 1) = J + 1 by omega]; omega⟩
                  case measure => simp [intOf]; omega
              · have hJl' : ¬ (J : Int) < (b.size : Int) := by omega
                have HXB : Hid (runL 1 (b.data.toList.drop q) = d) := by show _ = _; rw [HD.out, runL_end 1 b J (by omega)]; omega
                have hJ2 : Hid (J = q + d) := hJ
                have hqJ : q ≤ J := by omega
                clear hJ
                go_wp2_with fail
                go_meet
                exact ⟨J, d, rfl, hB, by omega, hqJ, hJ2, HXB⟩
          case rest =>
            clear hB
            obtain ⟨J, d, rfl, hB, hJb, hqJ, hJ2, HXB⟩ := hcut
            have xA : Hid (a.extract p I = ofL dA) := by show _ = _; rw [HDA.out, HXA.out, hI2.out, extract_seg, seg_run]
            have xB : Hid (b.extract q J = ofL dB) := by show _ = _; rw [HDB.out, HXB.out, hJ2.out, extract_seg, seg_run]
            have CM := fun w => RCmp_any (a.extract p I) (b.extract q J) w (by rw [ByteArray.size_extract]; omega) (by rw [ByteArray.size_extract]; omega)
            rw [show (a.extract p I).data.toList = dA by rw [xA.out, ofL_data], show (b.extract q J).data.toList = dB by rw [xB.out, ofL_data]] at CM
            have HV1 := HV.out
            rw [HRA.out, HRB.out, HXA.out, HXB.out, ← hI2.out, ← hJ2.out] at HV1
            have HMOV : Hid (i < I ∨ k < J) := by
              by_cases h1 : i < a.size
              · have := HMA.out h1; rw [HXA.out] at this; exact .inl (by have := hI2.out; have := hp.out; omega)
              · have := HMB.out (by omega); rw [HXB.out] at this; exact .inr (by have := hJ2.out; have := hq.out; omega)
            have CM := hide CM
            generalize cmpD dA dB = cc at *
            have g1 : (p : Int) ≤ (I : Int) := by omega
            have g2 : (I : Int) ≤ (a.size : Int) := by omega
            have g3 : (q : Int) ≤ (J : Int) := by omega
            have g4 : (J : Int) ≤ (b.size : Int) := by omega
            by_cases hcc : cc = 0
            · subst hcc
              rw [if_pos rfl] at HV1
              have HV2 := hide HV1
              clear HV1 HV
              go_wp2_with fail
              go_quiet (first | (go_at_call 45; exact Calls.quiet_of_same (CM.out _)) | fail)
              go_wp2_with fail
              go_roundw
              case rel => exact ⟨I, J, by omega, by omega, rfl, rfl, hB.trans (below_drewN _ _ _), by show _ = _; rw [HR.out, HV2.out]⟩
              case measure => have := HMOV.out; simp [intOf]; omega
            · rw [if_neg hcc] at HV1
              have HV2 := hide HV1
              have hcb : (cc != 0) = true := by simpa using hcc
              clear hcc HV1 HV
              go_wp2_with fail
              go_quiet (first | (go_at_call 45; exact Calls.quiet_of_same (CM.out _)) | fail)
              go_wp2_with fail
              go_ret
              exact ⟨ret_i (by rw [HR.out, HV2.out]), hB.trans (below_drewN _ _ _)⟩
    by_cases w2 : k < b.size
    · have w1' : ¬ (i : Int) < (a.size : Int) := by omega
      have w2' : (k : Int) < (b.size : Int) := by omega
      go_upto_block 2 with fail
      go_cut [5, 6, 7, 8] from 12 to 99 (fun x y _ _ wx => ∃ p q : Nat, x = .int .i64 p ∧ y = .int .i64 q ∧ Below w.heap.size w wx ∧ Hid (p = i + wA.length) ∧ Hid (q = k + wB.length) ∧ Hid (wordO wA wB = 0))
      case first =>
        go_wp2_with fail
        go_loopw [5, 6] (fun x y wr2 => ∃ t : Nat, t ≤ wA.length ∧ t ≤ wB.length ∧ x = .int .i64 ((i + t : Nat) : Int) ∧ y = .int .i64 ((k + t : Nat) : Int) ∧ Below w.heap.size w wr2 ∧ Hid (wordO wA wB = wordO (wA.drop t) (wB.drop t))) (fun x _ _ => a.size + 1 - (intOf x).toNat)
        case atStart => exact ⟨0, by omega, by omega, by first | rfl | (congr 1; omega), by first | rfl | (congr 1; omega), hB, by simp [Hid]⟩
        case round =>
          clear hB
          obtain ⟨t, htA, htB, rfl, rfl, hB, HT⟩ := hrel
          obtain ⟨It, hIt⟩ : ∃ It, It = i + t := ⟨_, rfl⟩
          obtain ⟨Kt, hKt⟩ : ∃ Kt, Kt = k + t := ⟨_, rfl⟩
          have WA := fun w => Rweight_any a (i + t) w ha
          have WB := fun w => Rweight_any b (k + t) w hb
          rw [HTA.out t htA] at WA
          rw [HTB.out t htB] at WB
          rw [← hIt] at WA ⊢
          rw [← hKt] at WB ⊢
          have WA := hide WA
          have WB := hide WB
          have HNE := hide (word_ne wA wB t HT.out)
          have HEQ := hide (word_eq wA wB t HT.out)
          by_cases nA : t < wA.length
          · have := (HWA.out t nA).1
            exfalso; omega
          · obtain rfl : t = wA.length := by omega
            clear nA
            by_cases nB : wA.length < wB.length
            · obtain ⟨hJl, hJc⟩ := HWB.out _ nB
              have hx0 : wtL wA wA.length = 0 := wtL_out _ _ (Nat.le_refl _)
              have hy0 := HNB.out _ nB
              generalize wtL wA wA.length = xw at *
              generalize wtL wB wA.length = yw at *
              have hxy : xw ≠ yw := by omega
              have HS := hide (HNE.out hxy)
              have hxyb : (xw != yw) = true := by simpa using hxy
              have hJl2 : Kt < b.size := by rw [hKt]; exact hJl
              have hJc2 : isC (b[Kt].toNat : Int) 1 = false := by subst hKt; exact hJc
              have hJl' : (Kt : Int) < (b.size : Int) := by omega
              clear hJl hJc hKt
              rcases HOA.out with hoA | ⟨hoA, hcA⟩
              · have hIl' : ¬ (It : Int) < (a.size : Int) := by omega
                clear hIt hx0
                by_cases hlt9 : xw < yw
                · have HS2 : Hid (PO = -1) := by
                    show _ = _
                    have h1 : cmpI xw yw = -1 := by unfold cmpI; (repeat' split) <;> omega
                    exact HPW.out _ (by decide) (by rw [HS.out, h1])
                  clear HS HNE HEQ hxy
                  go_wp2_with fail
                  refine (Rdigit_any _ _).mono ?_
                  rintro e w' ⟨rfl, hw'⟩
                  rw [hw']
                  clear hw' w'
                  go_wp2_with fail
                  refine (WA.out _).mono ?_
                  rintro e w' ⟨rfl, hw'⟩
                  rw [hw']
                  clear hw' w'
                  go_wp2_with fail
                  refine (WB.out _).mono ?_
                  rintro e w' ⟨rfl, hw'⟩
                  rw [hw']
                  clear hw' w'
                  go_wp2_with fail
                  go_ret
                  exact ⟨ret_i (by rw [HR.out, HS2.out]), hB⟩
                · have HS2 : Hid (PO = 1) := by
                    show _ = _
                    have h1 : cmpI xw yw = 1 := by unfold cmpI; (repeat' split) <;> omega
                    exact HPW.out _ (by decide) (by rw [HS.out, h1])
                  have hgt9 : yw < xw := by omega
                  clear HS HNE HEQ hxy
                  go_wp2_with fail
                  refine (Rdigit_any _ _).mono ?_
                  rintro e w' ⟨rfl, hw'⟩
                  rw [hw']
                  clear hw' w'
                  go_wp2_with fail
                  refine (WA.out _).mono ?_
                  rintro e w' ⟨rfl, hw'⟩
                  rw [hw']
                  clear hw' w'
                  go_wp2_with fail
                  refine (WB.out _).mono ?_
                  rintro e w' ⟨rfl, hw'⟩
                  rw [hw']
                  clear hw' w'
                  go_wp2_with fail
                  go_ret
                  exact ⟨ret_i (by rw [HR.out, HS2.out]), hB⟩
              · exfalso; omega
            · have hAB : wA.length = wB.length := by omega
              have HZ : Hid (wordO wA wB = 0) := by show _ = _; rw [HT.out]; exact wordO_end _ _ _ (Nat.le_refl _) (by omega)
              clear nB HNE HEQ WA WB HT
              rw [hAB] at hKt
              rcases HOA.out with hoA | ⟨hoA, hcA⟩
              · have hIl' : ¬ (It : Int) < (a.size : Int) := by omega
                rcases HOB.out with hoB | ⟨hoB, hcB⟩
                · have hJl' : ¬ (Kt : Int) < (b.size : Int) := by omega
                  have hI2 : Hid (It = i + wA.length) := hIt
                  have hK2 : Hid (Kt = k + wB.length) := hKt
                  clear hIt hKt hAB hoA hoB htA htB
                  go_wp2_with fail
                  go_meet
                  exact ⟨It, Kt, rfl, rfl, hB, hI2, hK2, HZ⟩
                · have hJl2 : Kt < b.size := by omega
                  have hJc2 : isC (b[Kt].toNat : Int) 1 = true := by subst hKt; exact hcB
                  have hJl' : (Kt : Int) < (b.size : Int) := by omega
                  clear hcB
                  have hI2 : Hid (It = i + wA.length) := hIt
                  have hK2 : Hid (Kt = k + wB.length) := hKt
                  clear hIt hKt hAB hoA hoB htA htB
                  go_wp2_with fail
                  refine (Rdigit_any _ _).mono ?_
                  rintro e w' ⟨rfl, hw'⟩
                  rw [hw']
                  clear hw' w'
                  go_wp2_with fail
                  go_meet
                  exact ⟨It, Kt, rfl, rfl, hB, hI2, hK2, HZ⟩
              · exfalso; omega
      case rest =>
        clear hB
        obtain ⟨p, q, rfl, rfl, hB, hp, hq, HZ⟩ := hcut
        have HV := hide (HPD.out HZ.out)
        rw [← hp.out] at HRA HDA HMA
        rw [← hq.out] at HRB HDB HMB
        have hpa : p ≤ a.size := by have := hp.out; omega
        have hqb : q ≤ b.size := by have := hq.out; omega
        have hpi : i ≤ p := by have := hp.out; omega
        have hqk : k ≤ q := by have := hq.out; omega
        have lrA := HLA.out p hpa
        have lrB := HLB.out q hqb
        clear HPD HPW HNA HNB HTA HTB HWA HWB HLA HLB HOA HOB HZ HEN hlA hlB
        go_upto_block 4 with fail
        go_cut [5] from 12 to 99 (fun x wx => ∃ I c : Nat, x = .int .i64 I ∧ Below w.heap.size w wx ∧ I ≤ a.size ∧ p ≤ I ∧ Hid (I = p + c) ∧ Hid (runL 1 (a.data.toList.drop p) = c))
        case first =>
          go_wp2_with fail
          go_loopw [5] (fun x wr3 => ∃ c : Nat, p + c ≤ a.size ∧ x = .int .i64 ((p + c : Nat) : Int) ∧ Below w.heap.size w wr3 ∧ Hid (runL 1 (a.data.toList.drop p) = c + runL 1 (a.data.toList.drop (p + c)))) (fun x _ => a.size - (intOf x).toNat)
          case atStart => exact ⟨0, by omega, by first | rfl | (congr 1; omega), hB, by simp [Hid]⟩
          case round =>
            clear hB
            obtain ⟨c, hc, rfl, hB, HC⟩ := hrel
            obtain ⟨I, hI⟩ : ∃ I, I = p + c := ⟨_, rfl⟩
            rw [← hI] at hc HC ⊢
            by_cases hIl : I < a.size
            · have hIl' : (I : Int) < (a.size : Int) := by omega
              cases hIc : isC (a[I].toNat : Int) 1
              · have HXA : Hid (runL 1 (a.data.toList.drop p) = c) := by show _ = _; rw [HC.out, runL_miss 1 a I hIl hIc]; omega
                have hI2 : Hid (I = p + c) := hI
                have hpI : p ≤ I := by omega
                clear hI
                go_wp2_with fail
                refine (Rdigit_any _ _).mono ?_
                rintro e w' ⟨rfl, hw'⟩
                rw [hw']
                clear hw' w'
                go_wp2_with fail
                go_meet
                exact ⟨I, c, rfl, hB, by omega, hpI, hI2, HXA⟩
              · have H1 := hide (runL_hit 1 a I hIl hIc)
                have hI2 : Hid (I = p + c) := hI
                clear hI
                go_wp2_with fail
                refine (Rdigit_any _ _).mono ?_
                rintro e w' ⟨rfl, hw'⟩
                rw [hw']
                clear hw' w'
                go_wp2_with fail
                go_roundw
                case rel => exact ⟨c + 1, by have := hI2.out; omega, by have := hI2.out; first | rfl | go_num | (congr 1; omega), hB, by have a1 := HC.out; have b1 := H1.out; have := hI2.out; show _ = _; rw [show p + (c + 1) = I + 1 by omega]; omega⟩
                case measure => simp [intOf]; omega
            · have hIl' : ¬ (I : Int) < (a.size : Int) := by omega
              have HXA : Hid (runL 1 (a.data.toList.drop p) = c) := by show _ = _; rw [HC.out, runL_end 1 a I (by omega)]; omega
              have hI2 : Hid (I = p + c) := hI
              have hpI : p ≤ I := by omega
              clear hI
              go_wp2_with fail
              go_meet
              exact ⟨I, c, rfl, hB, by omega, hpI, hI2, HXA⟩
        case rest =>
          clear hB
          obtain ⟨I, c, rfl, hB, hIa, hpI, hI2, HXA⟩ := hcut
          go_upto_block 6 with fail
          go_cut [6] from 12 to 99 (fun x wx => ∃ J d : Nat, x = .int .i64 J ∧ Below w.heap.size w wx ∧ J ≤ b.size ∧ q ≤ J ∧ Hid (J = q + d) ∧ Hid (runL 1 (b.data.toList.drop q) = d))
          case first =>
            go_wp2_with fail
            go_loopw [6] (fun x wr4 => ∃ d : Nat, q + d ≤ b.size ∧ x = .int .i64 ((q + d : Nat) : Int) ∧ Below w.heap.size w wr4 ∧ Hid (runL 1 (b.data.toList.drop q) = d + runL 1 (b.data.toList.drop (q + d)))) (fun x _ => b.size - (intOf x).toNat)
            case atStart => exact ⟨0, by omega, by first | rfl | (congr 1; omega), hB, by simp [Hid]⟩
            case round =>
              clear hB
              obtain ⟨d, hd, rfl, hB, HD⟩ := hrel
              obtain ⟨J, hJ⟩ : ∃ J, J = q + d := ⟨_, rfl⟩
              rw [← hJ] at hd HD ⊢
              by_cases hJl : J < b.size
              · have hJl' : (J : Int) < (b.size : Int) := by omega
                cases hJc : isC (b[J].toNat : Int) 1
                · have HXB : Hid (runL 1 (b.data.toList.drop q) = d) := by show _ = _; rw [HD.out, runL_miss 1 b J hJl hJc]; omega
                  have hJ2 : Hid (J = q + d) := hJ
                  have hqJ : q ≤ J := by omega
                  clear hJ
                  go_wp2_with fail
                  refine (Rdigit_any _ _).mono ?_
                  rintro e w' ⟨rfl, hw'⟩
                  rw [hw']
                  clear hw' w'
                  go_wp2_with fail
                  go_meet
                  exact ⟨J, d, rfl, hB, by omega, hqJ, hJ2, HXB⟩
                · have H1 := hide (runL_hit 1 b J hJl hJc)
                  have hJ2 : Hid (J = q + d) := hJ
                  clear hJ
                  go_wp2_with fail
                  refine (Rdigit_any _ _).mono ?_
                  rintro e w' ⟨rfl, hw'⟩
                  rw [hw']
                  clear hw' w'
                  go_wp2_with fail
                  go_roundw
                  case rel => exact ⟨d + 1, by have := hJ2.out; omega, by have := hJ2.out; first | rfl | go_num | (congr 1; omega), hB, by have a1 := HD.out; have b1 := H1.out; have := hJ2.out; show _ = _; rw [show q + (d + 1) = J + 1 by omega]; omega⟩
                  case measure => simp [intOf]; omega
              · have hJl' : ¬ (J : Int) < (b.size : Int) := by omega
                have HXB : Hid (runL 1 (b.data.toList.drop q) = d) := by show _ = _; rw [HD.out, runL_end 1 b J (by omega)]; omega
                have hJ2 : Hid (J = q + d) := hJ
                have hqJ : q ≤ J := by omega
                clear hJ
                go_wp2_with fail
                go_meet
                exact ⟨J, d, rfl, hB, by omega, hqJ, hJ2, HXB⟩
          case rest =>
            clear hB
            obtain ⟨J, d, rfl, hB, hJb, hqJ, hJ2, HXB⟩ := hcut
            have xA : Hid (a.extract p I = ofL dA) := by show _ = _; rw [HDA.out, HXA.out, hI2.out, extract_seg, seg_run]
            have xB : Hid (b.extract q J = ofL dB) := by show _ = _; rw [HDB.out, HXB.out, hJ2.out, extract_seg, seg_run]
            have CM := fun w => RCmp_any (a.extract p I) (b.extract q J) w (by rw [ByteArray.size_extract]; omega) (by rw [ByteArray.size_extract]; omega)
            rw [show (a.extract p I).data.toList = dA by rw [xA.out, ofL_data], show (b.extract q J).data.toList = dB by rw [xB.out, ofL_data]] at CM
            have HV1 := HV.out
            rw [HRA.out, HRB.out, HXA.out, HXB.out, ← hI2.out, ← hJ2.out] at HV1
            have HMOV : Hid (i < I ∨ k < J) := by
              by_cases h1 : i < a.size
              · have := HMA.out h1; rw [HXA.out] at this; exact .inl (by have := hI2.out; have := hp.out; omega)
              · have := HMB.out (by omega); rw [HXB.out] at this; exact .inr (by have := hJ2.out; have := hq.out; omega)
            have CM := hide CM
            generalize cmpD dA dB = cc at *
            have g1 : (p : Int) ≤ (I : Int) := by omega
            have g2 : (I : Int) ≤ (a.size : Int) := by omega
            have g3 : (q : Int) ≤ (J : Int) := by omega
            have g4 : (J : Int) ≤ (b.size : Int) := by omega
            by_cases hcc : cc = 0
            · subst hcc
              rw [if_pos rfl] at HV1
              have HV2 := hide HV1
              clear HV1 HV
              go_wp2_with fail
              go_quiet (first | (go_at_call 45; exact Calls.quiet_of_same (CM.out _)) | fail)
              go_wp2_with fail
              go_roundw
              case rel => exact ⟨I, J, by omega, by omega, rfl, rfl, hB.trans (below_drewN _ _ _), by show _ = _; rw [HR.out, HV2.out]⟩
              case measure => have := HMOV.out; simp [intOf]; omega
            · rw [if_neg hcc] at HV1
              have HV2 := hide HV1
              have hcb : (cc != 0) = true := by simpa using hcc
              clear hcc HV1 HV
              go_wp2_with fail
              go_quiet (first | (go_at_call 45; exact Calls.quiet_of_same (CM.out _)) | fail)
              go_wp2_with fail
              go_ret
              exact ⟨ret_i (by rw [HR.out, HV2.out]), hB.trans (below_drewN _ _ _)⟩
    have w1' : ¬ (i : Int) < (a.size : Int) := by omega
    have w2' : ¬ (k : Int) < (b.size : Int) := by omega
    have HV := hide (HEN.out (by omega) (by omega))
    go_wp2_with fail
    go_ret
    exact ⟨ret_i (by rw [HR.out, HV.out]), hB⟩
end Go.Proofs.Ythojcidbhojlhaa
