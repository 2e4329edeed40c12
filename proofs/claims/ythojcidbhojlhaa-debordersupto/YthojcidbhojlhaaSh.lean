/-
  Walks: two ranges merged, the left one the longer.
-/
import Derived.Test.YthojcidbhojlhaaSg
namespace Go.Proofs.Ythojcidbhojlhaa
open Go.RowKit Go.Shelf
set_option linter.unusedVariables false

set_option maxRecDepth 100000 in
set_option maxHeartbeats 8000000 in
theorem symG_any {α : Type} (E : Cel α) (f : α → α → Int) (hf : Cmp3 f) (cb : Value) (w0 : World) (B : Nat) (HC : CmpG E f cb w0 B) (P L R S : List α) (hL : Srt f L) (hR : Srt f R) (N a m b mid : Nat) (hN : (P ++ (L ++ (R ++ S))).length = N) (ha : P.length = a) (hm : a + L.length = m) (hb : m + R.length = b) (hL1 : 2 ≤ L.length) (hR1 : 2 ≤ R.length) (hmid : mid = (a + b) / 2) (hbig : mid < m) (IH : SymIH E f cb w0 B N (L.length + R.length)) (w : World) (hd : DW E w0 B (P ++ (L ++ (R ++ S))) w) (hl : N ≤ 1152921504606846976) :
    Calls Try.prog 74 #[.slice (some ⟨B, 0, none⟩) N N, .int .i64 (a : Int), .int .i64 (m : Int), .int .i64 (b : Int), .func (.func 64) #[] #[cb]] w fun e w' => e = .returned (.tuple #[]) ∧ DW E w0 B (P ++ (mrg f L R ++ S)) w' := by
  have hNs : b + S.length = N := by rw [← hN]; simp; omega
  have HC := hide HC
  have IH := hide IH
  have HZL : Hid (∀ i, a ≤ i → i < m → (P ++ (L ++ (R ++ S)))[i]? = L[i - a]?) := by
    intro i h1 h2
    have := zg_l P L R S (i - a) (by omega)
    rwa [ha, show a + (i - a) = i by omega] at this
  have HZR : Hid (∀ i, m ≤ i → i < b → (P ++ (L ++ (R ++ S)))[i]? = R[i - m]?) := by
    intro i h1 h2
    have := zg_r P L R S (i - m) (by omega)
    rwa [ha, hm, show m + (i - m) = i by omega] at this
  have eM : ((m : Int) - (a : Int) == 1) = false := by simp; omega
  have eB : ((b : Int) - (m : Int) == 1) = false := by simp; omega
  have eMid : ((a : Int) + (b : Int)) / 2 = (mid : Int) := by omega
  have hma : a < mid := by omega
  have hmb : mid < b := by omega
  obtain ⟨n, hn⟩ : ∃ n, n = mid + m := ⟨_, rfl⟩
  have en : (mid : Int) + (m : Int) = (n : Int) := by omega
  have n1 : n ≤ mid + m := by omega
  have n2 : mid + m ≤ n := by omega
  obtain ⟨p, hp⟩ : ∃ p, p = n - 1 := ⟨_, rfl⟩
  have ep : (n : Int) - 1 = (p : Int) := by omega
  have p1 : p + 1 ≤ n := by omega
  have p2 : n ≤ p + 1 := by omega
  clear hn hp
  obtain ⟨lo, hlo⟩ : ∃ lo, lo = n - b := ⟨_, rfl⟩
  have elo : (n : Int) - (b : Int) = (lo : Int) := by omega
  obtain ⟨hi, hhi⟩ : ∃ hi, hi = mid := ⟨_, rfl⟩
  have hbig' : (mid : Int) < (m : Int) := by omega
  have o1 : lo + b ≤ n := by omega
  have o2 : n ≤ lo + b := by omega
  have o3 : mid ≤ hi := by omega
  have h4 : hi ≤ mid := by omega
  clear hlo hhi
  have h1 : a ≤ lo := by omega
  have h2 : hi ≤ m := by omega
  have h3 : lo ≤ hi := by omega
  have h5 : n ≤ lo + b := by omega
  have h6 : m ≤ n - hi := by omega
  have HPa : Hid (∀ s, lo ≤ s → s ≤ hi → ((s = lo ∨ ∃ l y, (P ++ (L ++ (R ++ S)))[s - 1]? = some l ∧ (P ++ (L ++ (R ++ S)))[p - (s - 1)]? = some y ∧ 0 ≤ f y l)) → (s = hi ∨ ∃ l y, (P ++ (L ++ (R ++ S)))[s]? = some l ∧ (P ++ (L ++ (R ++ S)))[p - s]? = some y ∧ f y l < 0) →
      mrg f L R = mrg f (L.take (s - a)) (R.take (mid - s)) ++ mrg f (L.drop (s - a)) (R.drop (mid - s))) := by
    intro s k1 k2 k3 k4
    refine sym_parts hf hL hR (s - a) (mid - s) ?_ ?_
    · rcases k3 with k | ⟨l, y, q1, q2, q3⟩
      · exact .inr (.inl (by omega))
      · by_cases e1 : s = lo
        · exact .inr (.inl (by omega))
        · refine .inr (.inr ⟨l, y, ?_, ?_, by omega⟩)
          · rw [← q1, HZL.out (s - 1) (by omega) (by omega)]; congr 1; omega
          · rw [← q2, HZR.out (p - (s - 1)) (by omega) (by omega)]; congr 1; omega
    · rcases k4 with k | ⟨l, y, q1, q2, q3⟩
      · exact .inr (.inl (by omega))
      · by_cases e1 : s = hi
        · exact .inr (.inl (by omega))
        · refine .inr (.inr ⟨l, y, ?_, ?_, q3⟩)
          · rw [← q1, HZL.out s (by omega) (by omega)]
          · rw [← q2, HZR.out (p - s) (by omega) (by omega)]; congr 1; omega
  have HG : Hid (∀ i, a ≤ i → i < b → ∃ x, (P ++ (L ++ (R ++ S)))[i]? = some x) := fun i k1 k2 => some_at _ i (by rw [hN]; omega)
  have HSL := hide hL
  have HSR := hide hR
  generalize hZ : P ++ (L ++ (R ++ S)) = Z at *
  have HZ := hide hZ
  clear hZ hL hR HZL HZR
  have hmid' := hide hmid
  clear hmid
  go_enter Try.func74, Try.ntmps74
  go_wp2_with fail
  go_loopw [20, 21] (fun u v wr => ∃ (s r : Nat), u = .int .i64 s ∧ v = .int .i64 r ∧ lo ≤ s ∧ s ≤ r ∧ r ≤ hi ∧ DW E w0 B Z wr ∧ Hid (s = lo ∨ ∃ l y, Z[s - 1]? = some l ∧ Z[p - (s - 1)]? = some y ∧ 0 ≤ f y l) ∧ Hid (r = hi ∨ ∃ l y, Z[r]? = some l ∧ Z[p - r]? = some y ∧ f y l < 0)) (fun u v _ => (intOf v).toNat - (intOf u).toNat)
  case atStart => exact ⟨lo, hi, by first | rfl | (congr 1; omega), by first | rfl | (congr 1; omega), Nat.le_refl _, h3, Nat.le_refl _, hd, .inl rfl, .inl rfl⟩
  case round =>
    clear hd
    obtain ⟨s, r, rfl, rfl, hls, hsr, hrh, hD, HS, HRr⟩ := hrel
    by_cases hlt : s < r
    · have hlt' : (s : Int) < (r : Int) := by omega
      obtain ⟨c, hc0⟩ : ∃ c : Nat, c = (s + r) / 2 := ⟨_, rfl⟩
      have eC : ((s : Int) + (r : Int)) / 2 = (c : Int) := by omega
      have hsc : s ≤ c := by omega
      have hcr : c < r := by omega
      clear hc0
      obtain ⟨K1, hK1⟩ : ∃ K1, K1 = p - c := ⟨_, rfl⟩
      have eK : (p : Int) - (c : Int) = (K1 : Int) := by omega
      have lK : (K1 : Int) < (N : Int) := by omega
      have lC : (c : Int) < (N : Int) := by omega
      have wK : IntKind.i64.wrap (K1 : Int) = (K1 : Int) := by rw [IntKind.wrap_i64]; omega
      obtain ⟨x, hx⟩ := HG.out c (by omega) (by omega)
      obtain ⟨y, hy⟩ := HG.out K1 (by omega) (by omega)
      have HX := hide hy
      have HY := hide hx
      have HKy : Hid (Z[p - c]? = some y) := by show _ = _; rw [← hK1]; exact hy
      clear hx hy hK1
      have CM := hide (fun W hW => HC.out W hW y x)
      obtain ⟨p0, p1, p2, p3, p4⟩ := hD.seen K1 y HX.out
      obtain ⟨q0, q1, q2, q3, q4⟩ := hD.seen c x HY.out
      have D0 := hD.drew
      by_cases hc : f y x < 0
      · have hcd : decide (f y x < 0) = true := by simpa using hc
        go_wp2_with fail
        go_region_held3 (fun w' => w'.cell? ⟨B, K1 * 5, none⟩ = some (.string (E.c0 y)) ∧ w'.cell? ⟨B, K1 * 5 + 1, none⟩ = some (.string (E.c1 y)) ∧ w'.cell? ⟨B, K1 * 5 + 2, none⟩ = some (.string (E.c2 y)) ∧ w'.cell? ⟨B, K1 * 5 + 3, none⟩ = some (.string (E.c3 y)) ∧ w'.cell? ⟨B, K1 * 5 + 4, none⟩ = some (.bool (E.c4 y)) ∧ w'.cell? ⟨B, c * 5, none⟩ = some (.string (E.c0 x)) ∧ w'.cell? ⟨B, c * 5 + 1, none⟩ = some (.string (E.c1 x)) ∧ w'.cell? ⟨B, c * 5 + 2, none⟩ = some (.string (E.c2 x)) ∧ w'.cell? ⟨B, c * 5 + 3, none⟩ = some (.string (E.c3 x)) ∧ w'.cell? ⟨B, c * 5 + 4, none⟩ = some (.bool (E.c4 x)))
          (go_keep)
          ((first
            | (go_at_call 64; refine (CM.out _ D0.turn).mono ?_; rintro e w1 ⟨rfl, b1⟩; have Q1 := D0.next b1; obtain ⟨g0, g1, g2, g3, g4⟩ := Q1.seen K1 y HX.out; obtain ⟨h0, h1, h2, h3, h4⟩ := Q1.seen c x HY.out)
            | fail))
        clear p0 p1 p2 p3 p4 q0 q1 q2 q3 q4 g0 g1 g2 g3 g4 h0 h1 h2 h3 h4
        go_wp2_with fail
        go_roundw
        case rel => exact ⟨s, c, rfl, rfl, hls, hsc, by omega, Q1, HS, .inr ⟨x, y, HY.out, HKy.out, hc⟩⟩
        case measure => simp [intOf]; omega
      · have hcd : decide (f y x < 0) = false := by simpa using hc
        go_wp2_with fail
        go_region_held3 (fun w' => w'.cell? ⟨B, K1 * 5, none⟩ = some (.string (E.c0 y)) ∧ w'.cell? ⟨B, K1 * 5 + 1, none⟩ = some (.string (E.c1 y)) ∧ w'.cell? ⟨B, K1 * 5 + 2, none⟩ = some (.string (E.c2 y)) ∧ w'.cell? ⟨B, K1 * 5 + 3, none⟩ = some (.string (E.c3 y)) ∧ w'.cell? ⟨B, K1 * 5 + 4, none⟩ = some (.bool (E.c4 y)) ∧ w'.cell? ⟨B, c * 5, none⟩ = some (.string (E.c0 x)) ∧ w'.cell? ⟨B, c * 5 + 1, none⟩ = some (.string (E.c1 x)) ∧ w'.cell? ⟨B, c * 5 + 2, none⟩ = some (.string (E.c2 x)) ∧ w'.cell? ⟨B, c * 5 + 3, none⟩ = some (.string (E.c3 x)) ∧ w'.cell? ⟨B, c * 5 + 4, none⟩ = some (.bool (E.c4 x)))
          (go_keep)
          ((first
            | (go_at_call 64; refine (CM.out _ D0.turn).mono ?_; rintro e w1 ⟨rfl, b1⟩; have Q1 := D0.next b1; obtain ⟨g0, g1, g2, g3, g4⟩ := Q1.seen K1 y HX.out; obtain ⟨h0, h1, h2, h3, h4⟩ := Q1.seen c x HY.out)
            | fail))
        clear p0 p1 p2 p3 p4 q0 q1 q2 q3 q4 g0 g1 g2 g3 g4 h0 h1 h2 h3 h4
        go_wp2_with fail
        go_roundw
        case rel => exact ⟨c + 1, r, by go_num, rfl, by omega, by omega, hrh, Q1, .inr ⟨x, y, by rw [Nat.add_sub_cancel]; exact HY.out, by rw [Nat.add_sub_cancel]; exact HKy.out, by omega⟩, HRr⟩
        case measure => simp [intOf]; omega
    · have hlt' : ¬ (s : Int) < (r : Int) := by omega
      obtain rfl : s = r := by omega
      have HM := hide (HPa.out s hls hrh HS.out HRr.out)
      have a1 : (L.take (s - a)).length = s - a := by rw [List.length_take]; omega
      have a2 : (L.drop (s - a)).length = m - s := by rw [List.length_drop]; omega
      have a3 : (R.take (mid - s)).length = mid - s := by rw [List.length_take]; omega
      have a4 : (R.drop (mid - s)).length = b - (n - s) := by rw [List.length_drop]; omega
      have HE : Hid (Z = (P ++ L.take (s - a)) ++ (L.drop (s - a) ++ (R.take (mid - s) ++ (R.drop (mid - s) ++ S)))) := by
        show _ = _
        rw [← HZ.out, List.append_assoc, ← List.append_assoc (L.take (s - a)), List.take_append_drop, ← List.append_assoc (R.take (mid - s)), List.take_append_drop]
      have s1 : Hid (Srt f (L.take (s - a))) := List.Pairwise.sublist (List.take_sublist _ _) HSL.out
      have s2 : Hid (Srt f (L.drop (s - a))) := List.Pairwise.sublist (List.drop_sublist _ _) HSL.out
      have s3 : Hid (Srt f (R.take (mid - s))) := List.Pairwise.sublist (List.take_sublist _ _) HSR.out
      have s4 : Hid (Srt f (R.drop (mid - s))) := List.Pairwise.sublist (List.drop_sublist _ _) HSR.out
      generalize L.take (s - a) = L1 at *
      generalize L.drop (s - a) = L2 at *
      generalize R.take (mid - s) = R1 at *
      generalize R.drop (mid - s) = R2 at *
      obtain ⟨en2, hen⟩ : ∃ en2, en2 = n - s := ⟨_, rfl⟩
      have een : (n : Int) - (s : Int) = (en2 : Int) := by omega
      have en3 : en2 + s ≤ n := by omega
      have en4 : n ≤ en2 + s := by omega
      have hD : DW E w0 B ((P ++ L1) ++ (L2 ++ (R1 ++ (R2 ++ S)))) wr := by rw [← HE.out]; exact hD
      have HN2 : Hid (((P ++ L1) ++ (L2 ++ (R1 ++ (R2 ++ S)))).length = N) := by show _ = _; rw [← HE.out]; exact hN
      have HN3 : Hid ((P ++ (L1 ++ (R1 ++ (L2 ++ (R2 ++ S))))).length = N) := by show _ = _; rw [← HN2.out]; simp only [List.length_append]; omega
      have HN4 : Hid (((P ++ mrg f L1 R1) ++ (L2 ++ (R2 ++ S))).length = N) := by show _ = _; rw [← HN2.out]; simp only [List.length_append, mrg_length]; omega
      have ROT := fun h1 h2 => rotate_any E w0 B (P ++ L1) L2 R1 (R2 ++ S) N s m en2 HN2.out (by rw [List.length_append]; omega) (by omega) (by omega) h1 h2 (.func (.func 64) #[] #[cb])
      have REB := fun h1 h2 => IH.out P L1 R1 (L2 ++ (R2 ++ S)) a s mid ha (by omega) (by omega) HN3.out s1.out s3.out h1 h2 (by omega)
      have REC := fun h1 h2 => IH.out (P ++ mrg f L1 R1) L2 R2 S mid en2 b (by rw [List.length_append, mrg_length]; omega) (by omega) (by omega) HN4.out s2.out s4.out h1 h2 (by omega)
      have ROT := hide ROT
      have REB := hide REB
      have REC := hide REC
      have HF : Hid (P ++ (mrg f L R ++ S) = (P ++ mrg f L1 R1) ++ (mrg f L2 R2 ++ S)) := by show _ = _; rw [HM.out]; simp
      clear HE HN2 HN3 HN4 HM HS HRr HPa HG HZ HSL HSR s1 s2 s3 s4 IH HC hen
      by_cases z1 : 0 < L1.length
      · by_cases z2 : 0 < L2.length
        · by_cases z3 : 0 < R1.length
          · by_cases z4 : 0 < R2.length
            · have f1 : (s : Int) < (m : Int) := by omega
              have f2 : (m : Int) < (en2 : Int) := by omega
              have f3 : (a : Int) < (s : Int) := by omega
              have f4 : (s : Int) < (mid : Int) := by omega
              have f5 : (mid : Int) < (en2 : Int) := by omega
              have f6 : (en2 : Int) < (b : Int) := by omega
              first
              | (exfalso; omega)
              | (skip
                 go_wp2_with fail
                 refine (ROT.out (by omega) (by omega) _ hD (by omega)).mono ?_
                 rintro e w1 ⟨rfl, d1⟩
                 have d1 : DW E w0 B (P ++ (L1 ++ (R1 ++ (L2 ++ (R2 ++ S))))) w1 := by simpa using d1
                 go_wp2_with fail
                 refine (REB.out (by omega) (by omega) _ d1).mono ?_
                 rintro e w2 ⟨rfl, d2⟩
                 have d2 : DW E w0 B ((P ++ mrg f L1 R1) ++ (L2 ++ (R2 ++ S))) w2 := by simpa using d2
                 go_wp2_with fail
                 refine (REC.out (by omega) (by omega) _ d2).mono ?_
                 rintro e w3 ⟨rfl, d3⟩
                 go_wp2_with fail
                 go_end0
                 exact ⟨rfl, by rw [HF.out]; exact d3⟩)
            · have f1 : (s : Int) < (m : Int) := by omega
              have f2 : (m : Int) < (en2 : Int) := by omega
              have f3 : (a : Int) < (s : Int) := by omega
              have f4 : (s : Int) < (mid : Int) := by omega
              have f5 : (mid : Int) < (en2 : Int) := by omega
              have f6 : ¬ (en2 : Int) < (b : Int) := by omega
              obtain rfl : R2 = [] := List.length_eq_zero_iff.1 (by omega)
              first
              | (exfalso; omega)
              | (skip
                 go_wp2_with fail
                 refine (ROT.out (by omega) (by omega) _ hD (by omega)).mono ?_
                 rintro e w1 ⟨rfl, d1⟩
                 have d1 : DW E w0 B (P ++ (L1 ++ (R1 ++ (L2 ++ ([] ++ S))))) w1 := by simpa using d1
                 go_wp2_with fail
                 refine (REB.out (by omega) (by omega) _ d1).mono ?_
                 rintro e w2 ⟨rfl, d2⟩
                 have d2 : DW E w0 B ((P ++ mrg f L1 R1) ++ (L2 ++ ([] ++ S))) w2 := by simpa using d2
                 go_wp2_with fail
                 go_end0
                 exact ⟨rfl, by rw [HF.out]; simpa [mrg_nil_l, mrg_nil_r] using d2⟩)
          · by_cases z4 : 0 < R2.length
            · have f1 : (s : Int) < (m : Int) := by omega
              have f2 : ¬ (m : Int) < (en2 : Int) := by omega
              have f3 : (a : Int) < (s : Int) := by omega
              have f4 : ¬ (s : Int) < (mid : Int) := by omega
              have f5 : (mid : Int) < (en2 : Int) := by omega
              have f6 : (en2 : Int) < (b : Int) := by omega
              obtain rfl : R1 = [] := List.length_eq_zero_iff.1 (by omega)
              first
              | (exfalso; omega)
              | (skip
                 go_wp2_with fail
                 have d1 : DW E w0 B (P ++ (L1 ++ ([] ++ (L2 ++ (R2 ++ S))))) wr := by simpa using hD
                 have d2 : DW E w0 B ((P ++ mrg f L1 []) ++ (L2 ++ (R2 ++ S))) wr := by simpa [mrg_nil_l, mrg_nil_r] using d1
                 refine (REC.out (by omega) (by omega) _ d2).mono ?_
                 rintro e w3 ⟨rfl, d3⟩
                 go_wp2_with fail
                 go_end0
                 exact ⟨rfl, by rw [HF.out]; exact d3⟩)
            · exfalso; omega
        · by_cases z3 : 0 < R1.length
          · by_cases z4 : 0 < R2.length
            · have f1 : ¬ (s : Int) < (m : Int) := by omega
              have f2 : (m : Int) < (en2 : Int) := by omega
              have f3 : (a : Int) < (s : Int) := by omega
              have f4 : (s : Int) < (mid : Int) := by omega
              have f5 : ¬ (mid : Int) < (en2 : Int) := by omega
              have f6 : (en2 : Int) < (b : Int) := by omega
              obtain rfl : L2 = [] := List.length_eq_zero_iff.1 (by omega)
              first
              | (exfalso; omega)
              | (skip
                 go_wp2_with fail
                 have d1 : DW E w0 B (P ++ (L1 ++ (R1 ++ ([] ++ (R2 ++ S))))) wr := by simpa using hD
                 refine (REB.out (by omega) (by omega) _ d1).mono ?_
                 rintro e w2 ⟨rfl, d2⟩
                 have d2 : DW E w0 B ((P ++ mrg f L1 R1) ++ ([] ++ (R2 ++ S))) w2 := by simpa using d2
                 go_wp2_with fail
                 go_end0
                 exact ⟨rfl, by rw [HF.out]; simpa [mrg_nil_l, mrg_nil_r] using d2⟩)
            · have f1 : ¬ (s : Int) < (m : Int) := by omega
              have f2 : (m : Int) < (en2 : Int) := by omega
              have f3 : (a : Int) < (s : Int) := by omega
              have f4 : (s : Int) < (mid : Int) := by omega
              have f5 : ¬ (mid : Int) < (en2 : Int) := by omega
              have f6 : ¬ (en2 : Int) < (b : Int) := by omega
              obtain rfl : L2 = [] := List.length_eq_zero_iff.1 (by omega)
              obtain rfl : R2 = [] := List.length_eq_zero_iff.1 (by omega)
              first
              | (exfalso; omega)
              | (skip
                 go_wp2_with fail
                 have d1 : DW E w0 B (P ++ (L1 ++ (R1 ++ ([] ++ ([] ++ S))))) wr := by simpa using hD
                 refine (REB.out (by omega) (by omega) _ d1).mono ?_
                 rintro e w2 ⟨rfl, d2⟩
                 have d2 : DW E w0 B ((P ++ mrg f L1 R1) ++ ([] ++ ([] ++ S))) w2 := by simpa using d2
                 go_wp2_with fail
                 go_end0
                 exact ⟨rfl, by rw [HF.out]; simpa [mrg_nil_l, mrg_nil_r] using d2⟩)
          · by_cases z4 : 0 < R2.length
            · have f1 : ¬ (s : Int) < (m : Int) := by omega
              have f2 : ¬ (m : Int) < (en2 : Int) := by omega
              have f3 : (a : Int) < (s : Int) := by omega
              have f4 : ¬ (s : Int) < (mid : Int) := by omega
              have f5 : ¬ (mid : Int) < (en2 : Int) := by omega
              have f6 : (en2 : Int) < (b : Int) := by omega
              obtain rfl : R1 = [] := List.length_eq_zero_iff.1 (by omega)
              obtain rfl : L2 = [] := List.length_eq_zero_iff.1 (by omega)
              first
              | (exfalso; omega)
              | (skip
                 go_wp2_with fail
                 have d1 : DW E w0 B (P ++ (L1 ++ ([] ++ ([] ++ (R2 ++ S))))) wr := by simpa using hD
                 have d2 : DW E w0 B ((P ++ mrg f L1 []) ++ ([] ++ (R2 ++ S))) wr := by simpa [mrg_nil_l, mrg_nil_r] using d1
                 go_end0
                 exact ⟨rfl, by rw [HF.out]; simpa [mrg_nil_l, mrg_nil_r] using d2⟩)
            · exfalso; omega
      · by_cases z2 : 0 < L2.length
        · by_cases z3 : 0 < R1.length
          · by_cases z4 : 0 < R2.length
            · have f1 : (s : Int) < (m : Int) := by omega
              have f2 : (m : Int) < (en2 : Int) := by omega
              have f3 : ¬ (a : Int) < (s : Int) := by omega
              have f4 : (s : Int) < (mid : Int) := by omega
              have f5 : (mid : Int) < (en2 : Int) := by omega
              have f6 : (en2 : Int) < (b : Int) := by omega
              obtain rfl : L1 = [] := List.length_eq_zero_iff.1 (by omega)
              first
              | (exfalso; omega)
              | (skip
                 go_wp2_with fail
                 refine (ROT.out (by omega) (by omega) _ hD (by omega)).mono ?_
                 rintro e w1 ⟨rfl, d1⟩
                 have d1 : DW E w0 B (P ++ ([] ++ (R1 ++ (L2 ++ (R2 ++ S))))) w1 := by simpa using d1
                 go_wp2_with fail
                 have d2 : DW E w0 B ((P ++ mrg f [] R1) ++ (L2 ++ (R2 ++ S))) w1 := by simpa [mrg_nil_l, mrg_nil_r] using d1
                 refine (REC.out (by omega) (by omega) _ d2).mono ?_
                 rintro e w3 ⟨rfl, d3⟩
                 go_wp2_with fail
                 go_end0
                 exact ⟨rfl, by rw [HF.out]; exact d3⟩)
            · have f1 : (s : Int) < (m : Int) := by omega
              have f2 : (m : Int) < (en2 : Int) := by omega
              have f3 : ¬ (a : Int) < (s : Int) := by omega
              have f4 : (s : Int) < (mid : Int) := by omega
              have f5 : (mid : Int) < (en2 : Int) := by omega
              have f6 : ¬ (en2 : Int) < (b : Int) := by omega
              obtain rfl : L1 = [] := List.length_eq_zero_iff.1 (by omega)
              obtain rfl : R2 = [] := List.length_eq_zero_iff.1 (by omega)
              first
              | (exfalso; omega)
              | (skip
                 go_wp2_with fail
                 refine (ROT.out (by omega) (by omega) _ hD (by omega)).mono ?_
                 rintro e w1 ⟨rfl, d1⟩
                 have d1 : DW E w0 B (P ++ ([] ++ (R1 ++ (L2 ++ ([] ++ S))))) w1 := by simpa using d1
                 go_wp2_with fail
                 have d2 : DW E w0 B ((P ++ mrg f [] R1) ++ (L2 ++ ([] ++ S))) w1 := by simpa [mrg_nil_l, mrg_nil_r] using d1
                 go_end0
                 exact ⟨rfl, by rw [HF.out]; simpa [mrg_nil_l, mrg_nil_r] using d2⟩)
          · by_cases z4 : 0 < R2.length
            · have f1 : (s : Int) < (m : Int) := by omega
              have f2 : ¬ (m : Int) < (en2 : Int) := by omega
              have f3 : ¬ (a : Int) < (s : Int) := by omega
              have f4 : ¬ (s : Int) < (mid : Int) := by omega
              have f5 : (mid : Int) < (en2 : Int) := by omega
              have f6 : (en2 : Int) < (b : Int) := by omega
              obtain rfl : L1 = [] := List.length_eq_zero_iff.1 (by omega)
              obtain rfl : R1 = [] := List.length_eq_zero_iff.1 (by omega)
              first
              | (exfalso; omega)
              | (skip
                 go_wp2_with fail
                 have d1 : DW E w0 B (P ++ ([] ++ ([] ++ (L2 ++ (R2 ++ S))))) wr := by simpa using hD
                 have d2 : DW E w0 B ((P ++ mrg f [] []) ++ (L2 ++ (R2 ++ S))) wr := by simpa [mrg_nil_l, mrg_nil_r] using d1
                 refine (REC.out (by omega) (by omega) _ d2).mono ?_
                 rintro e w3 ⟨rfl, d3⟩
                 go_wp2_with fail
                 go_end0
                 exact ⟨rfl, by rw [HF.out]; exact d3⟩)
            · exfalso; omega
        · exfalso; omega

end Go.Proofs.Ythojcidbhojlhaa
