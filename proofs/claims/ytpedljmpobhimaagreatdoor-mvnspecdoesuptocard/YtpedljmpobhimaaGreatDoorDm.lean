/-
  Walks: the order of rows of tokens.
-/
import Derived.Test.YtpedljmpobhimaaGreatDoorDl
namespace Go.Proofs.YtpedljmpobhimaaGreatDoor
open Go.RowKit Go.Shelf
set_option linter.unusedVariables false

theorem fin63 {R : Ending → World → Prop} (tmps : Array Value) (W : World) (B : Nat) (a b c : Value)
    (h2 : tmps.getD 4 undef = .pointer (some ⟨B, 0, none⟩)) (e1 : W.heap[B]? = some (.cells #[a, b, c] 91 (0, 0)))
    (hR : R (.returned (.agg #[a, b, c])) W) :
    bodyPost Tryz.prog Tryz.f118 R .ret { tmps := tmps, defers := [] } W := by
  have r0 := cell_at 0 e1 rfl
  have r1 := cell_at 1 e1 rfl
  have r2 := cell_at 2 e1 rfl
  rw [Array.getD_eq_getD_getElem?] at h2
  refine ⟨rfl, _, ?_, hR⟩
  simp [results, Tryz.results118, go_sem, h2, r0, r1, r2]
  try rfl

/-- A length that a slice may have. -/
def Len (n : Nat) : Prop := n ≤ 1000000000000

set_option maxRecDepth 100000 in
set_option maxHeartbeats 1000000 in
theorem tokenAt_any (v : Value) (ts : List Tok) (k : Nat) (w : World) (h : Toks w v ts) (hl : k ≤ 1000000000000) :
    Calls Tryz.prog 118 #[v, .int .i64 (k : Int)] w fun e w' => e = .returned (tokV (ts.getD k nilT)) ∧ Below w.heap.size w w' := by
  obtain ⟨a, cap, rfl, hr⟩ := h
  by_cases hk : k < ts.length
  · obtain ⟨b, off, rfl, hlt, hc⟩ : ∃ b off, a = some ⟨b, off, none⟩ ∧ b < w.heap.size ∧ TRow w b off ts := by
      rcases hr with h0 | h0
      · rw [h0] at hk; simp at hk
      · exact h0
    obtain ⟨c0, c1, c2⟩ := hc k hk
    have HG : Hid (ts.getD k nilT = ts[k]) := by show _ = _; rw [List.getD_eq_getElem?_getD, List.getElem?_eq_getElem hk]; rfl
    have hk' : (k : Int) < (ts.length : Int) := by omega
    have hk2 : decide ((k : Int) < (ts.length : Int)) = true := by simp; omega
    clear hr hc
    generalize ts[k] = t at *
    have hbn : b ≠ w.heap.size := by omega
    go_enter Tryz.func118, Tryz.ntmps118
    go_wp2_with fail
    refine fin63 _ _ w.heap.size _ _ _ rfl (World.alloc_heap_new w _) ⟨?_, (Below.refl _ w).alloc (Nat.le_refl _) _⟩
    rw [HG.out]; rfl
  · have HG : Hid (ts.getD k nilT = nilT) := by show _ = _; rw [List.getD_eq_getElem?_getD, List.getElem?_eq_none (by omega)]; rfl
    have hk' : ¬ (k : Int) < (ts.length : Int) := by omega
    have hk2 : decide ((k : Int) < (ts.length : Int)) = false := by simp; omega
    clear hr
    go_enter Tryz.func118, Tryz.ntmps118
    go_wp2_with fail
    refine fin63 _ _ w.heap.size _ _ _ rfl (World.alloc_heap_new w _) ⟨?_, (Below.refl _ w).alloc (Nat.le_refl _) _⟩
    first | rfl | (rw [HG.out]; rfl)

theorem head_drop_tok (xs : List Tok) (k : Nat) : (xs.drop k).headD nilT = xs.getD k nilT := by
  rw [List.headD_eq_head?_getD, List.head?_drop, List.getD_eq_getElem?_getD]
theorem ordN_drop (xs ys : List Tok) (k n : Nat) : ordN (n + 1) (xs.drop k) (ys.drop k) = if ordT (xs.getD k nilT) (ys.getD k nilT) = 0 then ordN n (xs.drop (k + 1)) (ys.drop (k + 1)) else ordT (xs.getD k nilT) (ys.getD k nilT) := by
  rw [ordN, head_drop_tok, head_drop_tok, List.tail_drop, List.tail_drop]
/-- Tokens' texts short enough. -/
def ShT (xs : List Tok) : Prop := xs.length ≤ 1000000000000 ∧ ∀ t ∈ xs, t.text.length ≤ 9223372036854775000
theorem ShT.at {xs : List Tok} (h : ShT xs) (k : Nat) : (xs.getD k nilT).text.length ≤ 9223372036854775000 := by
  by_cases hk : k < xs.length
  · rw [List.getD_eq_getElem?_getD, List.getElem?_eq_getElem hk]; exact h.2 _ (List.getElem_mem hk)
  · rw [List.getD_eq_getElem?_getD, List.getElem?_eq_none (by omega)]; simp [nilT]
theorem Toks.below' {W W' : World} {v : Value} {ts : List Tok} (h : Toks W v ts) (hb : Below W.heap.size W W') : Toks W' v ts := h.below hb

set_option maxRecDepth 100000 in
set_option maxHeartbeats 2000000 in
theorem order_any (va vb : Value) (xs ys : List Tok) (w : World) (hk : Kn w) (hA : Toks w va xs) (hB0 : Toks w vb ys) (hx : ShT xs) (hy : ShT ys) :
    Calls Tryz.prog 103 #[va, vb] w fun e w' => e = .returned (.int .i64 (ordL xs ys)) ∧ Below w.heap.size w w' := by
  have HKN := hide hk
  have HA := hide hA
  have HB := hide hB0
  have HTX := hide (fun k => hx.at k)
  have HTY := hide (fun k => hy.at k)
  have hlx := hx.1
  have hly := hy.1
  obtain ⟨aa, ca, rfl, _⟩ := hA
  obtain ⟨ab, cb, rfl, _⟩ := hB0
  obtain ⟨va, hva⟩ : ∃ va, va = Value.slice aa xs.length ca := ⟨_, rfl⟩
  obtain ⟨vb, hvb⟩ : ∃ vb, vb = Value.slice ab ys.length cb := ⟨_, rfl⟩
  have HVA := hide hva
  have HVB := hide hvb
  rw [← hva] at HA
  rw [← hvb] at HB
  clear hk hx hy hva hvb
  by_cases hm : xs.length < ys.length
  · have hm' : (xs.length : Int) < (ys.length : Int) := by omega
    have HL : Hid (ordL xs ys = ordN (ys.length - 0) (xs.drop 0) (ys.drop 0)) := by show _ = _; unfold ordL; rw [Nat.max_eq_right (by omega)]; rfl
    go_enter Tryz.func103, Tryz.ntmps103
    go_wp2_with fail
    go_loopw [12] (fun i wr => ∃ k : Nat, k ≤ ys.length ∧ i = .int .i64 k ∧ Below w.heap.size w wr ∧ Hid (ordL xs ys = ordN (ys.length - k) (xs.drop k) (ys.drop k))) (fun i _ => ys.length - (intOf i).toNat)
    case atStart => exact ⟨0, by omega, rfl, Below.refl _ _, HL⟩
    case round =>
      obtain ⟨k, hk', rfl, hB, HR⟩ := hrel
      by_cases hlt : k < ys.length
      · have hlt' : (k : Int) < (ys.length : Int) := by omega
        have TA := hide (fun W hW => tokenAt_any (.slice aa xs.length ca) xs k W hW (by omega))
        have TB := hide (fun W hW => tokenAt_any (.slice ab ys.length cb) ys k W hW (by omega))
        have OT := hide (fun W hW => orderTokens_any (xs.getD k nilT) (ys.getD k nilT) W hW (HTX.out k) (HTY.out k))
        have HS := hide (ordN_drop xs ys k (ys.length - k - 1))
        have hmk : ys.length - k = ys.length - k - 1 + 1 := by omega
        rw [hmk] at HR
        have hm2 : ys.length - k - 1 = ys.length - (k + 1) := by omega
        rw [hm2] at HR HS
        generalize ordT (xs.getD k nilT) (ys.getD k nilT) = O at *
        generalize tokV (xs.getD k nilT) = vx at *
        generalize tokV (ys.getD k nilT) = vy at *
        have hkW : Kn wr := HKN.out.below HKN.out.pos hB
        have hAW : Toks wr (.slice aa xs.length ca) xs := HVA.out ▸ HA.out.below hB
        have hBW : Toks wr (.slice ab ys.length cb) ys := HVB.out ▸ HB.out.below hB
        by_cases h0 : O = 0
        · subst h0
          have HX : Hid (ordL xs ys = ordN (ys.length - (k + 1)) (xs.drop (k + 1)) (ys.drop (k + 1))) := by show _ = _; rw [HR.out, HS.out, if_pos rfl]
          clear hm2 hmk HR HS
          go_wp2_with fail
          refine (TA.out _ hAW).mono ?_
          rintro e w1 ⟨rfl, b1⟩
          go_wp2_with fail
          refine (TB.out _ (hBW.below b1)).mono ?_
          rintro e w2 ⟨rfl, b2⟩
          go_wp2_with fail
          have s1 := b1.size
          have s2 := b2.size
          refine (OT.out _ ((hkW.below hkW.pos b1).below (Nat.lt_of_lt_of_le hkW.pos s1) b2)).mono ?_
          rintro e w3 ⟨rfl, b3⟩
          have hB3 := hB.trans ((b1.trans ((b2.mono s1).trans (b3.mono (by omega)))).mono hB.size)
          go_wp2_with fail
          go_roundw
          case rel => exact ⟨k + 1, by omega, by go_num, hB3, HX⟩
          case measure => simp [intOf]; omega
        · have HX : Hid (ordL xs ys = O) := by show _ = _; rw [HR.out, HS.out, if_neg h0]
          have hb0 : (O != 0) = true := by simpa using h0
          clear hm2 hmk HR HS h0
          go_wp2_with fail
          refine (TA.out _ hAW).mono ?_
          rintro e w1 ⟨rfl, b1⟩
          go_wp2_with fail
          refine (TB.out _ (hBW.below b1)).mono ?_
          rintro e w2 ⟨rfl, b2⟩
          go_wp2_with fail
          have s1 := b1.size
          have s2 := b2.size
          refine (OT.out _ ((hkW.below hkW.pos b1).below (Nat.lt_of_lt_of_le hkW.pos s1) b2)).mono ?_
          rintro e w3 ⟨rfl, b3⟩
          have hB3 := hB.trans ((b1.trans ((b2.mono s1).trans (b3.mono (by omega)))).mono hB.size)
          go_wp2_with fail
          go_ret
          exact ⟨ret_i HX.out.symm, hB3⟩
      · have hlt' : ¬ (k : Int) < (ys.length : Int) := by omega
        have HX : Hid (ordL xs ys = 0) := by show _ = _; rw [HR.out, show ys.length - k = 0 by omega]; rfl
        go_wp2_with fail
        go_ret
        exact ⟨ret_i HX.out.symm, hB⟩
  · have hm' : ¬ (xs.length : Int) < (ys.length : Int) := by omega
    have HL : Hid (ordL xs ys = ordN (xs.length - 0) (xs.drop 0) (ys.drop 0)) := by show _ = _; unfold ordL; rw [Nat.max_eq_left (by omega)]; rfl
    go_enter Tryz.func103, Tryz.ntmps103
    go_wp2_with fail
    go_loopw [12] (fun i wr => ∃ k : Nat, k ≤ xs.length ∧ i = .int .i64 k ∧ Below w.heap.size w wr ∧ Hid (ordL xs ys = ordN (xs.length - k) (xs.drop k) (ys.drop k))) (fun i _ => xs.length - (intOf i).toNat)
    case atStart => exact ⟨0, by omega, rfl, Below.refl _ _, HL⟩
    case round =>
      obtain ⟨k, hk', rfl, hB, HR⟩ := hrel
      by_cases hlt : k < xs.length
      · have hlt' : (k : Int) < (xs.length : Int) := by omega
        have TA := hide (fun W hW => tokenAt_any (.slice aa xs.length ca) xs k W hW (by omega))
        have TB := hide (fun W hW => tokenAt_any (.slice ab ys.length cb) ys k W hW (by omega))
        have OT := hide (fun W hW => orderTokens_any (xs.getD k nilT) (ys.getD k nilT) W hW (HTX.out k) (HTY.out k))
        have HS := hide (ordN_drop xs ys k (xs.length - k - 1))
        have hmk : xs.length - k = xs.length - k - 1 + 1 := by omega
        rw [hmk] at HR
        have hm2 : xs.length - k - 1 = xs.length - (k + 1) := by omega
        rw [hm2] at HR HS
        generalize ordT (xs.getD k nilT) (ys.getD k nilT) = O at *
        generalize tokV (xs.getD k nilT) = vx at *
        generalize tokV (ys.getD k nilT) = vy at *
        have hkW : Kn wr := HKN.out.below HKN.out.pos hB
        have hAW : Toks wr (.slice aa xs.length ca) xs := HVA.out ▸ HA.out.below hB
        have hBW : Toks wr (.slice ab ys.length cb) ys := HVB.out ▸ HB.out.below hB
        by_cases h0 : O = 0
        · subst h0
          have HX : Hid (ordL xs ys = ordN (xs.length - (k + 1)) (xs.drop (k + 1)) (ys.drop (k + 1))) := by show _ = _; rw [HR.out, HS.out, if_pos rfl]
          clear hm2 hmk HR HS
          go_wp2_with fail
          refine (TA.out _ hAW).mono ?_
          rintro e w1 ⟨rfl, b1⟩
          go_wp2_with fail
          refine (TB.out _ (hBW.below b1)).mono ?_
          rintro e w2 ⟨rfl, b2⟩
          go_wp2_with fail
          have s1 := b1.size
          have s2 := b2.size
          refine (OT.out _ ((hkW.below hkW.pos b1).below (Nat.lt_of_lt_of_le hkW.pos s1) b2)).mono ?_
          rintro e w3 ⟨rfl, b3⟩
          have hB3 := hB.trans ((b1.trans ((b2.mono s1).trans (b3.mono (by omega)))).mono hB.size)
          go_wp2_with fail
          go_roundw
          case rel => exact ⟨k + 1, by omega, by go_num, hB3, HX⟩
          case measure => simp [intOf]; omega
        · have HX : Hid (ordL xs ys = O) := by show _ = _; rw [HR.out, HS.out, if_neg h0]
          have hb0 : (O != 0) = true := by simpa using h0
          clear hm2 hmk HR HS h0
          go_wp2_with fail
          refine (TA.out _ hAW).mono ?_
          rintro e w1 ⟨rfl, b1⟩
          go_wp2_with fail
          refine (TB.out _ (hBW.below b1)).mono ?_
          rintro e w2 ⟨rfl, b2⟩
          go_wp2_with fail
          have s1 := b1.size
          have s2 := b2.size
          refine (OT.out _ ((hkW.below hkW.pos b1).below (Nat.lt_of_lt_of_le hkW.pos s1) b2)).mono ?_
          rintro e w3 ⟨rfl, b3⟩
          have hB3 := hB.trans ((b1.trans ((b2.mono s1).trans (b3.mono (by omega)))).mono hB.size)
          go_wp2_with fail
          go_ret
          exact ⟨ret_i HX.out.symm, hB3⟩
      · have hlt' : ¬ (k : Int) < (xs.length : Int) := by omega
        have HX : Hid (ordL xs ys = 0) := by show _ = _; rw [HR.out, show xs.length - k = 0 by omega]; rfl
        go_wp2_with fail
        go_ret
        exact ⟨ret_i HX.out.symm, hB⟩

end Go.Proofs.YtpedljmpobhimaaGreatDoor
