/-
  Walks: tokens that are a version's.
-/
import Derived.Test.YtobcoppbphfcaaaDoorDs
import Derived.Test.YtobcoppbphfcaaaDoorLc
namespace Go.Proofs.YtobcoppbphfcaaaDoor
open Go.RowKit Go.Shelf
set_option linter.unusedVariables false

set_option maxRecDepth 100000 in
set_option maxHeartbeats 2000000 in
theorem Equal_true (va vb : Value) (xs : List Tok) (w : World) (hA : Toks w va xs) (hB : Toks w vb xs) (hl : xs.length ≤ 1000000000000) :
    Calls Tryd.prog 37 #[va, vb] w fun e w' => e = .returned (.bool true) ∧ Below w.heap.size w w' := by
  obtain ⟨aa, ca, rfl, hra⟩ := hA
  obtain ⟨ab, cb, rfl, hrb⟩ := hB
  have HA := hide hra
  have HB := hide hrb
  clear hra hrb
  have hne : ((xs.length : Int) != (xs.length : Int)) = false := by simp
  go_enter Tryd.func37, Tryd.ntmps37
  go_wp2_with fail
  go_loopw [13] (fun i wr => ∃ k : Nat, k ≤ xs.length ∧ i = .int .i64 k ∧ Below w.heap.size w wr) (fun i _ => xs.length - (intOf i).toNat)
  case atStart => exact ⟨0, by omega, rfl, Below.refl _ _⟩
  case round =>
    obtain ⟨k, hk, rfl, hBw⟩ := hrel
    by_cases hlt : k < xs.length
    · have hlt' : (k : Int) < (xs.length : Int) := by omega
      obtain ⟨b, off, rfl, hlb, hc⟩ : ∃ b off, aa = some ⟨b, off, none⟩ ∧ b < w.heap.size ∧ TRow w b off xs := by
        rcases HA.out with h0 | h0
        · rw [h0] at hlt; simp at hlt
        · exact h0
      obtain ⟨b', off', rfl, hlb', hc'⟩ : ∃ b off, ab = some ⟨b, off, none⟩ ∧ b < w.heap.size ∧ TRow w b off xs := by
        rcases HB.out with h0 | h0
        · rw [h0] at hlt; simp at hlt
        · exact h0
      obtain ⟨c0, c1, c2⟩ := (hc.of_block (hBw.block b hlb)) k hlt
      obtain ⟨d0, d1, d2⟩ := (hc'.of_block (hBw.block b' hlb')) k hlt
      generalize xs[k] = t at *
      clear hc hc'
      go_wp2_with fail
      go_quiet (fail)
      have hB2 : Below w.heap.size w (wr.drewN nq) := hBw.trans (below_drewN _ _ _)
      clear c0 c1 c2 d0 d1 d2
      generalize wr.drewN nq = W2 at *
      go_wp2_with fail
      go_roundw
      case rel => exact ⟨k + 1, by omega, by go_num, hB2⟩
      case measure => simp [intOf]; omega
    · have hlt' : ¬ (k : Int) < (xs.length : Int) := by omega
      go_wp2_with fail
      go_ret
      exact ⟨rfl, hBw⟩

set_option maxRecDepth 100000 in
set_option maxHeartbeats 2000000 in
theorem isToken_true (t : Tok) (w : World) (hf : TokF t) (hl : t.text.length ≤ 64) :
    Calls Tryd.prog 36 #[tokV t] w fun e w' => e = .returned (.bool true) ∧ Below w.heap.size w w' := by
  obtain ⟨d, n, x⟩ := t
  unfold tokV
  dsimp only at hl ⊢
  rcases hf with ⟨h1, h2⟩ | ⟨h1, h2, h3⟩
  · dsimp only at h1 h2
    subst h1 h2
    have hem : (ofL []).toList.isEmpty = true := by rw [toL, ofL_data]; rfl
    go_enter Tryd.func36, Tryd.ntmps36
    go_wp2_with fail
    go_ret
    exact ⟨rfl, (Below.refl _ w).alloc (Nat.le_refl _) _⟩
  · dsimp only at h1 h2 h3
    have hem : (ofL x).toList.isEmpty = false := by rw [toL, ofL_data]; cases x; exact absurd rfl h1; rfl
    have CT := fun w => token_any (ofL x) false w (by rw [ofL_size]; exact hl)
    rw [ofL_data, h3 false] at CT
    unfold tokV at CT
    have CT := hide CT
    have CE : ∀ w, Calls Tryd.prog 50 #[.string (ofL x), .int .i64 0] w fun e w' => e = .returned (.int .i64 (x.length : Int)) ∧ w' = w := fun w => by
      have h := tokenEnd_any (ofL x) 0 w (by rw [ofL_size]; unfold maxLen; omega) (Nat.zero_le _)
      rw [ofL_data, List.drop_zero, Nat.zero_add, h2] at h
      exact h
    have CE := hide CE
    have hsz := ofL_size x
    clear h1 h2 h3
    have fin : ∀ (w1 : World), Below (w.alloc (.cells #[.bool d, .bool n, .string (ofL x)] 48)).heap.size (w.alloc (.cells #[.bool d, .bool n, .string (ofL x)] 48)) w1 →
        ((w1.alloc (.cells #[.bool false, .bool n, .string (ofL x)] 48)).heap[w.heap.size]? = some (.cells #[.bool d, .bool n, .string (ofL x)] 48 (0, 0)) ∧ (w1.alloc (.cells #[.bool false, .bool n, .string (ofL x)] 48)).heap[w1.heap.size]? = some (.cells #[.bool false, .bool n, .string (ofL x)] 48 (0, 0)) ∧ Below w.heap.size w (w1.alloc (.cells #[.bool false, .bool n, .string (ofL x)] 48))) := fun w1 b1 => by
      have s1 := b1.size
      simp only [World.size_alloc] at s1
      refine ⟨(Below.heap_alloc _ _ _ (by omega)).trans ((b1.block _ (by simp)).trans (World.alloc_heap_new w _)), World.alloc_heap_new w1 _, ?_⟩
      have b0 : Below w.heap.size w (w.alloc (.cells #[.bool d, .bool n, .string (ofL x)] 48)) := (Below.refl _ w).alloc (Nat.le_refl _) _
      exact (b0.trans (b1.mono b0.size)).alloc (by omega) _
    have FIN := hide fin
    clear fin
    cases n
    · go_enter Tryd.func36, Tryd.ntmps36
      go_wp2_with fail
      refine (CT.out _).mono ?_
      rintro e w1 ⟨rfl, b1⟩
      obtain ⟨e1, e2, b2⟩ := FIN.out w1 b1
      have l1 := (Array.getElem?_eq_some_iff.1 e1).1
      have c0 := cell_at 0 e1 rfl
      have c1 := cell_at 1 e1 rfl
      have c2 := cell_at 2 e1 rfl
      have d0 := cell_at 0 e2 rfl
      have d1 := cell_at 1 e2 rfl
      have d2 := cell_at 2 e2 rfl
      have cW : w1.cell? ⟨w.heap.size, 2, none⟩ = some (.string (ofL x)) := cell_at 2 ((b1.block _ (by simp)).trans (World.alloc_heap_new w _)) rfl
      go_wp2_with fail
      clear cW b1
      generalize w1.alloc (.cells #[.bool false, .bool false, .string (ofL x)] 48) = W2 at *
      go_quiet (first | (go_at_call 50; exact Calls.quiet_of_same (CE.out _)) | fail)
      go_wp2_with fail
      go_ret
      exact ⟨rfl, b2.trans (below_drewN _ _ _)⟩
    · go_enter Tryd.func36, Tryd.ntmps36
      go_wp2_with fail
      refine (CT.out _).mono ?_
      rintro e w1 ⟨rfl, b1⟩
      obtain ⟨e1, e2, b2⟩ := FIN.out w1 b1
      have l1 := (Array.getElem?_eq_some_iff.1 e1).1
      have c0 := cell_at 0 e1 rfl
      have c1 := cell_at 1 e1 rfl
      have c2 := cell_at 2 e1 rfl
      have d0 := cell_at 0 e2 rfl
      have d1 := cell_at 1 e2 rfl
      have d2 := cell_at 2 e2 rfl
      have cW : w1.cell? ⟨w.heap.size, 2, none⟩ = some (.string (ofL x)) := cell_at 2 ((b1.block _ (by simp)).trans (World.alloc_heap_new w _)) rfl
      go_wp2_with fail
      clear cW b1
      generalize w1.alloc (.cells #[.bool false, .bool true, .string (ofL x)] 48) = W2 at *
      go_quiet (first | (go_at_call 50; exact Calls.quiet_of_same (CE.out _)) | fail)
      go_wp2_with fail
      go_ret
      exact ⟨rfl, b2.trans (below_drewN _ _ _)⟩

set_option maxRecDepth 100000 in
set_option maxHeartbeats 2000000 in
theorem Fit_true (v : Value) (ts : List Tok) (w : World) (h0 : 0 < w.heap.size) (hT : Toks w v ts) (hl : ts.length ≤ 1000000000000) (hf : ∀ t ∈ ts, TokF t ∧ t.text.length ≤ 64) (hid : trimT ts = ts) :
    Calls Tryd.prog 18 #[v] w fun e w' => e = .returned (.bool true) ∧ Below w.heap.size w w' := by
  have HT := hide hT
  have HF := hide hf
  have HID := hide hid
  obtain ⟨a, cap, rfl, hr⟩ := hT
  have HR := hide hr
  clear hr hid hf
  go_enter Tryd.func18, Tryd.ntmps18
  go_wp2_with fail
  go_loopw [7] (fun i wr => ∃ k : Nat, k ≤ ts.length ∧ i = .int .i64 k ∧ Below w.heap.size w wr) (fun i _ => ts.length - (intOf i).toNat)
  case atStart => exact ⟨0, by omega, rfl, Below.refl _ _⟩
  case round =>
    obtain ⟨k, hk, rfl, hBw⟩ := hrel
    by_cases hlt : k < ts.length
    · have hlt' : (k : Int) < (ts.length : Int) := by omega
      obtain ⟨b, off, rfl, hlb, hc⟩ : ∃ b off, a = some ⟨b, off, none⟩ ∧ b < w.heap.size ∧ TRow w b off ts := by
        rcases HR.out with h0 | h0
        · rw [h0] at hlt; simp at hlt
        · exact h0
      obtain ⟨c0, c1, c2⟩ := (hc.of_block (hBw.block b hlb)) k hlt
      obtain ⟨g1, g2⟩ := HF.out ts[k] (List.getElem_mem hlt)
      have IT := fun w => isToken_true ts[k] w g1 g2
      unfold tokV at IT
      have IT := hide IT
      have hsz := hBw.size
      have hbne : b ≠ wr.heap.size := by omega
      clear g1 g2 hc
      generalize ts[k] = t at *
      go_wp2_with fail
      refine (IT.out _).mono ?_
      rintro e w2 ⟨rfl, b2⟩
      have bA : Below wr.heap.size wr (wr.alloc (.cells #[.bool t.dash, .bool t.num, .string (ofL t.text)] 48)) := (Below.refl _ wr).alloc (Nat.le_refl _) _
      have hB2 := hBw.trans ((bA.trans (b2.mono bA.size)).mono hsz)
      go_wp2_with fail
      go_roundw
      case rel => exact ⟨k + 1, by omega, by go_num, hB2⟩
      case measure => simp [intOf]; omega
    · have hlt' : ¬ (k : Int) < (ts.length : Int) := by omega
      have hTw := HT.out.below hBw
      have CT := hide (trimmed_any _ ts wr hTw hl (Nat.lt_of_lt_of_le h0 hBw.size))
      go_wp2_with fail
      refine CT.out.mono ?_
      rintro e w4 ⟨v4, rfl, ht4, b4⟩
      rw [HID.out] at ht4
      have EQ := hide (Equal_true _ _ ts w4 ht4.toks (hTw.below b4) hl)
      obtain ⟨g4, cap4, sp4, rfl, _⟩ := ht4
      go_wp2_with fail
      refine EQ.out.mono ?_
      rintro e w5 ⟨rfl, b5⟩
      go_wp2_with fail
      go_ret
      exact ⟨rfl, hBw.trans ((b4.trans (b5.mono b4.size)).mono hBw.size)⟩

end Go.Proofs.YtobcoppbphfcaaaDoor
