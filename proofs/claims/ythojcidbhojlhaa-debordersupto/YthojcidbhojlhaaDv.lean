/-
  Walks: which versions are fit; their texts.
-/
import Derived.Test.YthojcidbhojlhaaDu
namespace Go.Proofs.Ythojcidbhojlhaa
open Go.RowKit Go.Shelf
set_option linter.unusedVariables false

theorem eqL (a b : List UInt8) (x : Bool) (h : (a == b) = x) : ((ofL a).toList == (ofL b).toList) = x := by rw [toL, toL, ofL_data, ofL_data]; exact h
/-- A version in its box. -/
theorem box_kept {w W : World} {v : DebL} (hb : Below (w.alloc (.cells #[.string (ofL v.ep), .string (ofL v.up), .string (ofL v.rev)] 23)).heap.size (w.alloc (.cells #[.string (ofL v.ep), .string (ofL v.up), .string (ofL v.rev)] 23)) W) : W.heap[w.heap.size]? = some (.cells #[.string (ofL v.ep), .string (ofL v.up), .string (ofL v.rev)] 23 (0, 0)) :=
  (hb.block w.heap.size (by simp)).trans (World.alloc_heap_new w _)

set_option maxRecDepth 100000 in
set_option maxHeartbeats 1000000 in
theorem Fit_err (v : DebL) (x : Int × Nat) (w : World) (hs : Sz v) (hp : parseL (writeL v) = .error x) :
    Calls Try.prog 12 #[verV v] w fun e w' => e = .returned (.bool (fitB v)) ∧ Below w.heap.size w w' := by
  have hP := pres_err hp
  have hxb : (x.1 == 0) = false := by simpa using parse_errs hp
  have HF : Hid (fitB v = false) := by show _ = _; unfold fitB; rw [hp]
  have W1 := fun w => write_any v w hs
  have P1 := fun w => Parse_any (ofL (writeL v)) w
  rw [ofL_data, hP] at P1
  unfold verV at W1
  have W1 := hide W1
  have P1 := hide P1
  unfold verV
  clear hP hp
  go_enter Try.func12, Try.ntmps12
  go_wp2_with fail
  refine (W1.out _).mono ?_
  rintro e w1 ⟨rfl, b1⟩
  have k1 := box_kept b1
  go_wp2_with fail
  refine (P1.out _).mono ?_
  rintro e w2 ⟨rfl, b2⟩
  have k2 := (b2.block _ (Array.getElem?_eq_some_iff.1 k1).1).trans k1
  have hl := (Array.getElem?_eq_some_iff.1 k2).1
  have hl1 : w.heap.size < w2.heap.size + 1 := by omega
  have q0 := cell_at 0 k2 rfl
  have q1 := cell_at 1 k2 rfl
  have q2 := cell_at 2 k2 rfl
  have B0 := (Below.refl _ w).alloc (Nat.le_refl _) (.cells #[.string (ofL v.ep), .string (ofL v.up), .string (ofL v.rev)] 23)
  have B1 := B0.trans (b1.mono B0.size)
  have B2 := B1.trans (b2.mono B1.size)
  have B3 := B2.alloc B2.size (.cells #[.string ⟨#[]⟩, .string ⟨#[]⟩, .string ⟨#[]⟩] 23)
  have B4 := B3.alloc B3.size (.cells #[.int .i64 x.1, .int .i64 (x.2 : Int)] 26)
  have B4 := hide B4
  clear b1 b2 B0 B1 B2 B3
  go_wp2_with fail
  go_ret
  exact ⟨ret_b (by rw [HF.out]), B4.out⟩

set_option maxRecDepth 100000 in
set_option maxHeartbeats 1000000 in
theorem Fit_a (v u : DebL) (w : World) (hs : Sz v) (hp : parseL (writeL v) = .ok u) (h0 : (u.ep == v.ep) = false) :
    Calls Try.prog 12 #[verV v] w fun e w' => e = .returned (.bool (fitB v)) ∧ Below w.heap.size w w' := by
  have hP := pres_ok hp
  have HF : Hid (fitB v = false) := by show _ = _; unfold fitB; rw [hp]; unfold sameB; dsimp only; rw [h0]; simp
  have g0 := eqL _ _ _ h0
  have W1 := fun w => write_any v w hs
  have P1 := fun w => Parse_any (ofL (writeL v)) w
  rw [ofL_data, hP] at P1
  unfold verV at W1
  have W1 := hide W1
  have P1 := hide P1
  unfold verV
  clear hP hp h0
  go_enter Try.func12, Try.ntmps12
  go_wp2_with fail
  refine (W1.out _).mono ?_
  rintro e w1 ⟨rfl, b1⟩
  have k1 := box_kept b1
  go_wp2_with fail
  refine (P1.out _).mono ?_
  rintro e w2 ⟨rfl, b2⟩
  have k2 := (b2.block _ (Array.getElem?_eq_some_iff.1 k1).1).trans k1
  have hl := (Array.getElem?_eq_some_iff.1 k2).1
  have hl1 : w.heap.size < w2.heap.size + 1 := by omega
  have q0 := cell_at 0 k2 rfl
  have q1 := cell_at 1 k2 rfl
  have q2 := cell_at 2 k2 rfl
  have B0 := (Below.refl _ w).alloc (Nat.le_refl _) (.cells #[.string (ofL v.ep), .string (ofL v.up), .string (ofL v.rev)] 23)
  have B1 := B0.trans (b1.mono B0.size)
  have B2 := B1.trans (b2.mono B1.size)
  have B3 := B2.alloc B2.size (.cells #[.string (ofL u.ep), .string (ofL u.up), .string (ofL u.rev)] 23)
  have B4 := B3.alloc B3.size (.cells #[.int .i64 0, .int .i64 0] 26)
  have B4 := hide B4
  clear b1 b2 B0 B1 B2 B3
  go_wp2_with fail
  go_ret
  exact ⟨ret_b (by rw [HF.out]), B4.out⟩

set_option maxRecDepth 100000 in
set_option maxHeartbeats 1000000 in
theorem Fit_b (v u : DebL) (w : World) (hs : Sz v) (hp : parseL (writeL v) = .ok u) (h0 : (u.ep == v.ep) = true) (h1 : (u.up == v.up) = false) :
    Calls Try.prog 12 #[verV v] w fun e w' => e = .returned (.bool (fitB v)) ∧ Below w.heap.size w w' := by
  have hP := pres_ok hp
  have HF : Hid (fitB v = false) := by show _ = _; unfold fitB; rw [hp]; unfold sameB; dsimp only; rw [h0, h1]; simp
  have g0 := eqL _ _ _ h0
  have g1 := eqL _ _ _ h1
  have W1 := fun w => write_any v w hs
  have P1 := fun w => Parse_any (ofL (writeL v)) w
  rw [ofL_data, hP] at P1
  unfold verV at W1
  have W1 := hide W1
  have P1 := hide P1
  unfold verV
  clear hP hp h0 h1
  go_enter Try.func12, Try.ntmps12
  go_wp2_with fail
  refine (W1.out _).mono ?_
  rintro e w1 ⟨rfl, b1⟩
  have k1 := box_kept b1
  go_wp2_with fail
  refine (P1.out _).mono ?_
  rintro e w2 ⟨rfl, b2⟩
  have k2 := (b2.block _ (Array.getElem?_eq_some_iff.1 k1).1).trans k1
  have hl := (Array.getElem?_eq_some_iff.1 k2).1
  have hl1 : w.heap.size < w2.heap.size + 1 := by omega
  have q0 := cell_at 0 k2 rfl
  have q1 := cell_at 1 k2 rfl
  have q2 := cell_at 2 k2 rfl
  have B0 := (Below.refl _ w).alloc (Nat.le_refl _) (.cells #[.string (ofL v.ep), .string (ofL v.up), .string (ofL v.rev)] 23)
  have B1 := B0.trans (b1.mono B0.size)
  have B2 := B1.trans (b2.mono B1.size)
  have B3 := B2.alloc B2.size (.cells #[.string (ofL u.ep), .string (ofL u.up), .string (ofL u.rev)] 23)
  have B4 := B3.alloc B3.size (.cells #[.int .i64 0, .int .i64 0] 26)
  have B4 := hide B4
  clear b1 b2 B0 B1 B2 B3
  go_wp2_with fail
  go_ret
  exact ⟨ret_b (by rw [HF.out]), B4.out⟩

set_option maxRecDepth 100000 in
set_option maxHeartbeats 1000000 in
theorem Fit_c (v u : DebL) (w : World) (hs : Sz v) (hp : parseL (writeL v) = .ok u) (h0 : (u.ep == v.ep) = true) (h1 : (u.up == v.up) = true) (h2 : (u.rev == v.rev) = false) :
    Calls Try.prog 12 #[verV v] w fun e w' => e = .returned (.bool (fitB v)) ∧ Below w.heap.size w w' := by
  have hP := pres_ok hp
  have HF : Hid (fitB v = false) := by show _ = _; unfold fitB; rw [hp]; unfold sameB; dsimp only; rw [h0, h1, h2]; simp
  have g0 := eqL _ _ _ h0
  have g1 := eqL _ _ _ h1
  have g2 := eqL _ _ _ h2
  have W1 := fun w => write_any v w hs
  have P1 := fun w => Parse_any (ofL (writeL v)) w
  rw [ofL_data, hP] at P1
  unfold verV at W1
  have W1 := hide W1
  have P1 := hide P1
  unfold verV
  clear hP hp h0 h1 h2
  go_enter Try.func12, Try.ntmps12
  go_wp2_with fail
  refine (W1.out _).mono ?_
  rintro e w1 ⟨rfl, b1⟩
  have k1 := box_kept b1
  go_wp2_with fail
  refine (P1.out _).mono ?_
  rintro e w2 ⟨rfl, b2⟩
  have k2 := (b2.block _ (Array.getElem?_eq_some_iff.1 k1).1).trans k1
  have hl := (Array.getElem?_eq_some_iff.1 k2).1
  have hl1 : w.heap.size < w2.heap.size + 1 := by omega
  have q0 := cell_at 0 k2 rfl
  have q1 := cell_at 1 k2 rfl
  have q2 := cell_at 2 k2 rfl
  have B0 := (Below.refl _ w).alloc (Nat.le_refl _) (.cells #[.string (ofL v.ep), .string (ofL v.up), .string (ofL v.rev)] 23)
  have B1 := B0.trans (b1.mono B0.size)
  have B2 := B1.trans (b2.mono B1.size)
  have B3 := B2.alloc B2.size (.cells #[.string (ofL u.ep), .string (ofL u.up), .string (ofL u.rev)] 23)
  have B4 := B3.alloc B3.size (.cells #[.int .i64 0, .int .i64 0] 26)
  have B4 := hide B4
  clear b1 b2 B0 B1 B2 B3
  go_wp2_with fail
  go_ret
  exact ⟨ret_b (by rw [HF.out]), B4.out⟩

set_option maxRecDepth 100000 in
set_option maxHeartbeats 1000000 in
theorem Fit_d (v u : DebL) (w : World) (hs : Sz v) (hp : parseL (writeL v) = .ok u) (h0 : (u.ep == v.ep) = true) (h1 : (u.up == v.up) = true) (h2 : (u.rev == v.rev) = true) :
    Calls Try.prog 12 #[verV v] w fun e w' => e = .returned (.bool (fitB v)) ∧ Below w.heap.size w w' := by
  have hP := pres_ok hp
  have HF : Hid (fitB v = true) := by show _ = _; unfold fitB; rw [hp]; unfold sameB; dsimp only; rw [h0, h1, h2]; simp
  have g0 := eqL _ _ _ h0
  have g1 := eqL _ _ _ h1
  have g2 := eqL _ _ _ h2
  have W1 := fun w => write_any v w hs
  have P1 := fun w => Parse_any (ofL (writeL v)) w
  rw [ofL_data, hP] at P1
  unfold verV at W1
  have W1 := hide W1
  have P1 := hide P1
  unfold verV
  clear hP hp h0 h1 h2
  go_enter Try.func12, Try.ntmps12
  go_wp2_with fail
  refine (W1.out _).mono ?_
  rintro e w1 ⟨rfl, b1⟩
  have k1 := box_kept b1
  go_wp2_with fail
  refine (P1.out _).mono ?_
  rintro e w2 ⟨rfl, b2⟩
  have k2 := (b2.block _ (Array.getElem?_eq_some_iff.1 k1).1).trans k1
  have hl := (Array.getElem?_eq_some_iff.1 k2).1
  have hl1 : w.heap.size < w2.heap.size + 1 := by omega
  have q0 := cell_at 0 k2 rfl
  have q1 := cell_at 1 k2 rfl
  have q2 := cell_at 2 k2 rfl
  have B0 := (Below.refl _ w).alloc (Nat.le_refl _) (.cells #[.string (ofL v.ep), .string (ofL v.up), .string (ofL v.rev)] 23)
  have B1 := B0.trans (b1.mono B0.size)
  have B2 := B1.trans (b2.mono B1.size)
  have B3 := B2.alloc B2.size (.cells #[.string (ofL u.ep), .string (ofL u.up), .string (ofL u.rev)] 23)
  have B4 := B3.alloc B3.size (.cells #[.int .i64 0, .int .i64 0] 26)
  have B4 := hide B4
  clear b1 b2 B0 B1 B2 B3
  go_wp2_with fail
  go_ret
  exact ⟨ret_b (by rw [HF.out]), B4.out⟩

theorem Fit_any (v : DebL) (w : World) (hs : Sz v) :
    Calls Try.prog 12 #[verV v] w fun e w' => e = .returned (.bool (fitB v)) ∧ Below w.heap.size w w' := by
  cases hp : parseL (writeL v) with
  | error x => exact Fit_err v x w hs hp
  | ok u =>
    cases h0 : (u.ep == v.ep)
    · exact Fit_a v u w hs hp h0
    · cases h1 : (u.up == v.up)
      · exact Fit_b v u w hs hp h0 h1
      · cases h2 : (u.rev == v.rev)
        · exact Fit_c v u w hs hp h0 h1 h2
        · exact Fit_d v u w hs hp h0 h1 h2

set_option maxRecDepth 100000 in
set_option maxHeartbeats 1000000 in
theorem Format_any (v : DebL) (w : World) (hs : Sz v) :
    Calls Try.prog 14 #[verV v] w fun e w' => e = .returned (.string (ofL (formL v))) ∧ Below w.heap.size w w' := by
  have F1 := fun w => Fit_any v w hs
  have W1 := fun w => write_any v w hs
  cases hf : fitB v
  · have HO : Hid (formL v = []) := by show _ = _; unfold formL; rw [hf]; rfl
    rw [hf] at F1
    unfold verV at F1 ⊢
    have F1 := hide F1
    clear W1 hf
    go_enter Try.func14, Try.ntmps14
    go_wp2_with fail
    refine (F1.out _).mono ?_
    rintro e w1 ⟨rfl, b1⟩
    go_wp2_with fail
    go_ret
    have B0 := (Below.refl _ w).alloc (Nat.le_refl _) (.cells #[.string (ofL v.ep), .string (ofL v.up), .string (ofL v.rev)] 23)
    exact ⟨ret_s (by rw [HO.out]; rfl), B0.trans (b1.mono B0.size)⟩
  · have HO : Hid (formL v = writeL v) := by show _ = _; unfold formL; rw [hf]; rfl
    rw [hf] at F1
    unfold verV at F1 W1 ⊢
    have F1 := hide F1
    have W1 := hide W1
    clear hf
    go_enter Try.func14, Try.ntmps14
    go_wp2_with fail
    refine (F1.out _).mono ?_
    rintro e w1 ⟨rfl, b1⟩
    have k1 := box_kept b1
    have q0 := cell_at 0 k1 rfl
    have q1 := cell_at 1 k1 rfl
    have q2 := cell_at 2 k1 rfl
    go_wp2_with fail
    refine (W1.out _).mono ?_
    rintro e w2 ⟨rfl, b2⟩
    go_wp2_with fail
    go_ret
    have B0 := (Below.refl _ w).alloc (Nat.le_refl _) (.cells #[.string (ofL v.ep), .string (ofL v.up), .string (ofL v.rev)] 23)
    have B1 := B0.trans (b1.mono B0.size)
    exact ⟨ret_s (by rw [HO.out]), B1.trans (b2.mono B1.size)⟩

end Go.Proofs.Ythojcidbhojlhaa
