/-
  Walks: a version's text, of the program and of the document; which versions are fit.
-/
import Derived.Test.YtmcabgjcppnihaaDk
import Derived.Test.YtmcabgjcppnihaaLu
namespace Go.Proofs.Ytmcabgjcppnihaa
open Go.RowKit Go.Shelf
set_option linter.unusedVariables false

/-- As long as what comes in may be. -/
def Sz (v : RpmL) : Prop := v.ep.length ≤ 140737488351232 ∧ v.ver.length ≤ 140737488351232 ∧ v.rel.length ≤ 140737488351232
theorem eq48 (l : List UInt8) (b : Bool) (h : (l == [48]) = b) : ((ofL l).toList == [48]) = b := by rw [toL, ofL_data]; exact h
theorem eqNil (l : List UInt8) (b : Bool) (h : (l == []) = b) : ((ofL l).toList == []) = b := by rw [toL, ofL_data]; exact h
theorem eqL (a b : List UInt8) (x : Bool) (h : (a == b) = x) : ((ofL a).toList == (ofL b).toList) = x := by rw [toL, toL, ofL_data, ofL_data]; exact h
theorem cat58 (a b : List UInt8) : ∃ t1 t2 : ByteArray, ofL a ++ ⟨#[58]⟩ = t1 ∧ t1 ++ ofL b = t2 ∧ t2 = ofL (a ++ 58 :: b) ∧ t1.size = a.length + 1 ∧ t2.size = a.length + 1 + b.length := by
  obtain ⟨t1, e1, s1, d1⟩ := cat_step (ofL a) ⟨#[58]⟩
  obtain ⟨t2, e2, s2, d2⟩ := cat_step t1 (ofL b)
  refine ⟨t1, t2, e1, e2, ba_ext ?_, ?_, ?_⟩
  · rw [d2, d1, ofL_data, ofL_data, ofL_data]; simp
  · rw [s1, ofL_size]; rfl
  · rw [s2, s1, ofL_size, ofL_size]; rfl
theorem cat45 (x r : List UInt8) : ∃ t1 t2 : ByteArray, (⟨#[45]⟩ : ByteArray) ++ ofL r = t1 ∧ ofL x ++ t1 = t2 ∧ t2 = ofL (x ++ 45 :: r) ∧ t1.size = 1 + r.length ∧ t2.size = x.length + (1 + r.length) := by
  obtain ⟨t1, e1, s1, d1⟩ := cat_step ⟨#[45]⟩ (ofL r)
  obtain ⟨t2, e2, s2, d2⟩ := cat_step (ofL x) t1
  refine ⟨t1, t2, e1, e2, ba_ext ?_, ?_, ?_⟩
  · rw [d2, d1, ofL_data, ofL_data, ofL_data]; simp
  · rw [s1, ofL_size]; rfl
  · rw [s2, s1, ofL_size, ofL_size]; rfl
theorem cat45r (x r : List UInt8) : ∃ t1 t2 : ByteArray, ofL x ++ ⟨#[45]⟩ = t1 ∧ t1 ++ ofL r = t2 ∧ t2 = ofL (x ++ 45 :: r) ∧ t1.size = x.length + 1 ∧ t2.size = x.length + 1 + r.length := by
  obtain ⟨t1, e1, s1, d1⟩ := cat_step (ofL x) ⟨#[45]⟩
  obtain ⟨t2, e2, s2, d2⟩ := cat_step t1 (ofL r)
  refine ⟨t1, t2, e1, e2, ba_ext ?_, ?_, ?_⟩
  · rw [d2, d1, ofL_data, ofL_data, ofL_data]; simp
  · rw [s1, ofL_size]; rfl
  · rw [s2, s1, ofL_size, ofL_size]; rfl

set_option maxRecDepth 100000 in
set_option maxHeartbeats 1000000 in
theorem write_any (v : RpmL) (w : World) (hs : Sz v) :
    Calls Try.prog 39 #[verV v] w fun e w' => e = .returned (.string (ofL (writeL v))) ∧ Below w.heap.size w w' := by
  obtain ⟨l1, l2, l3⟩ := hs
  have q1 := ofL_size v.ep
  have q2 := ofL_size v.ver
  have q3 := ofL_size v.rel
  unfold verV
  have b0 := (Below.refl _ w).alloc (Nat.le_refl _) (.cells #[.string (ofL v.ep), .string (ofL v.ver), .string (ofL v.rel), .bool v.has] 23)
  by_cases he : v.ep = [48]
  · have heb := eq48 v.ep true (by rw [he]; rfl)
    have hH : headL v = v.ver := by unfold headL; rw [if_pos he]
    clear he
    cases hh : v.has
    · have HW : Hid (writeL v = v.ver) := by show _ = _; unfold writeL; rw [hH, hh]; simp
      rw [hh] at b0
      clear hH hh
      go_enter Try.func39, Try.ntmps39
      go_wp2_with fail
      go_ret
      exact ⟨ret_s (by rw [HW.out]), b0⟩
    · have HW : Hid (writeL v = v.ver ++ 45 :: v.rel) := by show _ = _; unfold writeL; rw [hH, hh]; rfl
      obtain ⟨u1, u2, g1, g2, k2, z1, z2⟩ := cat45 v.ver v.rel
      have K2 := hide k2
      rw [hh] at b0
      clear k2 hH hh
      go_enter Try.func39, Try.ntmps39
      go_wp2_with fail
      go_ret
      exact ⟨ret_s (by rw [HW.out, ← K2.out]), b0⟩
  · have heb := eq48 v.ep false (by simpa using he)
    have hH : headL v = v.ep ++ 58 :: v.ver := by unfold headL; rw [if_neg he]
    obtain ⟨t1, t2, e1, e2, f2, s1, s2⟩ := cat58 v.ep v.ver
    clear he
    cases hh : v.has
    · have HW : Hid (writeL v = v.ep ++ 58 :: v.ver) := by show _ = _; unfold writeL; rw [hH, hh]; simp
      have F2 := hide f2
      rw [hh] at b0
      clear f2 hH hh
      go_enter Try.func39, Try.ntmps39
      go_wp2_with fail
      go_ret
      exact ⟨ret_s (by rw [HW.out, ← F2.out]), b0⟩
    · have HW : Hid (writeL v = v.ep ++ 58 :: v.ver ++ 45 :: v.rel) := by show _ = _; unfold writeL; rw [hH, hh]; rfl
      obtain ⟨u1, u2, g1, g2, k2, z1, z2⟩ := cat45 (v.ep ++ 58 :: v.ver) v.rel
      rw [← f2] at g2
      rw [List.length_append, List.length_cons] at z2
      have F2 := hide f2
      have K2 := hide k2
      rw [hh] at b0
      skip
      clear f2 k2 hH hh
      go_enter Try.func39, Try.ntmps39
      go_wp2_with fail
      go_ret
      exact ⟨ret_s (by rw [HW.out, ← K2.out]), b0⟩

set_option maxRecDepth 100000 in
set_option maxHeartbeats 1000000 in
theorem raw_any (v : RpmL) (w : World) (hs : Sz v) :
    Calls Try.prog 41 #[verV v] w fun e w' => e = .returned (.string (ofL (writeL v))) ∧ Below w.heap.size w w' := by
  obtain ⟨l1, l2, l3⟩ := hs
  have q1 := ofL_size v.ep
  have q2 := ofL_size v.ver
  have q3 := ofL_size v.rel
  unfold verV
  have b0 := (Below.refl _ w).alloc (Nat.le_refl _) (.cells #[.string (ofL v.ep), .string (ofL v.ver), .string (ofL v.rel), .bool v.has] 23)
  by_cases he : v.ep = [48]
  · have heb := eq48 v.ep true (by rw [he]; rfl)
    have hH : headL v = v.ver := by unfold headL; rw [if_pos he]
    clear he
    cases hh : v.has
    · have HW : Hid (writeL v = v.ver) := by show _ = _; unfold writeL; rw [hH, hh]; simp
      rw [hh] at b0
      clear hH hh
      go_enter Try.func41, Try.ntmps41
      go_wp2_with fail
      go_ret
      exact ⟨ret_s (by rw [HW.out]), b0⟩
    · have HW : Hid (writeL v = v.ver ++ 45 :: v.rel) := by show _ = _; unfold writeL; rw [hH, hh]; rfl
      obtain ⟨u1, u2, g1, g2, k2, z1, z2⟩ := cat45r v.ver v.rel
      have K2 := hide k2
      rw [hh] at b0
      clear k2 hH hh
      go_enter Try.func41, Try.ntmps41
      go_wp2_with fail
      go_ret
      exact ⟨ret_s (by rw [HW.out, ← K2.out]), b0⟩
  · have heb := eq48 v.ep false (by simpa using he)
    have hH : headL v = v.ep ++ 58 :: v.ver := by unfold headL; rw [if_neg he]
    obtain ⟨t1, t2, e1, e2, f2, s1, s2⟩ := cat58 v.ep v.ver
    clear he
    cases hh : v.has
    · have HW : Hid (writeL v = v.ep ++ 58 :: v.ver) := by show _ = _; unfold writeL; rw [hH, hh]; simp
      have F2 := hide f2
      rw [hh] at b0
      clear f2 hH hh
      go_enter Try.func41, Try.ntmps41
      go_wp2_with fail
      go_ret
      exact ⟨ret_s (by rw [HW.out, ← F2.out]), b0⟩
    · have HW : Hid (writeL v = v.ep ++ 58 :: v.ver ++ 45 :: v.rel) := by show _ = _; unfold writeL; rw [hH, hh]; rfl
      obtain ⟨u1, u2, g1, g2, k2, z1, z2⟩ := cat45r (v.ep ++ 58 :: v.ver) v.rel
      rw [← f2] at g1
      rw [List.length_append, List.length_cons] at z2
      have F2 := hide f2
      have K2 := hide k2
      rw [hh] at b0
      rw [List.length_append, List.length_cons] at z1
      clear f2 k2 hH hh
      go_enter Try.func41, Try.ntmps41
      go_wp2_with fail
      go_ret
      exact ⟨ret_s (by rw [HW.out, ← K2.out]), b0⟩

/-- A version in its box. -/
theorem box_kept {w W : World} {v : RpmL} (hb : Below (w.alloc (.cells #[.string (ofL v.ep), .string (ofL v.ver), .string (ofL v.rel), .bool v.has] 23)).heap.size (w.alloc (.cells #[.string (ofL v.ep), .string (ofL v.ver), .string (ofL v.rel), .bool v.has] 23)) W) : W.heap[w.heap.size]? = some (.cells #[.string (ofL v.ep), .string (ofL v.ver), .string (ofL v.rel), .bool v.has] 23 (0, 0)) :=
  (hb.block w.heap.size (by simp)).trans (World.alloc_heap_new w _)
theorem box_step {w W : World} {o : Obj} (hb : Below (w.alloc o).heap.size (w.alloc o) W) : Below w.heap.size w W := by
  have B0 := (Below.refl _ w).alloc (Nat.le_refl _) o
  exact B0.trans (hb.mono B0.size)
theorem step0 {w W : World} (h : Below w.heap.size w W) (a b : Obj) : Below w.heap.size w ((W.alloc a).alloc b) := by
  have h1 := h.alloc h.size a
  exact h1.alloc h1.size b

set_option maxRecDepth 100000 in
set_option maxHeartbeats 1000000 in
theorem Fit_err (v : RpmL) (x : Int × Nat) (w : World) (hs : Sz v) (hp : parseL (writeL v) = .error x) :
    Calls Try.prog 15 #[verV v] w fun e w' => e = .returned (.bool (fitB v)) ∧ Below w.heap.size w w' := by
  have hP := pres_err hp
  have HF : Hid (fitB v = false) := by show _ = _; unfold fitB; rw [hp]
  have hxb : (x.1 == 0) = false := by simpa using parse_errs hp
  have W1 := fun w => write_any v w hs
  have P1 := fun w => Parse_any (ofL (writeL v)) w
  rw [ofL_data, hP] at P1
  unfold verV at W1
  have W1 := hide W1
  have P1 := hide P1
  unfold verV
  clear hP
  go_enter Try.func15, Try.ntmps15
  go_wp2_with fail
  refine (W1.out _).mono ?_
  rintro e w1 ⟨rfl, b1⟩
  have k1 := box_kept b1
  have B1 := box_step b1
  go_wp2_with fail
  refine (P1.out _).mono ?_
  rintro e w2 ⟨rfl, b2⟩
  have k2 := carry b2 k1
  have hl := (Array.getElem?_eq_some_iff.1 k2).1
  have hl1 : w.heap.size < w2.heap.size + 1 := by omega
  have q0 := cell_at 0 k2 rfl
  have q1 := cell_at 1 k2 rfl
  have q2 := cell_at 2 k2 rfl
  have q3 := cell_at 3 k2 rfl
  have B4 := hide (step0 (step1 B1 b2) (.cells #[.string ⟨#[]⟩, .string ⟨#[]⟩, .string ⟨#[]⟩, .bool false] 23) (.cells #[.int .i64 x.1, .int .i64 (x.2 : Int)] 26))
  clear b1 b2 B1
  go_wp2_with fail
  go_ret
  exact ⟨ret_b (by rw [HF.out]), B4.out⟩

set_option maxRecDepth 100000 in
set_option maxHeartbeats 1000000 in
theorem Fit_a (v : RpmL) (u : RpmL) (w : World) (hs : Sz v) (hp : parseL (writeL v) = .ok u) (h0 : (u.ep == v.ep) = false) :
    Calls Try.prog 15 #[verV v] w fun e w' => e = .returned (.bool (fitB v)) ∧ Below w.heap.size w w' := by
  have hP := pres_ok hp
  have HF : Hid (fitB v = false) := by show _ = _; unfold fitB; rw [hp]; unfold sameB; dsimp only; rw [h0]; simp
  have g0 := eqL _ _ _ h0
  have W1 := fun w => write_any v w hs
  have P1 := fun w => Parse_any (ofL (writeL v)) w
  rw [ofL_data, hP] at P1
  unfold verV at W1
  have W1 := hide W1
  have P1 := hide P1
  unfold verV
  clear hP
  go_enter Try.func15, Try.ntmps15
  go_wp2_with fail
  refine (W1.out _).mono ?_
  rintro e w1 ⟨rfl, b1⟩
  have k1 := box_kept b1
  have B1 := box_step b1
  go_wp2_with fail
  refine (P1.out _).mono ?_
  rintro e w2 ⟨rfl, b2⟩
  have k2 := carry b2 k1
  have hl := (Array.getElem?_eq_some_iff.1 k2).1
  have hl1 : w.heap.size < w2.heap.size + 1 := by omega
  have q0 := cell_at 0 k2 rfl
  have q1 := cell_at 1 k2 rfl
  have q2 := cell_at 2 k2 rfl
  have q3 := cell_at 3 k2 rfl
  have B4 := hide (step0 (step1 B1 b2) (.cells #[.string (ofL u.ep), .string (ofL u.ver), .string (ofL u.rel), .bool u.has] 23) (.cells #[.int .i64 0, .int .i64 0] 26))
  clear b1 b2 B1
  go_wp2_with fail
  go_ret
  exact ⟨ret_b (by rw [HF.out]), B4.out⟩

set_option maxRecDepth 100000 in
set_option maxHeartbeats 1000000 in
theorem Fit_b (v : RpmL) (u : RpmL) (w : World) (hs : Sz v) (hp : parseL (writeL v) = .ok u) (h0 : (u.ep == v.ep) = true) (h1 : (u.ver == v.ver) = false) :
    Calls Try.prog 15 #[verV v] w fun e w' => e = .returned (.bool (fitB v)) ∧ Below w.heap.size w w' := by
  have hP := pres_ok hp
  have HF : Hid (fitB v = false) := by show _ = _; unfold fitB; rw [hp]; unfold sameB; dsimp only; rw [h0, h1]; simp
  have g0 := eqL _ _ _ h0
  have g1 := eqL _ _ _ h1
  have W1 := fun w => write_any v w hs
  have P1 := fun w => Parse_any (ofL (writeL v)) w
  rw [ofL_data, hP] at P1
  unfold verV at W1
  have W1 := hide W1
  have P1 := hide P1
  unfold verV
  clear hP
  go_enter Try.func15, Try.ntmps15
  go_wp2_with fail
  refine (W1.out _).mono ?_
  rintro e w1 ⟨rfl, b1⟩
  have k1 := box_kept b1
  have B1 := box_step b1
  go_wp2_with fail
  refine (P1.out _).mono ?_
  rintro e w2 ⟨rfl, b2⟩
  have k2 := carry b2 k1
  have hl := (Array.getElem?_eq_some_iff.1 k2).1
  have hl1 : w.heap.size < w2.heap.size + 1 := by omega
  have q0 := cell_at 0 k2 rfl
  have q1 := cell_at 1 k2 rfl
  have q2 := cell_at 2 k2 rfl
  have q3 := cell_at 3 k2 rfl
  have B4 := hide (step0 (step1 B1 b2) (.cells #[.string (ofL u.ep), .string (ofL u.ver), .string (ofL u.rel), .bool u.has] 23) (.cells #[.int .i64 0, .int .i64 0] 26))
  clear b1 b2 B1
  go_wp2_with fail
  go_ret
  exact ⟨ret_b (by rw [HF.out]), B4.out⟩

set_option maxRecDepth 100000 in
set_option maxHeartbeats 1000000 in
theorem Fit_c (v : RpmL) (u : RpmL) (w : World) (hs : Sz v) (hp : parseL (writeL v) = .ok u) (h0 : (u.ep == v.ep) = true) (h1 : (u.ver == v.ver) = true) (h2 : (u.rel == v.rel) = false) :
    Calls Try.prog 15 #[verV v] w fun e w' => e = .returned (.bool (fitB v)) ∧ Below w.heap.size w w' := by
  have hP := pres_ok hp
  have HF : Hid (fitB v = false) := by show _ = _; unfold fitB; rw [hp]; unfold sameB; dsimp only; rw [h0, h1, h2]; simp
  have g0 := eqL _ _ _ h0
  have g1 := eqL _ _ _ h1
  have g2 := eqL _ _ _ h2
  have W1 := fun w => write_any v w hs
  have P1 := fun w => Parse_any (ofL (writeL v)) w
  rw [ofL_data, hP] at P1
  unfold verV at W1
  have W1 := hide W1
  have P1 := hide P1
  unfold verV
  clear hP
  go_enter Try.func15, Try.ntmps15
  go_wp2_with fail
  refine (W1.out _).mono ?_
  rintro e w1 ⟨rfl, b1⟩
  have k1 := box_kept b1
  have B1 := box_step b1
  go_wp2_with fail
  refine (P1.out _).mono ?_
  rintro e w2 ⟨rfl, b2⟩
  have k2 := carry b2 k1
  have hl := (Array.getElem?_eq_some_iff.1 k2).1
  have hl1 : w.heap.size < w2.heap.size + 1 := by omega
  have q0 := cell_at 0 k2 rfl
  have q1 := cell_at 1 k2 rfl
  have q2 := cell_at 2 k2 rfl
  have q3 := cell_at 3 k2 rfl
  have B4 := hide (step0 (step1 B1 b2) (.cells #[.string (ofL u.ep), .string (ofL u.ver), .string (ofL u.rel), .bool u.has] 23) (.cells #[.int .i64 0, .int .i64 0] 26))
  clear b1 b2 B1
  go_wp2_with fail
  go_ret
  exact ⟨ret_b (by rw [HF.out]), B4.out⟩

set_option maxRecDepth 100000 in
set_option maxHeartbeats 1000000 in
theorem Fit_d (v : RpmL) (u : RpmL) (w : World) (hs : Sz v) (hp : parseL (writeL v) = .ok u) (h0 : (u.ep == v.ep) = true) (h1 : (u.ver == v.ver) = true) (h2 : (u.rel == v.rel) = true) (h3 : (u.has == v.has) = false) :
    Calls Try.prog 15 #[verV v] w fun e w' => e = .returned (.bool (fitB v)) ∧ Below w.heap.size w w' := by
  have hP := pres_ok hp
  have HF : Hid (fitB v = false) := by show _ = _; unfold fitB; rw [hp]; unfold sameB; dsimp only; rw [h0, h1, h2, h3]; rfl
  have g0 := eqL _ _ _ h0
  have g1 := eqL _ _ _ h1
  have g2 := eqL _ _ _ h2
  have W1 := fun w => write_any v w hs
  have P1 := fun w => Parse_any (ofL (writeL v)) w
  rw [ofL_data, hP] at P1
  unfold verV at W1
  have W1 := hide W1
  have P1 := hide P1
  unfold verV
  clear hP
  go_enter Try.func15, Try.ntmps15
  go_wp2_with fail
  refine (W1.out _).mono ?_
  rintro e w1 ⟨rfl, b1⟩
  have k1 := box_kept b1
  have B1 := box_step b1
  go_wp2_with fail
  refine (P1.out _).mono ?_
  rintro e w2 ⟨rfl, b2⟩
  have k2 := carry b2 k1
  have hl := (Array.getElem?_eq_some_iff.1 k2).1
  have hl1 : w.heap.size < w2.heap.size + 1 := by omega
  have q0 := cell_at 0 k2 rfl
  have q1 := cell_at 1 k2 rfl
  have q2 := cell_at 2 k2 rfl
  have q3 := cell_at 3 k2 rfl
  have B4 := hide (step0 (step1 B1 b2) (.cells #[.string (ofL u.ep), .string (ofL u.ver), .string (ofL u.rel), .bool u.has] 23) (.cells #[.int .i64 0, .int .i64 0] 26))
  clear b1 b2 B1
  go_wp2_with fail
  go_ret
  exact ⟨ret_b (by rw [HF.out]), B4.out⟩

set_option maxRecDepth 100000 in
set_option maxHeartbeats 1000000 in
theorem Fit_e (v : RpmL) (u : RpmL) (w : World) (hs : Sz v) (hp : parseL (writeL v) = .ok u) (h0 : (u.ep == v.ep) = true) (h1 : (u.ver == v.ver) = true) (h2 : (u.rel == v.rel) = true) (h3 : (u.has == v.has) = true) :
    Calls Try.prog 15 #[verV v] w fun e w' => e = .returned (.bool (fitB v)) ∧ Below w.heap.size w w' := by
  have hP := pres_ok hp
  have HF : Hid (fitB v = true) := by show _ = _; unfold fitB; rw [hp]; unfold sameB; dsimp only; rw [h0, h1, h2, h3]; rfl
  have g0 := eqL _ _ _ h0
  have g1 := eqL _ _ _ h1
  have g2 := eqL _ _ _ h2
  have W1 := fun w => write_any v w hs
  have P1 := fun w => Parse_any (ofL (writeL v)) w
  rw [ofL_data, hP] at P1
  unfold verV at W1
  have W1 := hide W1
  have P1 := hide P1
  unfold verV
  clear hP
  go_enter Try.func15, Try.ntmps15
  go_wp2_with fail
  refine (W1.out _).mono ?_
  rintro e w1 ⟨rfl, b1⟩
  have k1 := box_kept b1
  have B1 := box_step b1
  go_wp2_with fail
  refine (P1.out _).mono ?_
  rintro e w2 ⟨rfl, b2⟩
  have k2 := carry b2 k1
  have hl := (Array.getElem?_eq_some_iff.1 k2).1
  have hl1 : w.heap.size < w2.heap.size + 1 := by omega
  have q0 := cell_at 0 k2 rfl
  have q1 := cell_at 1 k2 rfl
  have q2 := cell_at 2 k2 rfl
  have q3 := cell_at 3 k2 rfl
  have B4 := hide (step0 (step1 B1 b2) (.cells #[.string (ofL u.ep), .string (ofL u.ver), .string (ofL u.rel), .bool u.has] 23) (.cells #[.int .i64 0, .int .i64 0] 26))
  clear b1 b2 B1
  go_wp2_with fail
  go_ret
  exact ⟨ret_b (by rw [HF.out]), B4.out⟩

theorem Fit_any (v : RpmL) (w : World) (hs : Sz v) :
    Calls Try.prog 15 #[verV v] w fun e w' => e = .returned (.bool (fitB v)) ∧ Below w.heap.size w w' := by
  cases hp : parseL (writeL v) with
  | error x => exact Fit_err v x w hs hp
  | ok u =>
    cases h0 : (u.ep == v.ep)
    · exact Fit_a v u w hs hp h0
    cases h1 : (u.ver == v.ver)
    · exact Fit_b v u w hs hp h0 h1
    cases h2 : (u.rel == v.rel)
    · exact Fit_c v u w hs hp h0 h1 h2
    cases h3 : (u.has == v.has)
    · exact Fit_d v u w hs hp h0 h1 h2 h3
    · exact Fit_e v u w hs hp h0 h1 h2 h3

set_option maxRecDepth 100000 in
set_option maxHeartbeats 1000000 in
theorem Text_any (v : RpmL) (w : World) (hs : Sz v) :
    Calls Try.prog 17 #[verV v] w fun e w' => e = .returned (.string (ofL (formL v))) ∧ Below w.heap.size w w' := by
  have F1 := fun w => Fit_any v w hs
  have W1 := fun w => write_any v w hs
  have hfo : formL v = if fitB v then writeL v else [] := rfl
  unfold verV at F1 W1 ⊢
  cases hf : fitB v
  · rw [hf] at F1 hfo
    have HO : Hid (formL v = []) := hfo
    have F1 := hide F1
    clear hfo hf W1
    go_enter Try.func17, Try.ntmps17
    go_wp2_with fail
    refine (F1.out _).mono ?_
    rintro e w1 ⟨rfl, b1⟩
    have B1 := box_step b1
    go_wp2_with fail
    go_ret
    exact ⟨ret_s (by rw [HO.out]; rfl), B1⟩
  · rw [hf] at F1 hfo
    have HO : Hid (formL v = writeL v) := hfo
    have F1 := hide F1
    have W1 := hide W1
    clear hfo hf
    go_enter Try.func17, Try.ntmps17
    go_wp2_with fail
    refine (F1.out _).mono ?_
    rintro e w1 ⟨rfl, b1⟩
    have k1 := box_kept b1
    have B1 := box_step b1
    have q0 := cell_at 0 k1 rfl
    have q1 := cell_at 1 k1 rfl
    have q2 := cell_at 2 k1 rfl
    have q3 := cell_at 3 k1 rfl
    go_wp2_with fail
    refine (W1.out _).mono ?_
    rintro e w2 ⟨rfl, b2⟩
    go_wp2_with fail
    go_ret
    exact ⟨ret_s (by rw [HO.out]), step1 B1 b2⟩

end Go.Proofs.Ytmcabgjcppnihaa
