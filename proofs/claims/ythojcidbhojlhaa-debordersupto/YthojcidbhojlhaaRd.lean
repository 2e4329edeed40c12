/-
  Walks: what a relation says.
-/
import Derived.Test.YthojcidbhojlhaaRc
namespace Go.Proofs.Ythojcidbhojlhaa
open Go.RowKit Go.Shelf
set_option linter.unusedVariables false

set_option maxRecDepth 100000 in
set_option maxHeartbeats 2000000 in
theorem Holds_oo0 (s o t : ByteArray) (w : World) (x y : DebL) (h1 : parseL s.data.toList = .ok x) (h2 : parseL t.data.toList = .ok y) (k0 : (o.toList == [60, 60]) = true) :
    Calls Try.prog 22 #[.string s, .string o, .string t] w fun e w' => e = .returned (.bool (holdsL s.data.toList o.data.toList t.data.toList)) ∧ Below w.heap.size w w' := by
  have P1 := fun w => Parse_any s w
  have P2 := fun w => Parse_any t w
  rw [pres_ok h1] at P1
  rw [pres_ok h2] at P2
  have HT : holdsL s.data.toList o.data.toList t.data.toList = opB (ordO x y) o.data.toList := by unfold holdsL; rw [h1, h2]
  have hop : opB (ordO x y) o.data.toList = decide (ordO x y < 0) := by
    unfold opB
    rw [← toL, k0]
    simp
  rw [hop] at HT
  have HT := hide HT
  have OO := fun w => order_any x y w (parse_sh h1) (parse_sh h2)
  unfold verV at OO
  have OO := hide OO
  have P1 := hide P1
  have P2 := hide P2
  generalize holdsL s.data.toList o.data.toList t.data.toList = HB at *
  clear h1 h2 hop
  generalize ordO x y = c at *
  go_enter Try.func22, Try.ntmps22
  go_wp2_with fail
  refine (P1.out _).mono ?_
  rintro e w1 ⟨rfl, b1⟩
  go_wp2_with fail
  refine (P2.out _).mono ?_
  rintro e w2 ⟨rfl, b2⟩
  obtain ⟨eA, eF⟩ := lies23 b2
  have hl1 := (Array.getElem?_eq_some_iff.1 eA).1
  have hl2 := (Array.getElem?_eq_some_iff.1 eF).1
  have hl3 : w1.heap.size < w2.heap.size + 1 := by omega
  have hl4 : w1.heap.size + 1 < w2.heap.size + 1 := by omega
  have q0 := cell_at 0 eA rfl
  have q1 := cell_at 1 eA rfl
  have q2 := cell_at 2 eA rfl
  have p0 := cell_at 0 eF rfl
  have p1 := cell_at 1 eF rfl
  have B2 := step1 (stepA (stepA b1 (.cells #[.string (ofL x.ep), .string (ofL x.up), .string (ofL x.rev)] 23)) (.cells #[.int .i64 0, .int .i64 0] 26)) b2
  have B4 := hide (stepA (stepA B2 (.cells #[.string (ofL y.ep), .string (ofL y.up), .string (ofL y.rev)] 23)) (.cells #[.int .i64 0, .int .i64 0] 26))
  clear b1 b2 B2
  go_wp2_with fail
  refine (OO.out _).mono ?_
  rintro e w3 ⟨rfl, b3⟩
  go_wp2_with fail
  go_ret
  exact ⟨ret_b (by rw [HT.out] <;> first | rfl | simp), step1 B4.out b3⟩

set_option maxRecDepth 100000 in
set_option maxHeartbeats 2000000 in
theorem Holds_oo1 (s o t : ByteArray) (w : World) (x y : DebL) (h1 : parseL s.data.toList = .ok x) (h2 : parseL t.data.toList = .ok y) (k0 : (o.toList == [60, 60]) = false) (k1 : (o.toList == [60, 61]) = true) :
    Calls Try.prog 22 #[.string s, .string o, .string t] w fun e w' => e = .returned (.bool (holdsL s.data.toList o.data.toList t.data.toList)) ∧ Below w.heap.size w w' := by
  have P1 := fun w => Parse_any s w
  have P2 := fun w => Parse_any t w
  rw [pres_ok h1] at P1
  rw [pres_ok h2] at P2
  have HT : holdsL s.data.toList o.data.toList t.data.toList = opB (ordO x y) o.data.toList := by unfold holdsL; rw [h1, h2]
  have hop : opB (ordO x y) o.data.toList = decide (ordO x y ≤ 0) := by
    unfold opB
    rw [← toL, k0, k1]
    simp
  rw [hop] at HT
  have HT := hide HT
  have OO := fun w => order_any x y w (parse_sh h1) (parse_sh h2)
  unfold verV at OO
  have OO := hide OO
  have P1 := hide P1
  have P2 := hide P2
  generalize holdsL s.data.toList o.data.toList t.data.toList = HB at *
  clear h1 h2 hop
  generalize ordO x y = c at *
  go_enter Try.func22, Try.ntmps22
  go_wp2_with fail
  refine (P1.out _).mono ?_
  rintro e w1 ⟨rfl, b1⟩
  go_wp2_with fail
  refine (P2.out _).mono ?_
  rintro e w2 ⟨rfl, b2⟩
  obtain ⟨eA, eF⟩ := lies23 b2
  have hl1 := (Array.getElem?_eq_some_iff.1 eA).1
  have hl2 := (Array.getElem?_eq_some_iff.1 eF).1
  have hl3 : w1.heap.size < w2.heap.size + 1 := by omega
  have hl4 : w1.heap.size + 1 < w2.heap.size + 1 := by omega
  have q0 := cell_at 0 eA rfl
  have q1 := cell_at 1 eA rfl
  have q2 := cell_at 2 eA rfl
  have p0 := cell_at 0 eF rfl
  have p1 := cell_at 1 eF rfl
  have B2 := step1 (stepA (stepA b1 (.cells #[.string (ofL x.ep), .string (ofL x.up), .string (ofL x.rev)] 23)) (.cells #[.int .i64 0, .int .i64 0] 26)) b2
  have B4 := hide (stepA (stepA B2 (.cells #[.string (ofL y.ep), .string (ofL y.up), .string (ofL y.rev)] 23)) (.cells #[.int .i64 0, .int .i64 0] 26))
  clear b1 b2 B2
  go_wp2_with fail
  refine (OO.out _).mono ?_
  rintro e w3 ⟨rfl, b3⟩
  go_wp2_with fail
  go_ret
  exact ⟨ret_b (by rw [HT.out] <;> first | rfl | simp), step1 B4.out b3⟩

set_option maxRecDepth 100000 in
set_option maxHeartbeats 2000000 in
theorem Holds_oo2 (s o t : ByteArray) (w : World) (x y : DebL) (h1 : parseL s.data.toList = .ok x) (h2 : parseL t.data.toList = .ok y) (k0 : (o.toList == [60, 60]) = false) (k1 : (o.toList == [60, 61]) = false) (k2 : (o.toList == [61]) = true) :
    Calls Try.prog 22 #[.string s, .string o, .string t] w fun e w' => e = .returned (.bool (holdsL s.data.toList o.data.toList t.data.toList)) ∧ Below w.heap.size w w' := by
  have P1 := fun w => Parse_any s w
  have P2 := fun w => Parse_any t w
  rw [pres_ok h1] at P1
  rw [pres_ok h2] at P2
  have HT : holdsL s.data.toList o.data.toList t.data.toList = opB (ordO x y) o.data.toList := by unfold holdsL; rw [h1, h2]
  have hop : opB (ordO x y) o.data.toList = decide (ordO x y = 0) := by
    unfold opB
    rw [← toL, k0, k1, k2]
    simp
  rw [hop] at HT
  have HT := hide HT
  have OO := fun w => order_any x y w (parse_sh h1) (parse_sh h2)
  unfold verV at OO
  have OO := hide OO
  have P1 := hide P1
  have P2 := hide P2
  generalize holdsL s.data.toList o.data.toList t.data.toList = HB at *
  clear h1 h2 hop
  generalize ordO x y = c at *
  go_enter Try.func22, Try.ntmps22
  go_wp2_with fail
  refine (P1.out _).mono ?_
  rintro e w1 ⟨rfl, b1⟩
  go_wp2_with fail
  refine (P2.out _).mono ?_
  rintro e w2 ⟨rfl, b2⟩
  obtain ⟨eA, eF⟩ := lies23 b2
  have hl1 := (Array.getElem?_eq_some_iff.1 eA).1
  have hl2 := (Array.getElem?_eq_some_iff.1 eF).1
  have hl3 : w1.heap.size < w2.heap.size + 1 := by omega
  have hl4 : w1.heap.size + 1 < w2.heap.size + 1 := by omega
  have q0 := cell_at 0 eA rfl
  have q1 := cell_at 1 eA rfl
  have q2 := cell_at 2 eA rfl
  have p0 := cell_at 0 eF rfl
  have p1 := cell_at 1 eF rfl
  have B2 := step1 (stepA (stepA b1 (.cells #[.string (ofL x.ep), .string (ofL x.up), .string (ofL x.rev)] 23)) (.cells #[.int .i64 0, .int .i64 0] 26)) b2
  have B4 := hide (stepA (stepA B2 (.cells #[.string (ofL y.ep), .string (ofL y.up), .string (ofL y.rev)] 23)) (.cells #[.int .i64 0, .int .i64 0] 26))
  clear b1 b2 B2
  go_wp2_with fail
  refine (OO.out _).mono ?_
  rintro e w3 ⟨rfl, b3⟩
  go_wp2_with fail
  go_ret
  exact ⟨ret_b (by rw [HT.out] <;> first | rfl | simp), step1 B4.out b3⟩

set_option maxRecDepth 100000 in
set_option maxHeartbeats 2000000 in
theorem Holds_oo3 (s o t : ByteArray) (w : World) (x y : DebL) (h1 : parseL s.data.toList = .ok x) (h2 : parseL t.data.toList = .ok y) (k0 : (o.toList == [60, 60]) = false) (k1 : (o.toList == [60, 61]) = false) (k2 : (o.toList == [61]) = false) (k3 : (o.toList == [62, 61]) = true) :
    Calls Try.prog 22 #[.string s, .string o, .string t] w fun e w' => e = .returned (.bool (holdsL s.data.toList o.data.toList t.data.toList)) ∧ Below w.heap.size w w' := by
  have P1 := fun w => Parse_any s w
  have P2 := fun w => Parse_any t w
  rw [pres_ok h1] at P1
  rw [pres_ok h2] at P2
  have HT : holdsL s.data.toList o.data.toList t.data.toList = opB (ordO x y) o.data.toList := by unfold holdsL; rw [h1, h2]
  have hop : opB (ordO x y) o.data.toList = decide (0 ≤ ordO x y) := by
    unfold opB
    rw [← toL, k0, k1, k2, k3]
    simp
  rw [hop] at HT
  have HT := hide HT
  have OO := fun w => order_any x y w (parse_sh h1) (parse_sh h2)
  unfold verV at OO
  have OO := hide OO
  have P1 := hide P1
  have P2 := hide P2
  generalize holdsL s.data.toList o.data.toList t.data.toList = HB at *
  clear h1 h2 hop
  generalize ordO x y = c at *
  go_enter Try.func22, Try.ntmps22
  go_wp2_with fail
  refine (P1.out _).mono ?_
  rintro e w1 ⟨rfl, b1⟩
  go_wp2_with fail
  refine (P2.out _).mono ?_
  rintro e w2 ⟨rfl, b2⟩
  obtain ⟨eA, eF⟩ := lies23 b2
  have hl1 := (Array.getElem?_eq_some_iff.1 eA).1
  have hl2 := (Array.getElem?_eq_some_iff.1 eF).1
  have hl3 : w1.heap.size < w2.heap.size + 1 := by omega
  have hl4 : w1.heap.size + 1 < w2.heap.size + 1 := by omega
  have q0 := cell_at 0 eA rfl
  have q1 := cell_at 1 eA rfl
  have q2 := cell_at 2 eA rfl
  have p0 := cell_at 0 eF rfl
  have p1 := cell_at 1 eF rfl
  have B2 := step1 (stepA (stepA b1 (.cells #[.string (ofL x.ep), .string (ofL x.up), .string (ofL x.rev)] 23)) (.cells #[.int .i64 0, .int .i64 0] 26)) b2
  have B4 := hide (stepA (stepA B2 (.cells #[.string (ofL y.ep), .string (ofL y.up), .string (ofL y.rev)] 23)) (.cells #[.int .i64 0, .int .i64 0] 26))
  clear b1 b2 B2
  go_wp2_with fail
  refine (OO.out _).mono ?_
  rintro e w3 ⟨rfl, b3⟩
  go_wp2_with fail
  go_ret
  exact ⟨ret_b (by rw [HT.out] <;> first | rfl | simp), step1 B4.out b3⟩

set_option maxRecDepth 100000 in
set_option maxHeartbeats 2000000 in
theorem Holds_oo4 (s o t : ByteArray) (w : World) (x y : DebL) (h1 : parseL s.data.toList = .ok x) (h2 : parseL t.data.toList = .ok y) (k0 : (o.toList == [60, 60]) = false) (k1 : (o.toList == [60, 61]) = false) (k2 : (o.toList == [61]) = false) (k3 : (o.toList == [62, 61]) = false) (k4 : (o.toList == [62, 62]) = true) :
    Calls Try.prog 22 #[.string s, .string o, .string t] w fun e w' => e = .returned (.bool (holdsL s.data.toList o.data.toList t.data.toList)) ∧ Below w.heap.size w w' := by
  have P1 := fun w => Parse_any s w
  have P2 := fun w => Parse_any t w
  rw [pres_ok h1] at P1
  rw [pres_ok h2] at P2
  have HT : holdsL s.data.toList o.data.toList t.data.toList = opB (ordO x y) o.data.toList := by unfold holdsL; rw [h1, h2]
  have hop : opB (ordO x y) o.data.toList = decide (0 < ordO x y) := by
    unfold opB
    rw [← toL, k0, k1, k2, k3, k4]
    simp
  rw [hop] at HT
  have HT := hide HT
  have OO := fun w => order_any x y w (parse_sh h1) (parse_sh h2)
  unfold verV at OO
  have OO := hide OO
  have P1 := hide P1
  have P2 := hide P2
  generalize holdsL s.data.toList o.data.toList t.data.toList = HB at *
  clear h1 h2 hop
  generalize ordO x y = c at *
  go_enter Try.func22, Try.ntmps22
  go_wp2_with fail
  refine (P1.out _).mono ?_
  rintro e w1 ⟨rfl, b1⟩
  go_wp2_with fail
  refine (P2.out _).mono ?_
  rintro e w2 ⟨rfl, b2⟩
  obtain ⟨eA, eF⟩ := lies23 b2
  have hl1 := (Array.getElem?_eq_some_iff.1 eA).1
  have hl2 := (Array.getElem?_eq_some_iff.1 eF).1
  have hl3 : w1.heap.size < w2.heap.size + 1 := by omega
  have hl4 : w1.heap.size + 1 < w2.heap.size + 1 := by omega
  have q0 := cell_at 0 eA rfl
  have q1 := cell_at 1 eA rfl
  have q2 := cell_at 2 eA rfl
  have p0 := cell_at 0 eF rfl
  have p1 := cell_at 1 eF rfl
  have B2 := step1 (stepA (stepA b1 (.cells #[.string (ofL x.ep), .string (ofL x.up), .string (ofL x.rev)] 23)) (.cells #[.int .i64 0, .int .i64 0] 26)) b2
  have B4 := hide (stepA (stepA B2 (.cells #[.string (ofL y.ep), .string (ofL y.up), .string (ofL y.rev)] 23)) (.cells #[.int .i64 0, .int .i64 0] 26))
  clear b1 b2 B2
  go_wp2_with fail
  refine (OO.out _).mono ?_
  rintro e w3 ⟨rfl, b3⟩
  go_wp2_with fail
  go_ret
  exact ⟨ret_b (by rw [HT.out] <;> first | rfl | simp), step1 B4.out b3⟩

set_option maxRecDepth 100000 in
set_option maxHeartbeats 2000000 in
theorem Holds_oo5 (s o t : ByteArray) (w : World) (x y : DebL) (h1 : parseL s.data.toList = .ok x) (h2 : parseL t.data.toList = .ok y) (k0 : (o.toList == [60, 60]) = false) (k1 : (o.toList == [60, 61]) = false) (k2 : (o.toList == [61]) = false) (k3 : (o.toList == [62, 61]) = false) (k4 : (o.toList == [62, 62]) = false) :
    Calls Try.prog 22 #[.string s, .string o, .string t] w fun e w' => e = .returned (.bool (holdsL s.data.toList o.data.toList t.data.toList)) ∧ Below w.heap.size w w' := by
  have P1 := fun w => Parse_any s w
  have P2 := fun w => Parse_any t w
  rw [pres_ok h1] at P1
  rw [pres_ok h2] at P2
  have HT : holdsL s.data.toList o.data.toList t.data.toList = opB (ordO x y) o.data.toList := by unfold holdsL; rw [h1, h2]
  have hop : opB (ordO x y) o.data.toList = false := by
    unfold opB
    rw [← toL, k0, k1, k2, k3, k4]
    simp
  rw [hop] at HT
  have HT := hide HT
  have OO := fun w => order_any x y w (parse_sh h1) (parse_sh h2)
  unfold verV at OO
  have OO := hide OO
  have P1 := hide P1
  have P2 := hide P2
  generalize holdsL s.data.toList o.data.toList t.data.toList = HB at *
  clear h1 h2 hop
  generalize ordO x y = c at *
  go_enter Try.func22, Try.ntmps22
  go_wp2_with fail
  refine (P1.out _).mono ?_
  rintro e w1 ⟨rfl, b1⟩
  go_wp2_with fail
  refine (P2.out _).mono ?_
  rintro e w2 ⟨rfl, b2⟩
  obtain ⟨eA, eF⟩ := lies23 b2
  have hl1 := (Array.getElem?_eq_some_iff.1 eA).1
  have hl2 := (Array.getElem?_eq_some_iff.1 eF).1
  have hl3 : w1.heap.size < w2.heap.size + 1 := by omega
  have hl4 : w1.heap.size + 1 < w2.heap.size + 1 := by omega
  have q0 := cell_at 0 eA rfl
  have q1 := cell_at 1 eA rfl
  have q2 := cell_at 2 eA rfl
  have p0 := cell_at 0 eF rfl
  have p1 := cell_at 1 eF rfl
  have B2 := step1 (stepA (stepA b1 (.cells #[.string (ofL x.ep), .string (ofL x.up), .string (ofL x.rev)] 23)) (.cells #[.int .i64 0, .int .i64 0] 26)) b2
  have B4 := hide (stepA (stepA B2 (.cells #[.string (ofL y.ep), .string (ofL y.up), .string (ofL y.rev)] 23)) (.cells #[.int .i64 0, .int .i64 0] 26))
  clear b1 b2 B2
  go_wp2_with fail
  refine (OO.out _).mono ?_
  rintro e w3 ⟨rfl, b3⟩
  go_wp2_with fail
  go_ret
  exact ⟨ret_b (by rw [HT.out] <;> first | rfl | simp), step1 B4.out b3⟩

set_option maxRecDepth 100000 in
set_option maxHeartbeats 2000000 in
theorem Holds_oe (s o t : ByteArray) (w : World) (x : DebL) (h1 : parseL s.data.toList = .ok x) (y : Int × Nat) (h2 : parseL t.data.toList = .error y) :
    Calls Try.prog 22 #[.string s, .string o, .string t] w fun e w' => e = .returned (.bool (holdsL s.data.toList o.data.toList t.data.toList)) ∧ Below w.heap.size w w' := by
  have P1 := fun w => Parse_any s w
  have P2 := fun w => Parse_any t w
  rw [pres_ok h1] at P1
  rw [pres_err h2] at P2
  have HT : Hid (holdsL s.data.toList o.data.toList t.data.toList = false) := by show _ = _; unfold holdsL; rw [h1, h2]
  have hyb : (y.1 != 0) = true := by simpa using parse_errs h2
  have P1 := hide P1
  have P2 := hide P2
  clear h1 h2
  go_enter Try.func22, Try.ntmps22
  go_wp2_with fail
  refine (P1.out _).mono ?_
  rintro e w1 ⟨rfl, b1⟩
  go_wp2_with fail
  refine (P2.out _).mono ?_
  rintro e w2 ⟨rfl, b2⟩
  obtain ⟨eA, eF⟩ := lies23 b2
  have hl1 := (Array.getElem?_eq_some_iff.1 eA).1
  have hl2 := (Array.getElem?_eq_some_iff.1 eF).1
  have hl3 : w1.heap.size < w2.heap.size + 1 := by omega
  have hl4 : w1.heap.size + 1 < w2.heap.size + 1 := by omega
  have q0 := cell_at 0 eA rfl
  have q1 := cell_at 1 eA rfl
  have q2 := cell_at 2 eA rfl
  have p0 := cell_at 0 eF rfl
  have p1 := cell_at 1 eF rfl
  have B2 := step1 (stepA (stepA b1 (.cells #[.string (ofL x.ep), .string (ofL x.up), .string (ofL x.rev)] 23)) (.cells #[.int .i64 0, .int .i64 0] 26)) b2
  have B4 := hide (stepA (stepA B2 (.cells #[.string ⟨#[]⟩, .string ⟨#[]⟩, .string ⟨#[]⟩] 23)) (.cells #[.int .i64 y.1, .int .i64 (y.2 : Int)] 26))
  clear b1 b2 B2
  go_wp2_with fail
  go_ret
  exact ⟨ret_b (by rw [HT.out]), B4.out⟩

set_option maxRecDepth 100000 in
set_option maxHeartbeats 2000000 in
theorem Holds_eo (s o t : ByteArray) (w : World) (x : Int × Nat) (h1 : parseL s.data.toList = .error x) (y : DebL) (h2 : parseL t.data.toList = .ok y) :
    Calls Try.prog 22 #[.string s, .string o, .string t] w fun e w' => e = .returned (.bool (holdsL s.data.toList o.data.toList t.data.toList)) ∧ Below w.heap.size w w' := by
  have P1 := fun w => Parse_any s w
  have P2 := fun w => Parse_any t w
  rw [pres_err h1] at P1
  rw [pres_ok h2] at P2
  have HT : Hid (holdsL s.data.toList o.data.toList t.data.toList = false) := by show _ = _; unfold holdsL; rw [h1, h2]
  have hxb : (x.1 != 0) = true := by simpa using parse_errs h1
  have P1 := hide P1
  have P2 := hide P2
  clear h1 h2
  go_enter Try.func22, Try.ntmps22
  go_wp2_with fail
  refine (P1.out _).mono ?_
  rintro e w1 ⟨rfl, b1⟩
  go_wp2_with fail
  refine (P2.out _).mono ?_
  rintro e w2 ⟨rfl, b2⟩
  obtain ⟨eA, eF⟩ := lies23 b2
  have hl1 := (Array.getElem?_eq_some_iff.1 eA).1
  have hl2 := (Array.getElem?_eq_some_iff.1 eF).1
  have hl3 : w1.heap.size < w2.heap.size + 1 := by omega
  have hl4 : w1.heap.size + 1 < w2.heap.size + 1 := by omega
  have q0 := cell_at 0 eA rfl
  have q1 := cell_at 1 eA rfl
  have q2 := cell_at 2 eA rfl
  have p0 := cell_at 0 eF rfl
  have p1 := cell_at 1 eF rfl
  have B2 := step1 (stepA (stepA b1 (.cells #[.string ⟨#[]⟩, .string ⟨#[]⟩, .string ⟨#[]⟩] 23)) (.cells #[.int .i64 x.1, .int .i64 (x.2 : Int)] 26)) b2
  have B4 := hide (stepA (stepA B2 (.cells #[.string (ofL y.ep), .string (ofL y.up), .string (ofL y.rev)] 23)) (.cells #[.int .i64 0, .int .i64 0] 26))
  clear b1 b2 B2
  go_wp2_with fail
  go_ret
  exact ⟨ret_b (by rw [HT.out]), B4.out⟩

set_option maxRecDepth 100000 in
set_option maxHeartbeats 2000000 in
theorem Holds_ee (s o t : ByteArray) (w : World) (x : Int × Nat) (h1 : parseL s.data.toList = .error x) (y : Int × Nat) (h2 : parseL t.data.toList = .error y) :
    Calls Try.prog 22 #[.string s, .string o, .string t] w fun e w' => e = .returned (.bool (holdsL s.data.toList o.data.toList t.data.toList)) ∧ Below w.heap.size w w' := by
  have P1 := fun w => Parse_any s w
  have P2 := fun w => Parse_any t w
  rw [pres_err h1] at P1
  rw [pres_err h2] at P2
  have HT : Hid (holdsL s.data.toList o.data.toList t.data.toList = false) := by show _ = _; unfold holdsL; rw [h1, h2]
  have hxb : (x.1 != 0) = true := by simpa using parse_errs h1
  have hyb : (y.1 != 0) = true := by simpa using parse_errs h2
  have P1 := hide P1
  have P2 := hide P2
  clear h1 h2
  go_enter Try.func22, Try.ntmps22
  go_wp2_with fail
  refine (P1.out _).mono ?_
  rintro e w1 ⟨rfl, b1⟩
  go_wp2_with fail
  refine (P2.out _).mono ?_
  rintro e w2 ⟨rfl, b2⟩
  obtain ⟨eA, eF⟩ := lies23 b2
  have hl1 := (Array.getElem?_eq_some_iff.1 eA).1
  have hl2 := (Array.getElem?_eq_some_iff.1 eF).1
  have hl3 : w1.heap.size < w2.heap.size + 1 := by omega
  have hl4 : w1.heap.size + 1 < w2.heap.size + 1 := by omega
  have q0 := cell_at 0 eA rfl
  have q1 := cell_at 1 eA rfl
  have q2 := cell_at 2 eA rfl
  have p0 := cell_at 0 eF rfl
  have p1 := cell_at 1 eF rfl
  have B2 := step1 (stepA (stepA b1 (.cells #[.string ⟨#[]⟩, .string ⟨#[]⟩, .string ⟨#[]⟩] 23)) (.cells #[.int .i64 x.1, .int .i64 (x.2 : Int)] 26)) b2
  have B4 := hide (stepA (stepA B2 (.cells #[.string ⟨#[]⟩, .string ⟨#[]⟩, .string ⟨#[]⟩] 23)) (.cells #[.int .i64 y.1, .int .i64 (y.2 : Int)] 26))
  clear b1 b2 B2
  go_wp2_with fail
  go_ret
  exact ⟨ret_b (by rw [HT.out]), B4.out⟩

theorem Holds_any (s o t : ByteArray) (w : World) :
    Calls Try.prog 22 #[.string s, .string o, .string t] w fun e w' => e = .returned (.bool (holdsL s.data.toList o.data.toList t.data.toList)) ∧ Below w.heap.size w w' := by
  cases h1 : parseL s.data.toList with
  | error x =>
    cases h2 : parseL t.data.toList with
    | error y => exact Holds_ee s o t w x h1 y h2
    | ok y => exact Holds_eo s o t w x h1 y h2
  | ok x =>
    cases h2 : parseL t.data.toList with
    | error y => exact Holds_oe s o t w x h1 y h2
    | ok y =>
      cases k0 : (o.toList == [60, 60])
      · cases k1 : (o.toList == [60, 61])
        · cases k2 : (o.toList == [61])
          · cases k3 : (o.toList == [62, 61])
            · cases k4 : (o.toList == [62, 62])
              · exact Holds_oo5 s o t w x y h1 h2 k0 k1 k2 k3 k4
              · exact Holds_oo4 s o t w x y h1 h2 k0 k1 k2 k3 k4
            · exact Holds_oo3 s o t w x y h1 h2 k0 k1 k2 k3
          · exact Holds_oo2 s o t w x y h1 h2 k0 k1 k2
        · exact Holds_oo1 s o t w x y h1 h2 k0 k1
      · exact Holds_oo0 s o t w x y h1 h2 k0

set_option maxRecDepth 100000 in
set_option maxHeartbeats 2000000 in
theorem RHolds_oo0 (s o t : ByteArray) (w : World) (x y : DebL) (h1 : parseL s.data.toList = .ok x) (h2 : parseL t.data.toList = .ok y) (k0 : (o.toList == [60, 60]) = true) :
    Calls Try.prog 23 #[.string s, .string o, .string t] w fun e w' => e = .returned (.bool (holdsL s.data.toList o.data.toList t.data.toList)) ∧ Below w.heap.size w w' := by
  have P1 := fun w => Rparse_any s w
  have P2 := fun w => Rparse_any t w
  rw [dres_ok h1] at P1
  rw [dres_ok h2] at P2
  have HT : holdsL s.data.toList o.data.toList t.data.toList = opB (ordO x y) o.data.toList := by unfold holdsL; rw [h1, h2]
  have hop : opB (ordO x y) o.data.toList = decide (ordO x y < 0) := by
    unfold opB
    rw [← toL, k0]
    simp
  rw [hop] at HT
  have HT := hide HT
  have OO := fun w => RCompare_any s t w
  rw [show cmpT s.data.toList t.data.toList = ordO x y by unfold cmpT; rw [h1, h2]] at OO
  have OO := hide OO
  have P1 := hide P1
  have P2 := hide P2
  generalize holdsL s.data.toList o.data.toList t.data.toList = HB at *
  clear h1 h2 hop
  generalize ordO x y = c at *
  go_enter Try.func23, Try.ntmps23
  go_wp2_with fail
  refine (P1.out _).mono ?_
  rintro e w1 ⟨rfl, b1⟩
  go_wp2_with fail
  refine (P2.out _).mono ?_
  rintro e w2 ⟨rfl, b2⟩
  have B2 := step1 (stepA b1 (.cells #[.string (ofL x.ep), .string (ofL x.up), .string (ofL x.rev)] 23)) b2
  have B4 := hide (stepA B2 (.cells #[.string (ofL y.ep), .string (ofL y.up), .string (ofL y.rev)] 23))
  clear b1 b2 B2
  go_wp2_with fail
  refine (OO.out _).mono ?_
  rintro e w3 ⟨rfl, b3⟩
  go_wp2_with fail
  go_ret
  exact ⟨ret_b (by rw [HT.out] <;> first | rfl | simp), step1 B4.out b3⟩

set_option maxRecDepth 100000 in
set_option maxHeartbeats 2000000 in
theorem RHolds_oo1 (s o t : ByteArray) (w : World) (x y : DebL) (h1 : parseL s.data.toList = .ok x) (h2 : parseL t.data.toList = .ok y) (k0 : (o.toList == [60, 60]) = false) (k1 : (o.toList == [60, 61]) = true) :
    Calls Try.prog 23 #[.string s, .string o, .string t] w fun e w' => e = .returned (.bool (holdsL s.data.toList o.data.toList t.data.toList)) ∧ Below w.heap.size w w' := by
  have P1 := fun w => Rparse_any s w
  have P2 := fun w => Rparse_any t w
  rw [dres_ok h1] at P1
  rw [dres_ok h2] at P2
  have HT : holdsL s.data.toList o.data.toList t.data.toList = opB (ordO x y) o.data.toList := by unfold holdsL; rw [h1, h2]
  have hop : opB (ordO x y) o.data.toList = decide (ordO x y ≤ 0) := by
    unfold opB
    rw [← toL, k0, k1]
    simp
  rw [hop] at HT
  have HT := hide HT
  have OO := fun w => RCompare_any s t w
  rw [show cmpT s.data.toList t.data.toList = ordO x y by unfold cmpT; rw [h1, h2]] at OO
  have OO := hide OO
  have P1 := hide P1
  have P2 := hide P2
  generalize holdsL s.data.toList o.data.toList t.data.toList = HB at *
  clear h1 h2 hop
  generalize ordO x y = c at *
  go_enter Try.func23, Try.ntmps23
  go_wp2_with fail
  refine (P1.out _).mono ?_
  rintro e w1 ⟨rfl, b1⟩
  go_wp2_with fail
  refine (P2.out _).mono ?_
  rintro e w2 ⟨rfl, b2⟩
  have B2 := step1 (stepA b1 (.cells #[.string (ofL x.ep), .string (ofL x.up), .string (ofL x.rev)] 23)) b2
  have B4 := hide (stepA B2 (.cells #[.string (ofL y.ep), .string (ofL y.up), .string (ofL y.rev)] 23))
  clear b1 b2 B2
  go_wp2_with fail
  refine (OO.out _).mono ?_
  rintro e w3 ⟨rfl, b3⟩
  go_wp2_with fail
  go_ret
  exact ⟨ret_b (by rw [HT.out] <;> first | rfl | simp), step1 B4.out b3⟩

set_option maxRecDepth 100000 in
set_option maxHeartbeats 2000000 in
theorem RHolds_oo2 (s o t : ByteArray) (w : World) (x y : DebL) (h1 : parseL s.data.toList = .ok x) (h2 : parseL t.data.toList = .ok y) (k0 : (o.toList == [60, 60]) = false) (k1 : (o.toList == [60, 61]) = false) (k2 : (o.toList == [61]) = true) :
    Calls Try.prog 23 #[.string s, .string o, .string t] w fun e w' => e = .returned (.bool (holdsL s.data.toList o.data.toList t.data.toList)) ∧ Below w.heap.size w w' := by
  have P1 := fun w => Rparse_any s w
  have P2 := fun w => Rparse_any t w
  rw [dres_ok h1] at P1
  rw [dres_ok h2] at P2
  have HT : holdsL s.data.toList o.data.toList t.data.toList = opB (ordO x y) o.data.toList := by unfold holdsL; rw [h1, h2]
  have hop : opB (ordO x y) o.data.toList = decide (ordO x y = 0) := by
    unfold opB
    rw [← toL, k0, k1, k2]
    simp
  rw [hop] at HT
  have HT := hide HT
  have OO := fun w => RCompare_any s t w
  rw [show cmpT s.data.toList t.data.toList = ordO x y by unfold cmpT; rw [h1, h2]] at OO
  have OO := hide OO
  have P1 := hide P1
  have P2 := hide P2
  generalize holdsL s.data.toList o.data.toList t.data.toList = HB at *
  clear h1 h2 hop
  generalize ordO x y = c at *
  go_enter Try.func23, Try.ntmps23
  go_wp2_with fail
  refine (P1.out _).mono ?_
  rintro e w1 ⟨rfl, b1⟩
  go_wp2_with fail
  refine (P2.out _).mono ?_
  rintro e w2 ⟨rfl, b2⟩
  have B2 := step1 (stepA b1 (.cells #[.string (ofL x.ep), .string (ofL x.up), .string (ofL x.rev)] 23)) b2
  have B4 := hide (stepA B2 (.cells #[.string (ofL y.ep), .string (ofL y.up), .string (ofL y.rev)] 23))
  clear b1 b2 B2
  go_wp2_with fail
  refine (OO.out _).mono ?_
  rintro e w3 ⟨rfl, b3⟩
  go_wp2_with fail
  go_ret
  exact ⟨ret_b (by rw [HT.out] <;> first | rfl | simp), step1 B4.out b3⟩

set_option maxRecDepth 100000 in
set_option maxHeartbeats 2000000 in
theorem RHolds_oo3 (s o t : ByteArray) (w : World) (x y : DebL) (h1 : parseL s.data.toList = .ok x) (h2 : parseL t.data.toList = .ok y) (k0 : (o.toList == [60, 60]) = false) (k1 : (o.toList == [60, 61]) = false) (k2 : (o.toList == [61]) = false) (k3 : (o.toList == [62, 61]) = true) :
    Calls Try.prog 23 #[.string s, .string o, .string t] w fun e w' => e = .returned (.bool (holdsL s.data.toList o.data.toList t.data.toList)) ∧ Below w.heap.size w w' := by
  have P1 := fun w => Rparse_any s w
  have P2 := fun w => Rparse_any t w
  rw [dres_ok h1] at P1
  rw [dres_ok h2] at P2
  have HT : holdsL s.data.toList o.data.toList t.data.toList = opB (ordO x y) o.data.toList := by unfold holdsL; rw [h1, h2]
  have hop : opB (ordO x y) o.data.toList = decide (0 ≤ ordO x y) := by
    unfold opB
    rw [← toL, k0, k1, k2, k3]
    simp
  rw [hop] at HT
  have HT := hide HT
  have OO := fun w => RCompare_any s t w
  rw [show cmpT s.data.toList t.data.toList = ordO x y by unfold cmpT; rw [h1, h2]] at OO
  have OO := hide OO
  have P1 := hide P1
  have P2 := hide P2
  generalize holdsL s.data.toList o.data.toList t.data.toList = HB at *
  clear h1 h2 hop
  generalize ordO x y = c at *
  go_enter Try.func23, Try.ntmps23
  go_wp2_with fail
  refine (P1.out _).mono ?_
  rintro e w1 ⟨rfl, b1⟩
  go_wp2_with fail
  refine (P2.out _).mono ?_
  rintro e w2 ⟨rfl, b2⟩
  have B2 := step1 (stepA b1 (.cells #[.string (ofL x.ep), .string (ofL x.up), .string (ofL x.rev)] 23)) b2
  have B4 := hide (stepA B2 (.cells #[.string (ofL y.ep), .string (ofL y.up), .string (ofL y.rev)] 23))
  clear b1 b2 B2
  go_wp2_with fail
  refine (OO.out _).mono ?_
  rintro e w3 ⟨rfl, b3⟩
  go_wp2_with fail
  go_ret
  exact ⟨ret_b (by rw [HT.out] <;> first | rfl | simp), step1 B4.out b3⟩

set_option maxRecDepth 100000 in
set_option maxHeartbeats 2000000 in
theorem RHolds_oo4 (s o t : ByteArray) (w : World) (x y : DebL) (h1 : parseL s.data.toList = .ok x) (h2 : parseL t.data.toList = .ok y) (k0 : (o.toList == [60, 60]) = false) (k1 : (o.toList == [60, 61]) = false) (k2 : (o.toList == [61]) = false) (k3 : (o.toList == [62, 61]) = false) (k4 : (o.toList == [62, 62]) = true) :
    Calls Try.prog 23 #[.string s, .string o, .string t] w fun e w' => e = .returned (.bool (holdsL s.data.toList o.data.toList t.data.toList)) ∧ Below w.heap.size w w' := by
  have P1 := fun w => Rparse_any s w
  have P2 := fun w => Rparse_any t w
  rw [dres_ok h1] at P1
  rw [dres_ok h2] at P2
  have HT : holdsL s.data.toList o.data.toList t.data.toList = opB (ordO x y) o.data.toList := by unfold holdsL; rw [h1, h2]
  have hop : opB (ordO x y) o.data.toList = decide (0 < ordO x y) := by
    unfold opB
    rw [← toL, k0, k1, k2, k3, k4]
    simp
  rw [hop] at HT
  have HT := hide HT
  have OO := fun w => RCompare_any s t w
  rw [show cmpT s.data.toList t.data.toList = ordO x y by unfold cmpT; rw [h1, h2]] at OO
  have OO := hide OO
  have P1 := hide P1
  have P2 := hide P2
  generalize holdsL s.data.toList o.data.toList t.data.toList = HB at *
  clear h1 h2 hop
  generalize ordO x y = c at *
  go_enter Try.func23, Try.ntmps23
  go_wp2_with fail
  refine (P1.out _).mono ?_
  rintro e w1 ⟨rfl, b1⟩
  go_wp2_with fail
  refine (P2.out _).mono ?_
  rintro e w2 ⟨rfl, b2⟩
  have B2 := step1 (stepA b1 (.cells #[.string (ofL x.ep), .string (ofL x.up), .string (ofL x.rev)] 23)) b2
  have B4 := hide (stepA B2 (.cells #[.string (ofL y.ep), .string (ofL y.up), .string (ofL y.rev)] 23))
  clear b1 b2 B2
  go_wp2_with fail
  refine (OO.out _).mono ?_
  rintro e w3 ⟨rfl, b3⟩
  go_wp2_with fail
  go_ret
  exact ⟨ret_b (by rw [HT.out] <;> first | rfl | simp), step1 B4.out b3⟩

set_option maxRecDepth 100000 in
set_option maxHeartbeats 2000000 in
theorem RHolds_oo5 (s o t : ByteArray) (w : World) (x y : DebL) (h1 : parseL s.data.toList = .ok x) (h2 : parseL t.data.toList = .ok y) (k0 : (o.toList == [60, 60]) = false) (k1 : (o.toList == [60, 61]) = false) (k2 : (o.toList == [61]) = false) (k3 : (o.toList == [62, 61]) = false) (k4 : (o.toList == [62, 62]) = false) :
    Calls Try.prog 23 #[.string s, .string o, .string t] w fun e w' => e = .returned (.bool (holdsL s.data.toList o.data.toList t.data.toList)) ∧ Below w.heap.size w w' := by
  have P1 := fun w => Rparse_any s w
  have P2 := fun w => Rparse_any t w
  rw [dres_ok h1] at P1
  rw [dres_ok h2] at P2
  have HT : holdsL s.data.toList o.data.toList t.data.toList = opB (ordO x y) o.data.toList := by unfold holdsL; rw [h1, h2]
  have hop : opB (ordO x y) o.data.toList = false := by
    unfold opB
    rw [← toL, k0, k1, k2, k3, k4]
    simp
  rw [hop] at HT
  have HT := hide HT
  have OO := fun w => RCompare_any s t w
  rw [show cmpT s.data.toList t.data.toList = ordO x y by unfold cmpT; rw [h1, h2]] at OO
  have OO := hide OO
  have P1 := hide P1
  have P2 := hide P2
  generalize holdsL s.data.toList o.data.toList t.data.toList = HB at *
  clear h1 h2 hop
  generalize ordO x y = c at *
  go_enter Try.func23, Try.ntmps23
  go_wp2_with fail
  refine (P1.out _).mono ?_
  rintro e w1 ⟨rfl, b1⟩
  go_wp2_with fail
  refine (P2.out _).mono ?_
  rintro e w2 ⟨rfl, b2⟩
  have B2 := step1 (stepA b1 (.cells #[.string (ofL x.ep), .string (ofL x.up), .string (ofL x.rev)] 23)) b2
  have B4 := hide (stepA B2 (.cells #[.string (ofL y.ep), .string (ofL y.up), .string (ofL y.rev)] 23))
  clear b1 b2 B2
  go_wp2_with fail
  refine (OO.out _).mono ?_
  rintro e w3 ⟨rfl, b3⟩
  go_wp2_with fail
  go_ret
  exact ⟨ret_b (by rw [HT.out] <;> first | rfl | simp), step1 B4.out b3⟩

set_option maxRecDepth 100000 in
set_option maxHeartbeats 2000000 in
theorem RHolds_oe (s o t : ByteArray) (w : World) (x : DebL) (h1 : parseL s.data.toList = .ok x) (y : Int × Nat) (h2 : parseL t.data.toList = .error y) :
    Calls Try.prog 23 #[.string s, .string o, .string t] w fun e w' => e = .returned (.bool (holdsL s.data.toList o.data.toList t.data.toList)) ∧ Below w.heap.size w w' := by
  have P1 := fun w => Rparse_any s w
  have P2 := fun w => Rparse_any t w
  rw [dres_ok h1] at P1
  rw [dres_err h2] at P2
  have HT : Hid (holdsL s.data.toList o.data.toList t.data.toList = false) := by show _ = _; unfold holdsL; rw [h1, h2]
  have hyb : (y.1 != 0) = true := by simpa using parse_errs h2
  have P1 := hide P1
  have P2 := hide P2
  clear h1 h2
  go_enter Try.func23, Try.ntmps23
  go_wp2_with fail
  refine (P1.out _).mono ?_
  rintro e w1 ⟨rfl, b1⟩
  go_wp2_with fail
  refine (P2.out _).mono ?_
  rintro e w2 ⟨rfl, b2⟩
  have B2 := step1 (stepA b1 (.cells #[.string (ofL x.ep), .string (ofL x.up), .string (ofL x.rev)] 23)) b2
  have B4 := hide (stepA B2 (.cells #[.string ⟨#[]⟩, .string ⟨#[]⟩, .string ⟨#[]⟩] 23))
  clear b1 b2 B2
  go_wp2_with fail
  go_ret
  exact ⟨ret_b (by rw [HT.out]), B4.out⟩

set_option maxRecDepth 100000 in
set_option maxHeartbeats 2000000 in
theorem RHolds_eo (s o t : ByteArray) (w : World) (x : Int × Nat) (h1 : parseL s.data.toList = .error x) (y : DebL) (h2 : parseL t.data.toList = .ok y) :
    Calls Try.prog 23 #[.string s, .string o, .string t] w fun e w' => e = .returned (.bool (holdsL s.data.toList o.data.toList t.data.toList)) ∧ Below w.heap.size w w' := by
  have P1 := fun w => Rparse_any s w
  have P2 := fun w => Rparse_any t w
  rw [dres_err h1] at P1
  rw [dres_ok h2] at P2
  have HT : Hid (holdsL s.data.toList o.data.toList t.data.toList = false) := by show _ = _; unfold holdsL; rw [h1, h2]
  have hxb : (x.1 != 0) = true := by simpa using parse_errs h1
  have P1 := hide P1
  have P2 := hide P2
  clear h1 h2
  go_enter Try.func23, Try.ntmps23
  go_wp2_with fail
  refine (P1.out _).mono ?_
  rintro e w1 ⟨rfl, b1⟩
  go_wp2_with fail
  refine (P2.out _).mono ?_
  rintro e w2 ⟨rfl, b2⟩
  have B2 := step1 (stepA b1 (.cells #[.string ⟨#[]⟩, .string ⟨#[]⟩, .string ⟨#[]⟩] 23)) b2
  have B4 := hide (stepA B2 (.cells #[.string (ofL y.ep), .string (ofL y.up), .string (ofL y.rev)] 23))
  clear b1 b2 B2
  go_wp2_with fail
  go_ret
  exact ⟨ret_b (by rw [HT.out]), B4.out⟩

set_option maxRecDepth 100000 in
set_option maxHeartbeats 2000000 in
theorem RHolds_ee (s o t : ByteArray) (w : World) (x : Int × Nat) (h1 : parseL s.data.toList = .error x) (y : Int × Nat) (h2 : parseL t.data.toList = .error y) :
    Calls Try.prog 23 #[.string s, .string o, .string t] w fun e w' => e = .returned (.bool (holdsL s.data.toList o.data.toList t.data.toList)) ∧ Below w.heap.size w w' := by
  have P1 := fun w => Rparse_any s w
  have P2 := fun w => Rparse_any t w
  rw [dres_err h1] at P1
  rw [dres_err h2] at P2
  have HT : Hid (holdsL s.data.toList o.data.toList t.data.toList = false) := by show _ = _; unfold holdsL; rw [h1, h2]
  have hxb : (x.1 != 0) = true := by simpa using parse_errs h1
  have hyb : (y.1 != 0) = true := by simpa using parse_errs h2
  have P1 := hide P1
  have P2 := hide P2
  clear h1 h2
  go_enter Try.func23, Try.ntmps23
  go_wp2_with fail
  refine (P1.out _).mono ?_
  rintro e w1 ⟨rfl, b1⟩
  go_wp2_with fail
  refine (P2.out _).mono ?_
  rintro e w2 ⟨rfl, b2⟩
  have B2 := step1 (stepA b1 (.cells #[.string ⟨#[]⟩, .string ⟨#[]⟩, .string ⟨#[]⟩] 23)) b2
  have B4 := hide (stepA B2 (.cells #[.string ⟨#[]⟩, .string ⟨#[]⟩, .string ⟨#[]⟩] 23))
  clear b1 b2 B2
  go_wp2_with fail
  go_ret
  exact ⟨ret_b (by rw [HT.out]), B4.out⟩

theorem RHolds_any (s o t : ByteArray) (w : World) :
    Calls Try.prog 23 #[.string s, .string o, .string t] w fun e w' => e = .returned (.bool (holdsL s.data.toList o.data.toList t.data.toList)) ∧ Below w.heap.size w w' := by
  cases h1 : parseL s.data.toList with
  | error x =>
    cases h2 : parseL t.data.toList with
    | error y => exact RHolds_ee s o t w x h1 y h2
    | ok y => exact RHolds_eo s o t w x h1 y h2
  | ok x =>
    cases h2 : parseL t.data.toList with
    | error y => exact RHolds_oe s o t w x h1 y h2
    | ok y =>
      cases k0 : (o.toList == [60, 60])
      · cases k1 : (o.toList == [60, 61])
        · cases k2 : (o.toList == [61])
          · cases k3 : (o.toList == [62, 61])
            · cases k4 : (o.toList == [62, 62])
              · exact RHolds_oo5 s o t w x y h1 h2 k0 k1 k2 k3 k4
              · exact RHolds_oo4 s o t w x y h1 h2 k0 k1 k2 k3 k4
            · exact RHolds_oo3 s o t w x y h1 h2 k0 k1 k2 k3
          · exact RHolds_oo2 s o t w x y h1 h2 k0 k1 k2
        · exact RHolds_oo1 s o t w x y h1 h2 k0 k1
      · exact RHolds_oo0 s o t w x y h1 h2 k0

end Go.Proofs.Ythojcidbhojlhaa
