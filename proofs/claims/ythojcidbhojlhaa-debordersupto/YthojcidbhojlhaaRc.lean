/-
  Walks: the order of two versions, the document's order of texts, and what a relation says.
-/
import Derived.Test.YthojcidbhojlhaaRb
import Derived.Test.YthojcidbhojlhaaDx
import Derived.Test.YthojcidbhojlhaaDt
namespace Go.Proofs.Ythojcidbhojlhaa
open Go.RowKit Go.Shelf
set_option linter.unusedVariables false

theorem carry {W W' : World} {k : Nat} {o : Obj} (hb : Below W.heap.size W W') (h : W.heap[k]? = some o) : W'.heap[k]? = some o := (hb.block k (Array.getElem?_eq_some_iff.1 h).1).trans h
theorem step1 {w W W' : World} (h : Below w.heap.size w W) (hb : Below W.heap.size W W') : Below w.heap.size w W' := h.trans (hb.mono h.size)
theorem stepA {w W : World} (h : Below w.heap.size w W) (a : Obj) : Below w.heap.size w (W.alloc a) := h.alloc h.size a
/-- The order of fit versions. -/
def ordF (x y : DebL) : Int := if fitB x then (if fitB y then ordO x y else 0) else 0
theorem sh_of {v : DebL} (h : Sz v) : ShV v := ⟨by have := h.1; omega, by have := h.2.1; omega, by have := h.2.2; omega⟩

set_option maxRecDepth 100000 in
set_option maxHeartbeats 2000000 in
theorem Order_a (x y : DebL) (w : World) (hx : Sz x) (hy : Sz y) (h1 : fitB x = false) :
    Calls Try.prog 18 #[verV x, verV y] w fun e w' => e = .returned (.int .i64 (ordF x y)) ∧ Below w.heap.size w w' := by
  have hO : ordF x y = if fitB x then (if fitB y then ordO x y else 0) else 0 := rfl
  have F1 := fun w => Fit_any x w hx
  have F2 := fun w => Fit_any y w hy
  rw [h1, if_neg (by simp)] at hO
  have HO := hide hO
  rw [h1] at F1
  clear h1 hO
  unfold verV at F1 F2
  have F1 := hide F1
  have F2 := hide F2
  unfold verV
  have S0 := OB.start w x y
  clear hx hy
  go_enter Try.func18, Try.ntmps18
  go_wp2_with fail
  generalize (w.alloc (.cells #[.string (ofL x.ep), .string (ofL x.up), .string (ofL x.rev)] 23)).alloc (.cells #[.string (ofL y.ep), .string (ofL y.up), .string (ofL y.rev)] 23) = W0 at *
  refine (F1.out _).mono ?_
  rintro e w1 ⟨rfl, b1⟩
  have S1 := S0.next b1
  obtain ⟨c10, c11, c12, c13, c14, c15⟩ := S1.seen
  go_wp2_with fail
  go_ret
  exact ⟨ret_i HO.out.symm, S1.bel⟩

set_option maxRecDepth 100000 in
set_option maxHeartbeats 2000000 in
theorem Order_b (x y : DebL) (w : World) (hx : Sz x) (hy : Sz y) (h1 : fitB x = true) (h2 : fitB y = false) :
    Calls Try.prog 18 #[verV x, verV y] w fun e w' => e = .returned (.int .i64 (ordF x y)) ∧ Below w.heap.size w w' := by
  have hO : ordF x y = if fitB x then (if fitB y then ordO x y else 0) else 0 := rfl
  have F1 := fun w => Fit_any x w hx
  have F2 := fun w => Fit_any y w hy
  rw [h1, h2, if_pos rfl, if_neg (by simp)] at hO
  have HO := hide hO
  rw [h1] at F1
  rw [h2] at F2
  clear h1 h2 hO
  unfold verV at F1 F2
  have F1 := hide F1
  have F2 := hide F2
  unfold verV
  have S0 := OB.start w x y
  clear hx hy
  go_enter Try.func18, Try.ntmps18
  go_wp2_with fail
  generalize (w.alloc (.cells #[.string (ofL x.ep), .string (ofL x.up), .string (ofL x.rev)] 23)).alloc (.cells #[.string (ofL y.ep), .string (ofL y.up), .string (ofL y.rev)] 23) = W0 at *
  refine (F1.out _).mono ?_
  rintro e w1 ⟨rfl, b1⟩
  have S1 := S0.next b1
  obtain ⟨c10, c11, c12, c13, c14, c15⟩ := S1.seen
  go_wp2_with fail
  refine (F2.out _).mono ?_
  rintro e w2 ⟨rfl, b2⟩
  have S2 := S1.next b2
  obtain ⟨c20, c21, c22, c23, c24, c25⟩ := S2.seen
  go_wp2_with fail
  go_ret
  exact ⟨ret_i HO.out.symm, S2.bel⟩

set_option maxRecDepth 100000 in
set_option maxHeartbeats 2000000 in
theorem Order_c (x y : DebL) (w : World) (hx : Sz x) (hy : Sz y) (h1 : fitB x = true) (h2 : fitB y = true) :
    Calls Try.prog 18 #[verV x, verV y] w fun e w' => e = .returned (.int .i64 (ordF x y)) ∧ Below w.heap.size w w' := by
  have hO : ordF x y = if fitB x then (if fitB y then ordO x y else 0) else 0 := rfl
  have F1 := fun w => Fit_any x w hx
  have F2 := fun w => Fit_any y w hy
  rw [h1, h2, if_pos rfl, if_pos rfl] at hO
  have HO := hide hO
  rw [h1] at F1
  rw [h2] at F2
  clear h1 h2 hO
  have OR := fun w => order_any x y w (sh_of hx) (sh_of hy)
  unfold verV at OR
  have OR := hide OR
  unfold verV at F1 F2
  have F1 := hide F1
  have F2 := hide F2
  unfold verV
  have S0 := OB.start w x y
  clear hx hy
  go_enter Try.func18, Try.ntmps18
  go_wp2_with fail
  generalize (w.alloc (.cells #[.string (ofL x.ep), .string (ofL x.up), .string (ofL x.rev)] 23)).alloc (.cells #[.string (ofL y.ep), .string (ofL y.up), .string (ofL y.rev)] 23) = W0 at *
  refine (F1.out _).mono ?_
  rintro e w1 ⟨rfl, b1⟩
  have S1 := S0.next b1
  obtain ⟨c10, c11, c12, c13, c14, c15⟩ := S1.seen
  go_wp2_with fail
  refine (F2.out _).mono ?_
  rintro e w2 ⟨rfl, b2⟩
  have S2 := S1.next b2
  obtain ⟨c20, c21, c22, c23, c24, c25⟩ := S2.seen
  go_wp2_with fail
  refine (OR.out _).mono ?_
  rintro e w3 ⟨rfl, b3⟩
  have S3 := S2.next b3
  obtain ⟨c30, c31, c32, c33, c34, c35⟩ := S3.seen
  go_wp2_with fail
  go_ret
  exact ⟨ret_i HO.out.symm, S3.bel⟩

theorem Order_any (x y : DebL) (w : World) (hx : Sz x) (hy : Sz y) :
    Calls Try.prog 18 #[verV x, verV y] w fun e w' => e = .returned (.int .i64 (ordF x y)) ∧ Below w.heap.size w w' := by
  cases h1 : fitB x
  · exact Order_a x y w hx hy h1
  cases h2 : fitB y
  · exact Order_b x y w hx hy h1 h2
  · exact Order_c x y w hx hy h1 h2

set_option maxRecDepth 100000 in
set_option maxHeartbeats 2000000 in
theorem ROrder_a (x y : DebL) (w : World) (hx : Sz x) (hy : Sz y) (h1 : fitB x = false) :
    Calls Try.prog 19 #[verV x, verV y] w fun e w' => e = .returned (.int .i64 (ordF x y)) ∧ Below w.heap.size w w' := by
  have hO : ordF x y = if fitB x then (if fitB y then ordO x y else 0) else 0 := rfl
  have F1 := fun w => RFit_any x w hx
  have F2 := fun w => RFit_any y w hy
  rw [h1, if_neg (by simp)] at hO
  have HO := hide hO
  rw [h1] at F1
  clear h1 hO
  unfold verV at F1 F2
  have F1 := hide F1
  have F2 := hide F2
  unfold verV
  have S0 := OB.start w x y
  clear hx hy
  go_enter Try.func19, Try.ntmps19
  go_wp2_with fail
  generalize (w.alloc (.cells #[.string (ofL x.ep), .string (ofL x.up), .string (ofL x.rev)] 23)).alloc (.cells #[.string (ofL y.ep), .string (ofL y.up), .string (ofL y.rev)] 23) = W0 at *
  refine (F1.out _).mono ?_
  rintro e w1 ⟨rfl, b1⟩
  have S1 := S0.next b1
  obtain ⟨c10, c11, c12, c13, c14, c15⟩ := S1.seen
  go_wp2_with fail
  go_ret
  exact ⟨ret_i HO.out.symm, S1.bel⟩

set_option maxRecDepth 100000 in
set_option maxHeartbeats 2000000 in
theorem ROrder_b (x y : DebL) (w : World) (hx : Sz x) (hy : Sz y) (h1 : fitB x = true) (h2 : fitB y = false) :
    Calls Try.prog 19 #[verV x, verV y] w fun e w' => e = .returned (.int .i64 (ordF x y)) ∧ Below w.heap.size w w' := by
  have hO : ordF x y = if fitB x then (if fitB y then ordO x y else 0) else 0 := rfl
  have F1 := fun w => RFit_any x w hx
  have F2 := fun w => RFit_any y w hy
  rw [h1, h2, if_pos rfl, if_neg (by simp)] at hO
  have HO := hide hO
  rw [h1] at F1
  rw [h2] at F2
  clear h1 h2 hO
  unfold verV at F1 F2
  have F1 := hide F1
  have F2 := hide F2
  unfold verV
  have S0 := OB.start w x y
  clear hx hy
  go_enter Try.func19, Try.ntmps19
  go_wp2_with fail
  generalize (w.alloc (.cells #[.string (ofL x.ep), .string (ofL x.up), .string (ofL x.rev)] 23)).alloc (.cells #[.string (ofL y.ep), .string (ofL y.up), .string (ofL y.rev)] 23) = W0 at *
  refine (F1.out _).mono ?_
  rintro e w1 ⟨rfl, b1⟩
  have S1 := S0.next b1
  obtain ⟨c10, c11, c12, c13, c14, c15⟩ := S1.seen
  go_wp2_with fail
  refine (F2.out _).mono ?_
  rintro e w2 ⟨rfl, b2⟩
  have S2 := S1.next b2
  obtain ⟨c20, c21, c22, c23, c24, c25⟩ := S2.seen
  go_wp2_with fail
  go_ret
  exact ⟨ret_i HO.out.symm, S2.bel⟩

set_option maxRecDepth 100000 in
set_option maxHeartbeats 2000000 in
theorem ROrder_c (x y : DebL) (w : World) (hx : Sz x) (hy : Sz y) (h1 : fitB x = true) (h2 : fitB y = true) (h3 : cmpD x.ep y.ep ≠ 0) :
    Calls Try.prog 19 #[verV x, verV y] w fun e w' => e = .returned (.int .i64 (ordF x y)) ∧ Below w.heap.size w w' := by
  have hO : ordF x y = if fitB x then (if fitB y then ordO x y else 0) else 0 := rfl
  have F1 := fun w => RFit_any x w hx
  have F2 := fun w => RFit_any y w hy
  rw [h1, h2, if_pos rfl, if_pos rfl] at hO
  rw [h1] at F1
  rw [h2] at F2
  have hOO : ordO x y = or3 (cmpD x.ep y.ep) (partO x.up y.up) (partO x.rev y.rev) := rfl
  have CD := fun w => RCmp_any (ofL x.ep) (ofL y.ep) w (by rw [ofL_size]; have := hx.1; omega) (by rw [ofL_size]; have := hy.1; omega)
  have SV := fun w => RPart_any (ofL x.up) (ofL y.up) w (by rw [ofL_size]; have := hx.2.1; omega) (by rw [ofL_size]; have := hy.2.1; omega)
  have SR := fun w => RPart_any (ofL x.rev) (ofL y.rev) w (by rw [ofL_size]; have := hx.2.2; omega) (by rw [ofL_size]; have := hy.2.2; omega)
  rw [ofL_data, ofL_data] at CD SV SR
  have HO : Hid (ordF x y = cmpD x.ep y.ep) := by show _ = _; rw [hO, hOO]; unfold or3; rw [if_pos h3]
  generalize cmpD x.ep y.ep = o1 at *
  have g2 : (o1 != 0) = true := by simpa using h3
  have CD := hide CD
  clear h1 h2 h3 hO hOO SV SR
  unfold verV at F1 F2
  have F1 := hide F1
  have F2 := hide F2
  unfold verV
  have S0 := OB.start w x y
  clear hx hy
  go_enter Try.func19, Try.ntmps19
  go_wp2_with fail
  generalize (w.alloc (.cells #[.string (ofL x.ep), .string (ofL x.up), .string (ofL x.rev)] 23)).alloc (.cells #[.string (ofL y.ep), .string (ofL y.up), .string (ofL y.rev)] 23) = W0 at *
  refine (F1.out _).mono ?_
  rintro e w1 ⟨rfl, b1⟩
  have S1 := S0.next b1
  obtain ⟨c10, c11, c12, c13, c14, c15⟩ := S1.seen
  go_wp2_with fail
  refine (F2.out _).mono ?_
  rintro e w2 ⟨rfl, b2⟩
  have S2 := S1.next b2
  obtain ⟨c20, c21, c22, c23, c24, c25⟩ := S2.seen
  go_wp2_with fail
  refine (CD.out _).mono ?_
  rintro e w' ⟨rfl, hw'⟩
  rw [hw']
  clear hw' w'
  go_wp2_with fail
  go_ret
  exact ⟨ret_i HO.out.symm, S2.bel⟩

set_option maxRecDepth 100000 in
set_option maxHeartbeats 2000000 in
theorem ROrder_d (x y : DebL) (w : World) (hx : Sz x) (hy : Sz y) (h1 : fitB x = true) (h2 : fitB y = true) (h3 : cmpD x.ep y.ep = 0) (h4 : partO x.up y.up ≠ 0) :
    Calls Try.prog 19 #[verV x, verV y] w fun e w' => e = .returned (.int .i64 (ordF x y)) ∧ Below w.heap.size w w' := by
  have hO : ordF x y = if fitB x then (if fitB y then ordO x y else 0) else 0 := rfl
  have F1 := fun w => RFit_any x w hx
  have F2 := fun w => RFit_any y w hy
  rw [h1, h2, if_pos rfl, if_pos rfl] at hO
  rw [h1] at F1
  rw [h2] at F2
  have hOO : ordO x y = or3 (cmpD x.ep y.ep) (partO x.up y.up) (partO x.rev y.rev) := rfl
  have CD := fun w => RCmp_any (ofL x.ep) (ofL y.ep) w (by rw [ofL_size]; have := hx.1; omega) (by rw [ofL_size]; have := hy.1; omega)
  have SV := fun w => RPart_any (ofL x.up) (ofL y.up) w (by rw [ofL_size]; have := hx.2.1; omega) (by rw [ofL_size]; have := hy.2.1; omega)
  have SR := fun w => RPart_any (ofL x.rev) (ofL y.rev) w (by rw [ofL_size]; have := hx.2.2; omega) (by rw [ofL_size]; have := hy.2.2; omega)
  rw [ofL_data, ofL_data] at CD SV SR
  have HO : Hid (ordF x y = partO x.up y.up) := by show _ = _; rw [hO, hOO]; unfold or3; rw [if_neg (by omega), if_pos h4]
  rw [h3] at CD
  generalize partO x.up y.up = o2 at *
  have g2 : (o2 != 0) = true := by simpa using h4
  have CD := hide CD
  have SV := hide SV
  clear h1 h2 h3 h4 hO hOO SR
  unfold verV at F1 F2
  have F1 := hide F1
  have F2 := hide F2
  unfold verV
  have S0 := OB.start w x y
  clear hx hy
  go_enter Try.func19, Try.ntmps19
  go_wp2_with fail
  generalize (w.alloc (.cells #[.string (ofL x.ep), .string (ofL x.up), .string (ofL x.rev)] 23)).alloc (.cells #[.string (ofL y.ep), .string (ofL y.up), .string (ofL y.rev)] 23) = W0 at *
  refine (F1.out _).mono ?_
  rintro e w1 ⟨rfl, b1⟩
  have S1 := S0.next b1
  obtain ⟨c10, c11, c12, c13, c14, c15⟩ := S1.seen
  go_wp2_with fail
  refine (F2.out _).mono ?_
  rintro e w2 ⟨rfl, b2⟩
  have S2 := S1.next b2
  obtain ⟨c20, c21, c22, c23, c24, c25⟩ := S2.seen
  go_wp2_with fail
  refine (CD.out _).mono ?_
  rintro e w' ⟨rfl, hw'⟩
  rw [hw']
  clear hw' w'
  go_wp2_with fail
  refine (SV.out _).mono ?_
  rintro e w3 ⟨rfl, b3⟩
  have S3 := S2.next b3
  obtain ⟨c30, c31, c32, c33, c34, c35⟩ := S3.seen
  go_wp2_with fail
  go_ret
  exact ⟨ret_i HO.out.symm, S3.bel⟩

set_option maxRecDepth 100000 in
set_option maxHeartbeats 2000000 in
theorem ROrder_e (x y : DebL) (w : World) (hx : Sz x) (hy : Sz y) (h1 : fitB x = true) (h2 : fitB y = true) (h3 : cmpD x.ep y.ep = 0) (h4 : partO x.up y.up = 0) :
    Calls Try.prog 19 #[verV x, verV y] w fun e w' => e = .returned (.int .i64 (ordF x y)) ∧ Below w.heap.size w w' := by
  have hO : ordF x y = if fitB x then (if fitB y then ordO x y else 0) else 0 := rfl
  have F1 := fun w => RFit_any x w hx
  have F2 := fun w => RFit_any y w hy
  rw [h1, h2, if_pos rfl, if_pos rfl] at hO
  rw [h1] at F1
  rw [h2] at F2
  have hOO : ordO x y = or3 (cmpD x.ep y.ep) (partO x.up y.up) (partO x.rev y.rev) := rfl
  have CD := fun w => RCmp_any (ofL x.ep) (ofL y.ep) w (by rw [ofL_size]; have := hx.1; omega) (by rw [ofL_size]; have := hy.1; omega)
  have SV := fun w => RPart_any (ofL x.up) (ofL y.up) w (by rw [ofL_size]; have := hx.2.1; omega) (by rw [ofL_size]; have := hy.2.1; omega)
  have SR := fun w => RPart_any (ofL x.rev) (ofL y.rev) w (by rw [ofL_size]; have := hx.2.2; omega) (by rw [ofL_size]; have := hy.2.2; omega)
  rw [ofL_data, ofL_data] at CD SV SR
  have HO : Hid (ordF x y = partO x.rev y.rev) := by show _ = _; rw [hO, hOO]; unfold or3; rw [if_neg (by omega), if_neg (by omega)]
  rw [h3] at CD
  rw [h4] at SV
  have CD := hide CD
  have SV := hide SV
  generalize partO x.rev y.rev = o3 at *
  have SR := hide SR
  clear h1 h2 h3 h4 hO hOO
  unfold verV at F1 F2
  have F1 := hide F1
  have F2 := hide F2
  unfold verV
  have S0 := OB.start w x y
  clear hx hy
  go_enter Try.func19, Try.ntmps19
  go_wp2_with fail
  generalize (w.alloc (.cells #[.string (ofL x.ep), .string (ofL x.up), .string (ofL x.rev)] 23)).alloc (.cells #[.string (ofL y.ep), .string (ofL y.up), .string (ofL y.rev)] 23) = W0 at *
  refine (F1.out _).mono ?_
  rintro e w1 ⟨rfl, b1⟩
  have S1 := S0.next b1
  obtain ⟨c10, c11, c12, c13, c14, c15⟩ := S1.seen
  go_wp2_with fail
  refine (F2.out _).mono ?_
  rintro e w2 ⟨rfl, b2⟩
  have S2 := S1.next b2
  obtain ⟨c20, c21, c22, c23, c24, c25⟩ := S2.seen
  go_wp2_with fail
  refine (CD.out _).mono ?_
  rintro e w' ⟨rfl, hw'⟩
  rw [hw']
  clear hw' w'
  go_wp2_with fail
  refine (SV.out _).mono ?_
  rintro e w3 ⟨rfl, b3⟩
  have S3 := S2.next b3
  obtain ⟨c30, c31, c32, c33, c34, c35⟩ := S3.seen
  go_wp2_with fail
  refine (SR.out _).mono ?_
  rintro e w4 ⟨rfl, b4⟩
  have S4 := S3.next b4
  obtain ⟨c40, c41, c42, c43, c44, c45⟩ := S4.seen
  go_wp2_with fail
  go_ret
  exact ⟨ret_i HO.out.symm, S4.bel⟩

theorem ROrder_any (x y : DebL) (w : World) (hx : Sz x) (hy : Sz y) :
    Calls Try.prog 19 #[verV x, verV y] w fun e w' => e = .returned (.int .i64 (ordF x y)) ∧ Below w.heap.size w w' := by
  cases h1 : fitB x
  · exact ROrder_a x y w hx hy h1
  cases h2 : fitB y
  · exact ROrder_b x y w hx hy h1 h2
  by_cases h3 : cmpD x.ep y.ep = 0
  · by_cases h4 : partO x.up y.up = 0
    · exact ROrder_e x y w hx hy h1 h2 h3 h4
    · exact ROrder_d x y w hx hy h1 h2 h3 h4
  · exact ROrder_c x y w hx hy h1 h2 h3

theorem sz_of {l : List UInt8} {x : DebL} (h : parseL l = .ok x) : Sz x := by
  obtain ⟨h1, h2, h3⟩ := parse_short h
  exact ⟨by omega, by omega, by omega⟩
theorem dres_ok {l : List UInt8} {v : DebL} (h : parseL l = .ok v) : DResV (docP l) = .tuple #[.agg #[.string (ofL v.ep), .string (ofL v.up), .string (ofL v.rev)], .int .i64 0, .int .i64 0] := by rw [docP_eq, h]; rfl
theorem dres_err {l : List UInt8} {x : Int × Nat} (h : parseL l = .error x) : DResV (docP l) = .tuple #[.agg #[.string ⟨#[]⟩, .string ⟨#[]⟩, .string ⟨#[]⟩], .int .i64 x.1, .int .i64 (x.2 : Int)] := by rw [docP_eq, h]; rfl

theorem Rtruth_any (b : Bool) (w : World) : Calls Try.prog 48 #[.bool b] w fun e w' => e = .returned (.int .i64 (if b then 1 else 0)) ∧ w' = w := by
  cases b
  all_goals go_enter Try.func48, Try.ntmps48
  all_goals go_wp2_with fail
  all_goals go_ret
  all_goals exact ⟨rfl, rfl⟩
theorem less_cmp (a b : List UInt8) : (Lib.compareBytes a b = -1 ∧ Op.bytesLess a b = true ∧ Op.bytesLess b a = false ∧ (a == b) = false ∧ (b == a) = false) ∨ (Lib.compareBytes a b = 0 ∧ Op.bytesLess a b = false ∧ Op.bytesLess b a = false ∧ (a == b) = true ∧ (b == a) = true) ∨ (Lib.compareBytes a b = 1 ∧ Op.bytesLess a b = false ∧ Op.bytesLess b a = true ∧ (a == b) = false ∧ (b == a) = false) := by
  have h1 := cmp3 a b
  have h2 := cmp3 b a
  have h3 := bytes_cmp3.anti a b
  have h4 := bytes_cmp3.self b
  have h5 : Lib.compareBytes a b ≠ 0 → (a == b) = false ∧ (b == a) = false := fun h => by
    have : a ≠ b := fun e => by rw [e] at h; exact h h4
    exact ⟨by simpa using this, by simpa using this.symm⟩
  rcases h1 with ⟨k, l⟩ | ⟨k, l, e⟩ | ⟨k, l, _⟩ <;> rcases h2 with ⟨k', l'⟩ | ⟨k', l', e'⟩ | ⟨k', l', _⟩
  all_goals first
    | (exfalso; omega)
    | exact .inl ⟨k, l, l', h5 (by omega)⟩
    | exact .inr (.inl ⟨k, l, l', e, e'⟩)
    | exact .inr (.inr ⟨k, l, l', h5 (by omega)⟩)

set_option maxRecDepth 100000 in
set_option maxHeartbeats 2000000 in
theorem RCompare_oo (s t : ByteArray) (w : World) (x : DebL) (h1 : parseL s.data.toList = .ok x) (y : DebL) (h2 : parseL t.data.toList = .ok y)  :
    Calls Try.prog 21 #[.string s, .string t] w fun e w' => e = .returned (.int .i64 (cmpT s.data.toList t.data.toList)) ∧ Below w.heap.size w w' := by
  have P1 := fun w => Rparse_any s w
  have P2 := fun w => Rparse_any t w
  rw [dres_ok h1] at P1
  rw [dres_ok h2] at P2
  have HT : Hid (cmpT s.data.toList t.data.toList = ordO x y) := by show _ = _; unfold cmpT; rw [h1, h2]
  have OR := fun w => ROrder_any x y w (sz_of h1) (sz_of h2)
  rw [show ordF x y = ordO x y by unfold ordF; rw [read_back h1, read_back h2]; rfl] at OR
  unfold verV at OR
  have OR := hide OR
  have P1 := hide P1
  have P2 := hide P2
  generalize cmpT s.data.toList t.data.toList = CT at *
  clear h1 h2
  go_enter Try.func21, Try.ntmps21
  go_wp2_with fail
  refine (P1.out _).mono ?_
  rintro e w1 ⟨rfl, b1⟩
  have B1 := stepA b1 (.cells #[.string (ofL x.ep), .string (ofL x.up), .string (ofL x.rev)] 23)
  have eA0 := World.alloc_heap_new w1 (.cells #[.string (ofL x.ep), .string (ofL x.up), .string (ofL x.rev)] 23)
  go_wp2_with fail
  refine (P2.out _).mono ?_
  rintro e w2 ⟨rfl, b2⟩
  have eA := carry b2 eA0
  have B2 := step1 B1 b2
  have l1 := (Array.getElem?_eq_some_iff.1 eA).1
  have a0 := cell_at 0 eA rfl
  have a1 := cell_at 1 eA rfl
  have a2 := cell_at 2 eA rfl
  have B3 := hide (stepA B2 (.cells #[.string (ofL y.ep), .string (ofL y.up), .string (ofL y.rev)] 23))
  clear b1 b2 B2 B1 eA0
  go_wp2_with fail
  refine (OR.out _).mono ?_
  rintro e w3 ⟨rfl, b3⟩
  go_wp2_with fail
  go_ret
  exact ⟨ret_i HT.out.symm, step1 B3.out b3⟩

set_option maxRecDepth 100000 in
set_option maxHeartbeats 2000000 in
theorem RCompare_oe (s t : ByteArray) (w : World) (x : DebL) (h1 : parseL s.data.toList = .ok x) (y : Int × Nat) (h2 : parseL t.data.toList = .error y)  :
    Calls Try.prog 21 #[.string s, .string t] w fun e w' => e = .returned (.int .i64 (cmpT s.data.toList t.data.toList)) ∧ Below w.heap.size w w' := by
  have P1 := fun w => Rparse_any s w
  have P2 := fun w => Rparse_any t w
  rw [dres_ok h1] at P1
  rw [dres_err h2] at P2
  have HT : Hid (cmpT s.data.toList t.data.toList = 1) := by show _ = _; unfold cmpT; rw [h1, h2]
  have hyb : (y.1 != 0) = true := by simpa using parse_errs h2
  have hyb2 : (y.1 == 0) = false := by simpa using parse_errs h2
  have P1 := hide P1
  have P2 := hide P2
  generalize cmpT s.data.toList t.data.toList = CT at *
  clear h1 h2
  go_enter Try.func21, Try.ntmps21
  go_wp2_with fail
  refine (P1.out _).mono ?_
  rintro e w1 ⟨rfl, b1⟩
  have B1 := stepA b1 (.cells #[.string (ofL x.ep), .string (ofL x.up), .string (ofL x.rev)] 23)
  have eA0 := World.alloc_heap_new w1 (.cells #[.string (ofL x.ep), .string (ofL x.up), .string (ofL x.rev)] 23)
  go_wp2_with fail
  refine (P2.out _).mono ?_
  rintro e w2 ⟨rfl, b2⟩
  have eA := carry b2 eA0
  have B2 := step1 B1 b2
  have l1 := (Array.getElem?_eq_some_iff.1 eA).1
  have a0 := cell_at 0 eA rfl
  have a1 := cell_at 1 eA rfl
  have a2 := cell_at 2 eA rfl
  have B3 := hide (stepA B2 (.cells #[.string ⟨#[]⟩, .string ⟨#[]⟩, .string ⟨#[]⟩] 23))
  clear b1 b2 B2 B1 eA0
  go_wp2_with fail
  refine (Rtruth_any _ _).mono ?_
  rintro e w3 ⟨rfl, hw3⟩
  rw [hw3]
  clear hw3 w3
  go_wp2_with fail
  refine (Rtruth_any _ _).mono ?_
  rintro e w3 ⟨rfl, hw3⟩
  rw [hw3]
  clear hw3 w3
  go_wp2_with fail
  go_ret
  exact ⟨ret_i (by rw [HT.out] <;> first | rfl | simp | omega), B3.out⟩

set_option maxRecDepth 100000 in
set_option maxHeartbeats 2000000 in
theorem RCompare_eo (s t : ByteArray) (w : World) (x : Int × Nat) (h1 : parseL s.data.toList = .error x) (y : DebL) (h2 : parseL t.data.toList = .ok y)  :
    Calls Try.prog 21 #[.string s, .string t] w fun e w' => e = .returned (.int .i64 (cmpT s.data.toList t.data.toList)) ∧ Below w.heap.size w w' := by
  have P1 := fun w => Rparse_any s w
  have P2 := fun w => Rparse_any t w
  rw [dres_err h1] at P1
  rw [dres_ok h2] at P2
  have HT : Hid (cmpT s.data.toList t.data.toList = -1) := by show _ = _; unfold cmpT; rw [h1, h2]
  have hxb : (x.1 != 0) = true := by simpa using parse_errs h1
  have hxb2 : (x.1 == 0) = false := by simpa using parse_errs h1
  have P1 := hide P1
  have P2 := hide P2
  generalize cmpT s.data.toList t.data.toList = CT at *
  clear h1 h2
  go_enter Try.func21, Try.ntmps21
  go_wp2_with fail
  refine (P1.out _).mono ?_
  rintro e w1 ⟨rfl, b1⟩
  have B1 := stepA b1 (.cells #[.string ⟨#[]⟩, .string ⟨#[]⟩, .string ⟨#[]⟩] 23)
  have eA0 := World.alloc_heap_new w1 (.cells #[.string ⟨#[]⟩, .string ⟨#[]⟩, .string ⟨#[]⟩] 23)
  go_wp2_with fail
  refine (P2.out _).mono ?_
  rintro e w2 ⟨rfl, b2⟩
  have eA := carry b2 eA0
  have B2 := step1 B1 b2
  have l1 := (Array.getElem?_eq_some_iff.1 eA).1
  have a0 := cell_at 0 eA rfl
  have a1 := cell_at 1 eA rfl
  have a2 := cell_at 2 eA rfl
  have B3 := hide (stepA B2 (.cells #[.string (ofL y.ep), .string (ofL y.up), .string (ofL y.rev)] 23))
  clear b1 b2 B2 B1 eA0
  go_wp2_with fail
  refine (Rtruth_any _ _).mono ?_
  rintro e w3 ⟨rfl, hw3⟩
  rw [hw3]
  clear hw3 w3
  go_wp2_with fail
  refine (Rtruth_any _ _).mono ?_
  rintro e w3 ⟨rfl, hw3⟩
  rw [hw3]
  clear hw3 w3
  go_wp2_with fail
  go_ret
  exact ⟨ret_i (by rw [HT.out] <;> first | rfl | simp | omega), B3.out⟩

set_option maxRecDepth 100000 in
set_option maxHeartbeats 2000000 in
theorem RCompare_el (s t : ByteArray) (w : World) (x : Int × Nat) (h1 : parseL s.data.toList = .error x) (y : Int × Nat) (h2 : parseL t.data.toList = .error y) (hc : Lib.compareBytes s.data.toList t.data.toList = -1) (hk1 : Op.bytesLess s.toList t.toList = true) (hk2 : Op.bytesLess t.toList s.toList = false) (hk3 : (s.toList == t.toList) = false) (hk4 : (t.toList == s.toList) = false) :
    Calls Try.prog 21 #[.string s, .string t] w fun e w' => e = .returned (.int .i64 (cmpT s.data.toList t.data.toList)) ∧ Below w.heap.size w w' := by
  have P1 := fun w => Rparse_any s w
  have P2 := fun w => Rparse_any t w
  rw [dres_err h1] at P1
  rw [dres_err h2] at P2
  have HT : Hid (cmpT s.data.toList t.data.toList = -1) := by show _ = _; unfold cmpT; rw [h1, h2]; exact hc
  have hxb : (x.1 != 0) = true := by simpa using parse_errs h1
  have hyb : (y.1 != 0) = true := by simpa using parse_errs h2
  have P1 := hide P1
  have P2 := hide P2
  generalize cmpT s.data.toList t.data.toList = CT at *
  clear h1 h2 hc
  go_enter Try.func21, Try.ntmps21
  go_wp2_with fail
  refine (P1.out _).mono ?_
  rintro e w1 ⟨rfl, b1⟩
  have B1 := stepA b1 (.cells #[.string ⟨#[]⟩, .string ⟨#[]⟩, .string ⟨#[]⟩] 23)
  go_wp2_with fail
  refine (P2.out _).mono ?_
  rintro e w2 ⟨rfl, b2⟩
  have B3 := hide (stepA (step1 B1 b2) (.cells #[.string ⟨#[]⟩, .string ⟨#[]⟩, .string ⟨#[]⟩] 23))
  clear b1 b2 B1
  go_wp2_with fail
  refine (Rtruth_any _ _).mono ?_
  rintro e w3 ⟨rfl, hw3⟩
  rw [hw3]
  clear hw3 w3
  go_wp2_with fail
  refine (Rtruth_any _ _).mono ?_
  rintro e w3 ⟨rfl, hw3⟩
  rw [hw3]
  clear hw3 w3
  go_wp2_with fail
  go_ret
  exact ⟨ret_i (by rw [HT.out] <;> first | rfl | simp | omega), B3.out⟩

set_option maxRecDepth 100000 in
set_option maxHeartbeats 2000000 in
theorem RCompare_eq (s t : ByteArray) (w : World) (x : Int × Nat) (h1 : parseL s.data.toList = .error x) (y : Int × Nat) (h2 : parseL t.data.toList = .error y) (hc : Lib.compareBytes s.data.toList t.data.toList = 0) (hk1 : Op.bytesLess s.toList t.toList = false) (hk2 : Op.bytesLess t.toList s.toList = false) (hk3 : (s.toList == t.toList) = true) (hk4 : (t.toList == s.toList) = true) :
    Calls Try.prog 21 #[.string s, .string t] w fun e w' => e = .returned (.int .i64 (cmpT s.data.toList t.data.toList)) ∧ Below w.heap.size w w' := by
  have P1 := fun w => Rparse_any s w
  have P2 := fun w => Rparse_any t w
  rw [dres_err h1] at P1
  rw [dres_err h2] at P2
  have HT : Hid (cmpT s.data.toList t.data.toList = 0) := by show _ = _; unfold cmpT; rw [h1, h2]; exact hc
  have hxb : (x.1 != 0) = true := by simpa using parse_errs h1
  have hyb : (y.1 != 0) = true := by simpa using parse_errs h2
  have P1 := hide P1
  have P2 := hide P2
  generalize cmpT s.data.toList t.data.toList = CT at *
  clear h1 h2 hc
  go_enter Try.func21, Try.ntmps21
  go_wp2_with fail
  refine (P1.out _).mono ?_
  rintro e w1 ⟨rfl, b1⟩
  have B1 := stepA b1 (.cells #[.string ⟨#[]⟩, .string ⟨#[]⟩, .string ⟨#[]⟩] 23)
  go_wp2_with fail
  refine (P2.out _).mono ?_
  rintro e w2 ⟨rfl, b2⟩
  have B3 := hide (stepA (step1 B1 b2) (.cells #[.string ⟨#[]⟩, .string ⟨#[]⟩, .string ⟨#[]⟩] 23))
  clear b1 b2 B1
  go_wp2_with fail
  refine (Rtruth_any _ _).mono ?_
  rintro e w3 ⟨rfl, hw3⟩
  rw [hw3]
  clear hw3 w3
  go_wp2_with fail
  refine (Rtruth_any _ _).mono ?_
  rintro e w3 ⟨rfl, hw3⟩
  rw [hw3]
  clear hw3 w3
  go_wp2_with fail
  go_ret
  exact ⟨ret_i (by rw [HT.out] <;> first | rfl | simp | omega), B3.out⟩

set_option maxRecDepth 100000 in
set_option maxHeartbeats 2000000 in
theorem RCompare_eg (s t : ByteArray) (w : World) (x : Int × Nat) (h1 : parseL s.data.toList = .error x) (y : Int × Nat) (h2 : parseL t.data.toList = .error y) (hc : Lib.compareBytes s.data.toList t.data.toList = 1) (hk1 : Op.bytesLess s.toList t.toList = false) (hk2 : Op.bytesLess t.toList s.toList = true) (hk3 : (s.toList == t.toList) = false) (hk4 : (t.toList == s.toList) = false) :
    Calls Try.prog 21 #[.string s, .string t] w fun e w' => e = .returned (.int .i64 (cmpT s.data.toList t.data.toList)) ∧ Below w.heap.size w w' := by
  have P1 := fun w => Rparse_any s w
  have P2 := fun w => Rparse_any t w
  rw [dres_err h1] at P1
  rw [dres_err h2] at P2
  have HT : Hid (cmpT s.data.toList t.data.toList = 1) := by show _ = _; unfold cmpT; rw [h1, h2]; exact hc
  have hxb : (x.1 != 0) = true := by simpa using parse_errs h1
  have hyb : (y.1 != 0) = true := by simpa using parse_errs h2
  have P1 := hide P1
  have P2 := hide P2
  generalize cmpT s.data.toList t.data.toList = CT at *
  clear h1 h2 hc
  go_enter Try.func21, Try.ntmps21
  go_wp2_with fail
  refine (P1.out _).mono ?_
  rintro e w1 ⟨rfl, b1⟩
  have B1 := stepA b1 (.cells #[.string ⟨#[]⟩, .string ⟨#[]⟩, .string ⟨#[]⟩] 23)
  go_wp2_with fail
  refine (P2.out _).mono ?_
  rintro e w2 ⟨rfl, b2⟩
  have B3 := hide (stepA (step1 B1 b2) (.cells #[.string ⟨#[]⟩, .string ⟨#[]⟩, .string ⟨#[]⟩] 23))
  clear b1 b2 B1
  go_wp2_with fail
  refine (Rtruth_any _ _).mono ?_
  rintro e w3 ⟨rfl, hw3⟩
  rw [hw3]
  clear hw3 w3
  go_wp2_with fail
  refine (Rtruth_any _ _).mono ?_
  rintro e w3 ⟨rfl, hw3⟩
  rw [hw3]
  clear hw3 w3
  go_wp2_with fail
  go_ret
  exact ⟨ret_i (by rw [HT.out] <;> first | rfl | simp | omega), B3.out⟩

theorem RCompare_any (s t : ByteArray) (w : World) :
    Calls Try.prog 21 #[.string s, .string t] w fun e w' => e = .returned (.int .i64 (cmpT s.data.toList t.data.toList)) ∧ Below w.heap.size w w' := by
  cases h1 : parseL s.data.toList with
  | error x =>
    cases h2 : parseL t.data.toList with
    | error y =>
      have := less_cmp s.data.toList t.data.toList
      rw [← toL s, ← toL t] at this
      rcases this with ⟨k, l, m, n, o⟩ | ⟨k, l, m, n, o⟩ | ⟨k, l, m, n, o⟩
      · exact RCompare_el s t w x h1 y h2 (by rw [← toL, ← toL]; exact k) l m n o
      · exact RCompare_eq s t w x h1 y h2 (by rw [← toL, ← toL]; exact k) l m n o
      · exact RCompare_eg s t w x h1 y h2 (by rw [← toL, ← toL]; exact k) l m n o
    | ok y => exact RCompare_eo s t w x h1 y h2
  | ok x =>
    cases h2 : parseL t.data.toList with
    | error y => exact RCompare_oe s t w x h1 y h2
    | ok y => exact RCompare_oo s t w x h1 y h2

/-- What a relation says of an order. -/
def opB (n : Int) (op : List UInt8) : Bool :=
  if op == [60, 60] then decide (n < 0) else if op == [60, 61] then decide (n ≤ 0) else if op == [61] then decide (n = 0) else if op == [62, 61] then decide (0 ≤ n) else if op == [62, 62] then decide (0 < n) else false
def holdsL (s op t : List UInt8) : Bool := match parseL s, parseL t with
  | .ok x, .ok y => opB (ordO x y) op
  | _, _ => false

end Go.Proofs.Ythojcidbhojlhaa
