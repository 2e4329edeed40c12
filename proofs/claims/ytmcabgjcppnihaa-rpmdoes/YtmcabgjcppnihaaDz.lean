/-
  Walks: the order of two versions, of the program and of the document; the document's Compare.
-/
import Derived.Test.YtmcabgjcppnihaaDxf
import Derived.Test.YtmcabgjcppnihaaDv
import Derived.Test.YtmcabgjcppnihaaDye
namespace Go.Proofs.Ytmcabgjcppnihaa
open Go.RowKit Go.Shelf
set_option linter.unusedVariables false

/-- The order of fit versions. -/
def ordF (x y : RpmL) : Int := if fitB x then (if fitB y then ordO x y else 0) else 0
theorem sh_of {v : RpmL} (h : Sz v) : ShV v := ⟨by have := h.1; omega, by have := h.2.1; omega, by have := h.2.2; omega⟩

set_option maxRecDepth 100000 in
set_option maxHeartbeats 2000000 in
theorem Order_a (x y : RpmL) (w : World) (hx : Sz x) (hy : Sz y) (h1 : fitB x = false) :
    Calls Try.prog 19 #[verV x, verV y] w fun e w' => e = .returned (.int .i64 (ordF x y)) ∧ Below w.heap.size w w' := by
  have hO : ordF x y = if fitB x then (if fitB y then ordO x y else 0) else 0 := rfl
  have F1 := fun w => Fit_any x w hx
  have F2 := fun w => Fit_any y w hy
  rw [h1, if_neg (by simp)] at hO
  have HO := hide hO
  rw [h1] at F1
  clear h1 hO
  unfold verV at F1 F2
  have F1 := hide F1
  have F2 := hide F2
  unfold verV
  have S0 := OB.start w x y
  clear hx hy
  go_enter Try.func19, Try.ntmps19
  go_wp2_with fail
  generalize (w.alloc (.cells #[.string (ofL x.ep), .string (ofL x.ver), .string (ofL x.rel), .bool x.has] 23)).alloc (.cells #[.string (ofL y.ep), .string (ofL y.ver), .string (ofL y.rel), .bool y.has] 23) = W0 at *
  refine (F1.out _).mono ?_
  rintro e w1 ⟨rfl, b1⟩
  have S1 := S0.next b1
  obtain ⟨c10, c11, c12, c13, c14, c15, c16, c17⟩ := S1.seen
  go_wp2_with fail
  go_ret
  exact ⟨ret_i HO.out.symm, S1.bel⟩

set_option maxRecDepth 100000 in
set_option maxHeartbeats 2000000 in
theorem Order_b (x y : RpmL) (w : World) (hx : Sz x) (hy : Sz y) (h1 : fitB x = true) (h2 : fitB y = false) :
    Calls Try.prog 19 #[verV x, verV y] w fun e w' => e = .returned (.int .i64 (ordF x y)) ∧ Below w.heap.size w w' := by
  have hO : ordF x y = if fitB x then (if fitB y then ordO x y else 0) else 0 := rfl
  have F1 := fun w => Fit_any x w hx
  have F2 := fun w => Fit_any y w hy
  rw [h1, h2, if_pos rfl, if_neg (by simp)] at hO
  have HO := hide hO
  rw [h1] at F1
  rw [h2] at F2
  clear h1 h2 hO
  unfold verV at F1 F2
  have F1 := hide F1
  have F2 := hide F2
  unfold verV
  have S0 := OB.start w x y
  clear hx hy
  go_enter Try.func19, Try.ntmps19
  go_wp2_with fail
  generalize (w.alloc (.cells #[.string (ofL x.ep), .string (ofL x.ver), .string (ofL x.rel), .bool x.has] 23)).alloc (.cells #[.string (ofL y.ep), .string (ofL y.ver), .string (ofL y.rel), .bool y.has] 23) = W0 at *
  refine (F1.out _).mono ?_
  rintro e w1 ⟨rfl, b1⟩
  have S1 := S0.next b1
  obtain ⟨c10, c11, c12, c13, c14, c15, c16, c17⟩ := S1.seen
  go_wp2_with fail
  refine (F2.out _).mono ?_
  rintro e w2 ⟨rfl, b2⟩
  have S2 := S1.next b2
  obtain ⟨c20, c21, c22, c23, c24, c25, c26, c27⟩ := S2.seen
  go_wp2_with fail
  go_ret
  exact ⟨ret_i HO.out.symm, S2.bel⟩

set_option maxRecDepth 100000 in
set_option maxHeartbeats 2000000 in
theorem Order_c (x y : RpmL) (w : World) (hx : Sz x) (hy : Sz y) (h1 : fitB x = true) (h2 : fitB y = true) :
    Calls Try.prog 19 #[verV x, verV y] w fun e w' => e = .returned (.int .i64 (ordF x y)) ∧ Below w.heap.size w w' := by
  have hO : ordF x y = if fitB x then (if fitB y then ordO x y else 0) else 0 := rfl
  have F1 := fun w => Fit_any x w hx
  have F2 := fun w => Fit_any y w hy
  rw [h1, h2, if_pos rfl, if_pos rfl] at hO
  have HO := hide hO
  rw [h1] at F1
  rw [h2] at F2
  clear h1 h2 hO
  have OR := fun w => order_any x y w (sh_of hx) (sh_of hy)
  unfold verV at OR
  have OR := hide OR
  unfold verV at F1 F2
  have F1 := hide F1
  have F2 := hide F2
  unfold verV
  have S0 := OB.start w x y
  clear hx hy
  go_enter Try.func19, Try.ntmps19
  go_wp2_with fail
  generalize (w.alloc (.cells #[.string (ofL x.ep), .string (ofL x.ver), .string (ofL x.rel), .bool x.has] 23)).alloc (.cells #[.string (ofL y.ep), .string (ofL y.ver), .string (ofL y.rel), .bool y.has] 23) = W0 at *
  refine (F1.out _).mono ?_
  rintro e w1 ⟨rfl, b1⟩
  have S1 := S0.next b1
  obtain ⟨c10, c11, c12, c13, c14, c15, c16, c17⟩ := S1.seen
  go_wp2_with fail
  refine (F2.out _).mono ?_
  rintro e w2 ⟨rfl, b2⟩
  have S2 := S1.next b2
  obtain ⟨c20, c21, c22, c23, c24, c25, c26, c27⟩ := S2.seen
  go_wp2_with fail
  refine (OR.out _).mono ?_
  rintro e w3 ⟨rfl, b3⟩
  have S3 := S2.next b3
  obtain ⟨c30, c31, c32, c33, c34, c35, c36, c37⟩ := S3.seen
  go_wp2_with fail
  go_ret
  exact ⟨ret_i HO.out.symm, S3.bel⟩

theorem Order_any (x y : RpmL) (w : World) (hx : Sz x) (hy : Sz y) :
    Calls Try.prog 19 #[verV x, verV y] w fun e w' => e = .returned (.int .i64 (ordF x y)) ∧ Below w.heap.size w w' := by
  cases h1 : fitB x
  · exact Order_a x y w hx hy h1
  cases h2 : fitB y
  · exact Order_b x y w hx hy h1 h2
  · exact Order_c x y w hx hy h1 h2

set_option maxRecDepth 100000 in
set_option maxHeartbeats 2000000 in
theorem ROrder_a (x y : RpmL) (w : World) (hx : Sz x) (hy : Sz y) (h1 : fitB x = false) :
    Calls Try.prog 20 #[verV x, verV y] w fun e w' => e = .returned (.int .i64 (ordF x y)) ∧ Below w.heap.size w w' := by
  have hO : ordF x y = if fitB x then (if fitB y then ordO x y else 0) else 0 := rfl
  have F1 := fun w => RFit_any x w hx
  have F2 := fun w => RFit_any y w hy
  rw [h1, if_neg (by simp)] at hO
  have HO := hide hO
  rw [h1] at F1
  clear h1 hO
  unfold verV at F1 F2
  have F1 := hide F1
  have F2 := hide F2
  unfold verV
  have S0 := OB.start w x y
  clear hx hy
  go_enter Try.func20, Try.ntmps20
  go_wp2_with fail
  generalize (w.alloc (.cells #[.string (ofL x.ep), .string (ofL x.ver), .string (ofL x.rel), .bool x.has] 23)).alloc (.cells #[.string (ofL y.ep), .string (ofL y.ver), .string (ofL y.rel), .bool y.has] 23) = W0 at *
  refine (F1.out _).mono ?_
  rintro e w1 ⟨rfl, b1⟩
  have S1 := S0.next b1
  obtain ⟨c10, c11, c12, c13, c14, c15, c16, c17⟩ := S1.seen
  go_wp2_with fail
  go_ret
  exact ⟨ret_i HO.out.symm, S1.bel⟩

set_option maxRecDepth 100000 in
set_option maxHeartbeats 2000000 in
theorem ROrder_b (x y : RpmL) (w : World) (hx : Sz x) (hy : Sz y) (h1 : fitB x = true) (h2 : fitB y = false) :
    Calls Try.prog 20 #[verV x, verV y] w fun e w' => e = .returned (.int .i64 (ordF x y)) ∧ Below w.heap.size w w' := by
  have hO : ordF x y = if fitB x then (if fitB y then ordO x y else 0) else 0 := rfl
  have F1 := fun w => RFit_any x w hx
  have F2 := fun w => RFit_any y w hy
  rw [h1, h2, if_pos rfl, if_neg (by simp)] at hO
  have HO := hide hO
  rw [h1] at F1
  rw [h2] at F2
  clear h1 h2 hO
  unfold verV at F1 F2
  have F1 := hide F1
  have F2 := hide F2
  unfold verV
  have S0 := OB.start w x y
  clear hx hy
  go_enter Try.func20, Try.ntmps20
  go_wp2_with fail
  generalize (w.alloc (.cells #[.string (ofL x.ep), .string (ofL x.ver), .string (ofL x.rel), .bool x.has] 23)).alloc (.cells #[.string (ofL y.ep), .string (ofL y.ver), .string (ofL y.rel), .bool y.has] 23) = W0 at *
  refine (F1.out _).mono ?_
  rintro e w1 ⟨rfl, b1⟩
  have S1 := S0.next b1
  obtain ⟨c10, c11, c12, c13, c14, c15, c16, c17⟩ := S1.seen
  go_wp2_with fail
  refine (F2.out _).mono ?_
  rintro e w2 ⟨rfl, b2⟩
  have S2 := S1.next b2
  obtain ⟨c20, c21, c22, c23, c24, c25, c26, c27⟩ := S2.seen
  go_wp2_with fail
  go_ret
  exact ⟨ret_i HO.out.symm, S2.bel⟩

set_option maxRecDepth 100000 in
set_option maxHeartbeats 2000000 in
theorem ROrder_c (x y : RpmL) (w : World) (hx : Sz x) (hy : Sz y) (h1 : fitB x = true) (h2 : fitB y = true) (h3 : cmpD x.ep y.ep ≠ 0) :
    Calls Try.prog 20 #[verV x, verV y] w fun e w' => e = .returned (.int .i64 (ordF x y)) ∧ Below w.heap.size w w' := by
  have hO : ordF x y = if fitB x then (if fitB y then ordO x y else 0) else 0 := rfl
  have F1 := fun w => RFit_any x w hx
  have F2 := fun w => RFit_any y w hy
  rw [h1, h2, if_pos rfl, if_pos rfl] at hO
  rw [h1] at F1
  rw [h2] at F2
  have hOO : ordO x y = or3 (cmpD x.ep y.ep) (partO x.ver y.ver) (relO x y) := rfl
  have CD := fun w => RCmp_any (ofL x.ep) (ofL y.ep) w (by rw [ofL_size]; have := hx.1; omega) (by rw [ofL_size]; have := hy.1; omega)
  have SV := fun w => RSegments_any (ofL x.ver) (ofL y.ver) w (by rw [ofL_size]; have := hx.2.1; omega) (by rw [ofL_size]; have := hy.2.1; omega)
  have SR := fun w => RSegments_any (ofL x.rel) (ofL y.rel) w (by rw [ofL_size]; have := hx.2.2; omega) (by rw [ofL_size]; have := hy.2.2; omega)
  rw [ofL_data, ofL_data] at CD SV SR
  have hR : relO x y = if x.has = y.has then partO x.rel y.rel else if x.has then 1 else -1 := rfl
  have HO : Hid (ordF x y = cmpD x.ep y.ep) := by show _ = _; rw [hO, hOO]; unfold or3; rw [if_pos h3]
  generalize cmpD x.ep y.ep = o1 at *
  have g1 : (o1 == 0) = false := by simpa using h3
  have g2 : (o1 != 0) = true := by simpa using h3
  have CD := hide CD
  clear h1 h2 h3 hO hOO hR SV SR
  unfold verV at F1 F2
  have F1 := hide F1
  have F2 := hide F2
  unfold verV
  have S0 := OB.start w x y
  clear hx hy
  go_enter Try.func20, Try.ntmps20
  go_wp2_with fail
  generalize (w.alloc (.cells #[.string (ofL x.ep), .string (ofL x.ver), .string (ofL x.rel), .bool x.has] 23)).alloc (.cells #[.string (ofL y.ep), .string (ofL y.ver), .string (ofL y.rel), .bool y.has] 23) = W0 at *
  refine (F1.out _).mono ?_
  rintro e w1 ⟨rfl, b1⟩
  have S1 := S0.next b1
  obtain ⟨c10, c11, c12, c13, c14, c15, c16, c17⟩ := S1.seen
  go_wp2_with fail
  refine (F2.out _).mono ?_
  rintro e w2 ⟨rfl, b2⟩
  have S2 := S1.next b2
  obtain ⟨c20, c21, c22, c23, c24, c25, c26, c27⟩ := S2.seen
  go_wp2_with fail
  refine (CD.out _).mono ?_
  rintro e w' ⟨rfl, hw'⟩
  rw [hw']
  clear hw' w'
  go_wp2_with fail
  go_ret
  exact ⟨ret_i HO.out.symm, S2.bel⟩

set_option maxRecDepth 100000 in
set_option maxHeartbeats 2000000 in
theorem ROrder_d (x y : RpmL) (w : World) (hx : Sz x) (hy : Sz y) (h1 : fitB x = true) (h2 : fitB y = true) (h3 : cmpD x.ep y.ep = 0) (h4 : partO x.ver y.ver ≠ 0) :
    Calls Try.prog 20 #[verV x, verV y] w fun e w' => e = .returned (.int .i64 (ordF x y)) ∧ Below w.heap.size w w' := by
  have hO : ordF x y = if fitB x then (if fitB y then ordO x y else 0) else 0 := rfl
  have F1 := fun w => RFit_any x w hx
  have F2 := fun w => RFit_any y w hy
  rw [h1, h2, if_pos rfl, if_pos rfl] at hO
  rw [h1] at F1
  rw [h2] at F2
  have hOO : ordO x y = or3 (cmpD x.ep y.ep) (partO x.ver y.ver) (relO x y) := rfl
  have CD := fun w => RCmp_any (ofL x.ep) (ofL y.ep) w (by rw [ofL_size]; have := hx.1; omega) (by rw [ofL_size]; have := hy.1; omega)
  have SV := fun w => RSegments_any (ofL x.ver) (ofL y.ver) w (by rw [ofL_size]; have := hx.2.1; omega) (by rw [ofL_size]; have := hy.2.1; omega)
  have SR := fun w => RSegments_any (ofL x.rel) (ofL y.rel) w (by rw [ofL_size]; have := hx.2.2; omega) (by rw [ofL_size]; have := hy.2.2; omega)
  rw [ofL_data, ofL_data] at CD SV SR
  have hR : relO x y = if x.has = y.has then partO x.rel y.rel else if x.has then 1 else -1 := rfl
  have HO : Hid (ordF x y = partO x.ver y.ver) := by show _ = _; rw [hO, hOO]; unfold or3; rw [if_neg (by omega), if_pos h4]
  rw [h3] at CD
  generalize partO x.ver y.ver = o2 at *
  have g2 : (o2 != 0) = true := by simpa using h4
  have CD := hide CD
  have SV := hide SV
  clear h1 h2 h3 h4 hO hOO hR SR
  unfold verV at F1 F2
  have F1 := hide F1
  have F2 := hide F2
  unfold verV
  have S0 := OB.start w x y
  clear hx hy
  go_enter Try.func20, Try.ntmps20
  go_wp2_with fail
  generalize (w.alloc (.cells #[.string (ofL x.ep), .string (ofL x.ver), .string (ofL x.rel), .bool x.has] 23)).alloc (.cells #[.string (ofL y.ep), .string (ofL y.ver), .string (ofL y.rel), .bool y.has] 23) = W0 at *
  refine (F1.out _).mono ?_
  rintro e w1 ⟨rfl, b1⟩
  have S1 := S0.next b1
  obtain ⟨c10, c11, c12, c13, c14, c15, c16, c17⟩ := S1.seen
  go_wp2_with fail
  refine (F2.out _).mono ?_
  rintro e w2 ⟨rfl, b2⟩
  have S2 := S1.next b2
  obtain ⟨c20, c21, c22, c23, c24, c25, c26, c27⟩ := S2.seen
  go_wp2_with fail
  refine (CD.out _).mono ?_
  rintro e w' ⟨rfl, hw'⟩
  rw [hw']
  clear hw' w'
  go_wp2_with fail
  refine (SV.out _).mono ?_
  rintro e w3 ⟨rfl, b3⟩
  have S3 := S2.next b3
  obtain ⟨c30, c31, c32, c33, c34, c35, c36, c37⟩ := S3.seen
  go_wp2_with fail
  go_ret
  exact ⟨ret_i HO.out.symm, S3.bel⟩

set_option maxRecDepth 100000 in
set_option maxHeartbeats 2000000 in
theorem ROrder_e (x y : RpmL) (w : World) (hx : Sz x) (hy : Sz y) (h1 : fitB x = true) (h2 : fitB y = true) (h3 : cmpD x.ep y.ep = 0) (h4 : partO x.ver y.ver = 0) (h5 : x.has = true) (h6 : y.has = false) :
    Calls Try.prog 20 #[verV x, verV y] w fun e w' => e = .returned (.int .i64 (ordF x y)) ∧ Below w.heap.size w w' := by
  have hO : ordF x y = if fitB x then (if fitB y then ordO x y else 0) else 0 := rfl
  have F1 := fun w => RFit_any x w hx
  have F2 := fun w => RFit_any y w hy
  rw [h1, h2, if_pos rfl, if_pos rfl] at hO
  rw [h1] at F1
  rw [h2] at F2
  have hOO : ordO x y = or3 (cmpD x.ep y.ep) (partO x.ver y.ver) (relO x y) := rfl
  have CD := fun w => RCmp_any (ofL x.ep) (ofL y.ep) w (by rw [ofL_size]; have := hx.1; omega) (by rw [ofL_size]; have := hy.1; omega)
  have SV := fun w => RSegments_any (ofL x.ver) (ofL y.ver) w (by rw [ofL_size]; have := hx.2.1; omega) (by rw [ofL_size]; have := hy.2.1; omega)
  have SR := fun w => RSegments_any (ofL x.rel) (ofL y.rel) w (by rw [ofL_size]; have := hx.2.2; omega) (by rw [ofL_size]; have := hy.2.2; omega)
  rw [ofL_data, ofL_data] at CD SV SR
  have hR : relO x y = if x.has = y.has then partO x.rel y.rel else if x.has then 1 else -1 := rfl
  have HO : Hid (ordF x y = 1) := by show _ = _; rw [hO, hOO]; unfold or3; rw [if_neg (by omega), if_neg (by omega), hR, h5, h6]; rfl
  rw [h3] at CD
  rw [h4] at SV
  have CD := hide CD
  have SV := hide SV
  clear SR
  have H5 := hide h5
  have H6 := hide h6
  clear h1 h2 h3 h4 hO hOO hR h5 h6
  unfold verV at F1 F2
  have F1 := hide F1
  have F2 := hide F2
  unfold verV
  have S0 := OB.start w x y
  clear hx hy
  go_enter Try.func20, Try.ntmps20
  go_wp2_with fail
  generalize (w.alloc (.cells #[.string (ofL x.ep), .string (ofL x.ver), .string (ofL x.rel), .bool x.has] 23)).alloc (.cells #[.string (ofL y.ep), .string (ofL y.ver), .string (ofL y.rel), .bool y.has] 23) = W0 at *
  refine (F1.out _).mono ?_
  rintro e w1 ⟨rfl, b1⟩
  have S1 := S0.next b1
  obtain ⟨c10, c11, c12, c13, c14, c15, c16, c17⟩ := S1.seen
  go_wp2_with fail
  refine (F2.out _).mono ?_
  rintro e w2 ⟨rfl, b2⟩
  have S2 := S1.next b2
  obtain ⟨c20, c21, c22, c23, c24, c25, c26, c27⟩ := S2.seen
  go_wp2_with fail
  refine (CD.out _).mono ?_
  rintro e w' ⟨rfl, hw'⟩
  rw [hw']
  clear hw' w'
  go_wp2_with fail
  refine (SV.out _).mono ?_
  rintro e w3 ⟨rfl, b3⟩
  have S3 := S2.next b3
  obtain ⟨c30, c31, c32, c33, c34, c35, c36, c37⟩ := S3.seen
  rw [H5.out] at c33
  rw [H6.out] at c37
  go_wp2_with fail
  go_ret
  exact ⟨ret_i HO.out.symm, S3.bel⟩

set_option maxRecDepth 100000 in
set_option maxHeartbeats 2000000 in
theorem ROrder_f (x y : RpmL) (w : World) (hx : Sz x) (hy : Sz y) (h1 : fitB x = true) (h2 : fitB y = true) (h3 : cmpD x.ep y.ep = 0) (h4 : partO x.ver y.ver = 0) (h5 : x.has = false) (h6 : y.has = true) :
    Calls Try.prog 20 #[verV x, verV y] w fun e w' => e = .returned (.int .i64 (ordF x y)) ∧ Below w.heap.size w w' := by
  have hO : ordF x y = if fitB x then (if fitB y then ordO x y else 0) else 0 := rfl
  have F1 := fun w => RFit_any x w hx
  have F2 := fun w => RFit_any y w hy
  rw [h1, h2, if_pos rfl, if_pos rfl] at hO
  rw [h1] at F1
  rw [h2] at F2
  have hOO : ordO x y = or3 (cmpD x.ep y.ep) (partO x.ver y.ver) (relO x y) := rfl
  have CD := fun w => RCmp_any (ofL x.ep) (ofL y.ep) w (by rw [ofL_size]; have := hx.1; omega) (by rw [ofL_size]; have := hy.1; omega)
  have SV := fun w => RSegments_any (ofL x.ver) (ofL y.ver) w (by rw [ofL_size]; have := hx.2.1; omega) (by rw [ofL_size]; have := hy.2.1; omega)
  have SR := fun w => RSegments_any (ofL x.rel) (ofL y.rel) w (by rw [ofL_size]; have := hx.2.2; omega) (by rw [ofL_size]; have := hy.2.2; omega)
  rw [ofL_data, ofL_data] at CD SV SR
  have hR : relO x y = if x.has = y.has then partO x.rel y.rel else if x.has then 1 else -1 := rfl
  have HO : Hid (ordF x y = -1) := by show _ = _; rw [hO, hOO]; unfold or3; rw [if_neg (by omega), if_neg (by omega), hR, h5, h6]; rfl
  rw [h3] at CD
  rw [h4] at SV
  have CD := hide CD
  have SV := hide SV
  clear SR
  have H5 := hide h5
  have H6 := hide h6
  clear h1 h2 h3 h4 hO hOO hR h5 h6
  unfold verV at F1 F2
  have F1 := hide F1
  have F2 := hide F2
  unfold verV
  have S0 := OB.start w x y
  clear hx hy
  go_enter Try.func20, Try.ntmps20
  go_wp2_with fail
  generalize (w.alloc (.cells #[.string (ofL x.ep), .string (ofL x.ver), .string (ofL x.rel), .bool x.has] 23)).alloc (.cells #[.string (ofL y.ep), .string (ofL y.ver), .string (ofL y.rel), .bool y.has] 23) = W0 at *
  refine (F1.out _).mono ?_
  rintro e w1 ⟨rfl, b1⟩
  have S1 := S0.next b1
  obtain ⟨c10, c11, c12, c13, c14, c15, c16, c17⟩ := S1.seen
  go_wp2_with fail
  refine (F2.out _).mono ?_
  rintro e w2 ⟨rfl, b2⟩
  have S2 := S1.next b2
  obtain ⟨c20, c21, c22, c23, c24, c25, c26, c27⟩ := S2.seen
  go_wp2_with fail
  refine (CD.out _).mono ?_
  rintro e w' ⟨rfl, hw'⟩
  rw [hw']
  clear hw' w'
  go_wp2_with fail
  refine (SV.out _).mono ?_
  rintro e w3 ⟨rfl, b3⟩
  have S3 := S2.next b3
  obtain ⟨c30, c31, c32, c33, c34, c35, c36, c37⟩ := S3.seen
  rw [H5.out] at c33
  rw [H6.out] at c37
  go_wp2_with fail
  go_ret
  exact ⟨ret_i HO.out.symm, S3.bel⟩

set_option maxRecDepth 100000 in
set_option maxHeartbeats 2000000 in
theorem ROrder_g (x y : RpmL) (w : World) (hx : Sz x) (hy : Sz y) (h1 : fitB x = true) (h2 : fitB y = true) (h3 : cmpD x.ep y.ep = 0) (h4 : partO x.ver y.ver = 0) (h5 : x.has = true) (h6 : y.has = true) :
    Calls Try.prog 20 #[verV x, verV y] w fun e w' => e = .returned (.int .i64 (ordF x y)) ∧ Below w.heap.size w w' := by
  have hO : ordF x y = if fitB x then (if fitB y then ordO x y else 0) else 0 := rfl
  have F1 := fun w => RFit_any x w hx
  have F2 := fun w => RFit_any y w hy
  rw [h1, h2, if_pos rfl, if_pos rfl] at hO
  rw [h1] at F1
  rw [h2] at F2
  have hOO : ordO x y = or3 (cmpD x.ep y.ep) (partO x.ver y.ver) (relO x y) := rfl
  have CD := fun w => RCmp_any (ofL x.ep) (ofL y.ep) w (by rw [ofL_size]; have := hx.1; omega) (by rw [ofL_size]; have := hy.1; omega)
  have SV := fun w => RSegments_any (ofL x.ver) (ofL y.ver) w (by rw [ofL_size]; have := hx.2.1; omega) (by rw [ofL_size]; have := hy.2.1; omega)
  have SR := fun w => RSegments_any (ofL x.rel) (ofL y.rel) w (by rw [ofL_size]; have := hx.2.2; omega) (by rw [ofL_size]; have := hy.2.2; omega)
  rw [ofL_data, ofL_data] at CD SV SR
  have hR : relO x y = if x.has = y.has then partO x.rel y.rel else if x.has then 1 else -1 := rfl
  have HO : Hid (ordF x y = partO x.rel y.rel) := by show _ = _; rw [hO, hOO]; unfold or3; rw [if_neg (by omega), if_neg (by omega), hR, h5, h6]; rfl
  rw [h3] at CD
  rw [h4] at SV
  have CD := hide CD
  have SV := hide SV
  generalize partO x.rel y.rel = o3 at *
  have SR := hide SR
  have H5 := hide h5
  have H6 := hide h6
  clear h1 h2 h3 h4 hO hOO hR h5 h6
  unfold verV at F1 F2
  have F1 := hide F1
  have F2 := hide F2
  unfold verV
  have S0 := OB.start w x y
  clear hx hy
  go_enter Try.func20, Try.ntmps20
  go_wp2_with fail
  generalize (w.alloc (.cells #[.string (ofL x.ep), .string (ofL x.ver), .string (ofL x.rel), .bool x.has] 23)).alloc (.cells #[.string (ofL y.ep), .string (ofL y.ver), .string (ofL y.rel), .bool y.has] 23) = W0 at *
  refine (F1.out _).mono ?_
  rintro e w1 ⟨rfl, b1⟩
  have S1 := S0.next b1
  obtain ⟨c10, c11, c12, c13, c14, c15, c16, c17⟩ := S1.seen
  go_wp2_with fail
  refine (F2.out _).mono ?_
  rintro e w2 ⟨rfl, b2⟩
  have S2 := S1.next b2
  obtain ⟨c20, c21, c22, c23, c24, c25, c26, c27⟩ := S2.seen
  go_wp2_with fail
  refine (CD.out _).mono ?_
  rintro e w' ⟨rfl, hw'⟩
  rw [hw']
  clear hw' w'
  go_wp2_with fail
  refine (SV.out _).mono ?_
  rintro e w3 ⟨rfl, b3⟩
  have S3 := S2.next b3
  obtain ⟨c30, c31, c32, c33, c34, c35, c36, c37⟩ := S3.seen
  rw [H5.out] at c33
  rw [H6.out] at c37
  go_wp2_with fail
  refine (SR.out _).mono ?_
  rintro e w4 ⟨rfl, b4⟩
  have S4 := S3.next b4
  obtain ⟨c40, c41, c42, c43, c44, c45, c46, c47⟩ := S4.seen
  go_wp2_with fail
  go_ret
  exact ⟨ret_i HO.out.symm, S4.bel⟩

set_option maxRecDepth 100000 in
set_option maxHeartbeats 2000000 in
theorem ROrder_h (x y : RpmL) (w : World) (hx : Sz x) (hy : Sz y) (h1 : fitB x = true) (h2 : fitB y = true) (h3 : cmpD x.ep y.ep = 0) (h4 : partO x.ver y.ver = 0) (h5 : x.has = false) (h6 : y.has = false) :
    Calls Try.prog 20 #[verV x, verV y] w fun e w' => e = .returned (.int .i64 (ordF x y)) ∧ Below w.heap.size w w' := by
  have hO : ordF x y = if fitB x then (if fitB y then ordO x y else 0) else 0 := rfl
  have F1 := fun w => RFit_any x w hx
  have F2 := fun w => RFit_any y w hy
  rw [h1, h2, if_pos rfl, if_pos rfl] at hO
  rw [h1] at F1
  rw [h2] at F2
  have hOO : ordO x y = or3 (cmpD x.ep y.ep) (partO x.ver y.ver) (relO x y) := rfl
  have CD := fun w => RCmp_any (ofL x.ep) (ofL y.ep) w (by rw [ofL_size]; have := hx.1; omega) (by rw [ofL_size]; have := hy.1; omega)
  have SV := fun w => RSegments_any (ofL x.ver) (ofL y.ver) w (by rw [ofL_size]; have := hx.2.1; omega) (by rw [ofL_size]; have := hy.2.1; omega)
  have SR := fun w => RSegments_any (ofL x.rel) (ofL y.rel) w (by rw [ofL_size]; have := hx.2.2; omega) (by rw [ofL_size]; have := hy.2.2; omega)
  rw [ofL_data, ofL_data] at CD SV SR
  have hR : relO x y = if x.has = y.has then partO x.rel y.rel else if x.has then 1 else -1 := rfl
  have HO : Hid (ordF x y = partO x.rel y.rel) := by show _ = _; rw [hO, hOO]; unfold or3; rw [if_neg (by omega), if_neg (by omega), hR, h5, h6]; rfl
  rw [h3] at CD
  rw [h4] at SV
  have CD := hide CD
  have SV := hide SV
  generalize partO x.rel y.rel = o3 at *
  have SR := hide SR
  have H5 := hide h5
  have H6 := hide h6
  clear h1 h2 h3 h4 hO hOO hR h5 h6
  unfold verV at F1 F2
  have F1 := hide F1
  have F2 := hide F2
  unfold verV
  have S0 := OB.start w x y
  clear hx hy
  go_enter Try.func20, Try.ntmps20
  go_wp2_with fail
  generalize (w.alloc (.cells #[.string (ofL x.ep), .string (ofL x.ver), .string (ofL x.rel), .bool x.has] 23)).alloc (.cells #[.string (ofL y.ep), .string (ofL y.ver), .string (ofL y.rel), .bool y.has] 23) = W0 at *
  refine (F1.out _).mono ?_
  rintro e w1 ⟨rfl, b1⟩
  have S1 := S0.next b1
  obtain ⟨c10, c11, c12, c13, c14, c15, c16, c17⟩ := S1.seen
  go_wp2_with fail
  refine (F2.out _).mono ?_
  rintro e w2 ⟨rfl, b2⟩
  have S2 := S1.next b2
  obtain ⟨c20, c21, c22, c23, c24, c25, c26, c27⟩ := S2.seen
  go_wp2_with fail
  refine (CD.out _).mono ?_
  rintro e w' ⟨rfl, hw'⟩
  rw [hw']
  clear hw' w'
  go_wp2_with fail
  refine (SV.out _).mono ?_
  rintro e w3 ⟨rfl, b3⟩
  have S3 := S2.next b3
  obtain ⟨c30, c31, c32, c33, c34, c35, c36, c37⟩ := S3.seen
  rw [H5.out] at c33
  rw [H6.out] at c37
  go_wp2_with fail
  refine (SR.out _).mono ?_
  rintro e w4 ⟨rfl, b4⟩
  have S4 := S3.next b4
  obtain ⟨c40, c41, c42, c43, c44, c45, c46, c47⟩ := S4.seen
  go_wp2_with fail
  go_ret
  exact ⟨ret_i HO.out.symm, S4.bel⟩

theorem ROrder_any (x y : RpmL) (w : World) (hx : Sz x) (hy : Sz y) :
    Calls Try.prog 20 #[verV x, verV y] w fun e w' => e = .returned (.int .i64 (ordF x y)) ∧ Below w.heap.size w w' := by
  cases h1 : fitB x
  · exact ROrder_a x y w hx hy h1
  cases h2 : fitB y
  · exact ROrder_b x y w hx hy h1 h2
  by_cases h3 : cmpD x.ep y.ep = 0
  · by_cases h4 : partO x.ver y.ver = 0
    · cases h5 : x.has <;> cases h6 : y.has
      · exact ROrder_h x y w hx hy h1 h2 h3 h4 h5 h6
      · exact ROrder_f x y w hx hy h1 h2 h3 h4 h5 h6
      · exact ROrder_e x y w hx hy h1 h2 h3 h4 h5 h6
      · exact ROrder_g x y w hx hy h1 h2 h3 h4 h5 h6
    · exact ROrder_d x y w hx hy h1 h2 h3 h4
  · exact ROrder_c x y w hx hy h1 h2 h3

theorem sz_of {l : List UInt8} {x : RpmL} (h : parseL l = .ok x) : Sz x := by
  obtain ⟨h1, h2, h3⟩ := parse_short h
  exact ⟨by omega, by omega, by omega⟩

set_option maxRecDepth 100000 in
set_option maxHeartbeats 2000000 in
theorem RCompare_oo (s t : ByteArray) (w : World) (x : RpmL) (h1 : parseL s.data.toList = .ok x) (y : RpmL) (h2 : parseL t.data.toList = .ok y) :
    Calls Try.prog 13 #[.string s, .string t] w fun e w' => e = .returned (.int .i64 (cmpT s.data.toList t.data.toList)) ∧ Below w.heap.size w w' := by
  have P1 := fun w => RParse_any s w
  have P2 := fun w => RParse_any t w
  rw [pres_ok h1] at P1
  rw [pres_ok h2] at P2
  have HT : Hid (cmpT s.data.toList t.data.toList = ordO x y) := by show _ = _; unfold cmpT; rw [h1, h2]
  have OR := fun w => ROrder_any x y w (sz_of h1) (sz_of h2)
  rw [show ordF x y = ordO x y by unfold ordF; rw [read_fitB h1, read_fitB h2]; rfl] at OR
  unfold verV at OR
  have OR := hide OR
  have P1 := hide P1
  have P2 := hide P2
  generalize cmpT s.data.toList t.data.toList = CT at *
  clear h1 h2
  go_enter Try.func13, Try.ntmps13
  go_wp2_with fail
  refine (P1.out _).mono ?_
  rintro e w1 ⟨rfl, b1⟩
  go_wp2_with fail
  refine (P2.out _).mono ?_
  rintro e w2 ⟨rfl, b2⟩
  obtain ⟨eA, eF⟩ := lies23 b2
  have B2 := step2 b1 b2
  have l1 := (Array.getElem?_eq_some_iff.1 eA).1
  have l2 := (Array.getElem?_eq_some_iff.1 eF).1
  have l3 : w1.heap.size < w2.heap.size + 1 := by omega
  have l4 : w1.heap.size + 1 < w2.heap.size + 1 := by omega
  have a0 := cell_at 0 eA rfl
  have a1 := cell_at 1 eA rfl
  have a2 := cell_at 2 eA rfl
  have a3 := cell_at 3 eA rfl
  have f0 := cell_at 0 eF rfl
  have B3 := hide (step0 B2 (.cells #[.string (ofL y.ep), .string (ofL y.ver), .string (ofL y.rel), .bool y.has] 23) (.cells #[.int .i64 0, .int .i64 0] 26))
  clear b1 b2 B2
  go_wp2_with fail
  refine (OR.out _).mono ?_
  rintro e w3 ⟨rfl, b3⟩
  go_wp2_with fail
  go_ret
  exact ⟨ret_i HT.out.symm, step1 B3.out b3⟩

set_option maxRecDepth 100000 in
set_option maxHeartbeats 2000000 in
theorem RCompare_oe (s t : ByteArray) (w : World) (x : RpmL) (h1 : parseL s.data.toList = .ok x) (y : Int × Nat) (h2 : parseL t.data.toList = .error y) :
    Calls Try.prog 13 #[.string s, .string t] w fun e w' => e = .returned (.int .i64 (cmpT s.data.toList t.data.toList)) ∧ Below w.heap.size w w' := by
  have P1 := fun w => RParse_any s w
  have P2 := fun w => RParse_any t w
  rw [pres_ok h1] at P1
  rw [pres_err h2] at P2
  have HT : Hid (cmpT s.data.toList t.data.toList = 1) := by show _ = _; unfold cmpT; rw [h1, h2]
  have hyb : (y.1 != 0) = true := by simpa using parse_errs h2
  have P1 := hide P1
  have P2 := hide P2
  generalize cmpT s.data.toList t.data.toList = CT at *
  clear h1 h2
  go_enter Try.func13, Try.ntmps13
  go_wp2_with fail
  refine (P1.out _).mono ?_
  rintro e w1 ⟨rfl, b1⟩
  go_wp2_with fail
  refine (P2.out _).mono ?_
  rintro e w2 ⟨rfl, b2⟩
  obtain ⟨eA, eF⟩ := lies23 b2
  have B2 := step2 b1 b2
  have l1 := (Array.getElem?_eq_some_iff.1 eA).1
  have l2 := (Array.getElem?_eq_some_iff.1 eF).1
  have l3 : w1.heap.size < w2.heap.size + 1 := by omega
  have l4 : w1.heap.size + 1 < w2.heap.size + 1 := by omega
  have a0 := cell_at 0 eA rfl
  have a1 := cell_at 1 eA rfl
  have a2 := cell_at 2 eA rfl
  have a3 := cell_at 3 eA rfl
  have f0 := cell_at 0 eF rfl
  have B3 := hide (step0 B2 (.cells #[.string ⟨#[]⟩, .string ⟨#[]⟩, .string ⟨#[]⟩, .bool false] 23) (.cells #[.int .i64 y.1, .int .i64 (y.2 : Int)] 26))
  clear b1 b2 B2
  go_wp2_with fail
  go_ret
  exact ⟨ret_i HT.out.symm, B3.out⟩

set_option maxRecDepth 100000 in
set_option maxHeartbeats 2000000 in
theorem RCompare_eo (s t : ByteArray) (w : World) (x : Int × Nat) (h1 : parseL s.data.toList = .error x) (y : RpmL) (h2 : parseL t.data.toList = .ok y) :
    Calls Try.prog 13 #[.string s, .string t] w fun e w' => e = .returned (.int .i64 (cmpT s.data.toList t.data.toList)) ∧ Below w.heap.size w w' := by
  have P1 := fun w => RParse_any s w
  have P2 := fun w => RParse_any t w
  rw [pres_err h1] at P1
  rw [pres_ok h2] at P2
  have HT : Hid (cmpT s.data.toList t.data.toList = -1) := by show _ = _; unfold cmpT; rw [h1, h2]
  have hxb : (x.1 != 0) = true := by simpa using parse_errs h1
  have P1 := hide P1
  have P2 := hide P2
  generalize cmpT s.data.toList t.data.toList = CT at *
  clear h1 h2
  go_enter Try.func13, Try.ntmps13
  go_wp2_with fail
  refine (P1.out _).mono ?_
  rintro e w1 ⟨rfl, b1⟩
  go_wp2_with fail
  refine (P2.out _).mono ?_
  rintro e w2 ⟨rfl, b2⟩
  obtain ⟨eA, eF⟩ := lies23 b2
  have B2 := step2 b1 b2
  have l1 := (Array.getElem?_eq_some_iff.1 eA).1
  have l2 := (Array.getElem?_eq_some_iff.1 eF).1
  have l3 : w1.heap.size < w2.heap.size + 1 := by omega
  have l4 : w1.heap.size + 1 < w2.heap.size + 1 := by omega
  have a0 := cell_at 0 eA rfl
  have a1 := cell_at 1 eA rfl
  have a2 := cell_at 2 eA rfl
  have a3 := cell_at 3 eA rfl
  have f0 := cell_at 0 eF rfl
  have B3 := hide (step0 B2 (.cells #[.string (ofL y.ep), .string (ofL y.ver), .string (ofL y.rel), .bool y.has] 23) (.cells #[.int .i64 0, .int .i64 0] 26))
  clear b1 b2 B2
  go_wp2_with fail
  go_ret
  exact ⟨ret_i HT.out.symm, B3.out⟩

set_option maxRecDepth 100000 in
set_option maxHeartbeats 2000000 in
theorem RCompare_ee (s t : ByteArray) (w : World) (x : Int × Nat) (h1 : parseL s.data.toList = .error x) (y : Int × Nat) (h2 : parseL t.data.toList = .error y) :
    Calls Try.prog 13 #[.string s, .string t] w fun e w' => e = .returned (.int .i64 (cmpT s.data.toList t.data.toList)) ∧ Below w.heap.size w w' := by
  have P1 := fun w => RParse_any s w
  have P2 := fun w => RParse_any t w
  rw [pres_err h1] at P1
  rw [pres_err h2] at P2
  have HT : Hid (cmpT s.data.toList t.data.toList = 0) := by show _ = _; unfold cmpT; rw [h1, h2]
  have hxb : (x.1 != 0) = true := by simpa using parse_errs h1
  have hyb : (y.1 != 0) = true := by simpa using parse_errs h2
  have P1 := hide P1
  have P2 := hide P2
  generalize cmpT s.data.toList t.data.toList = CT at *
  clear h1 h2
  go_enter Try.func13, Try.ntmps13
  go_wp2_with fail
  refine (P1.out _).mono ?_
  rintro e w1 ⟨rfl, b1⟩
  go_wp2_with fail
  refine (P2.out _).mono ?_
  rintro e w2 ⟨rfl, b2⟩
  obtain ⟨eA, eF⟩ := lies23 b2
  have B2 := step2 b1 b2
  have l1 := (Array.getElem?_eq_some_iff.1 eA).1
  have l2 := (Array.getElem?_eq_some_iff.1 eF).1
  have l3 : w1.heap.size < w2.heap.size + 1 := by omega
  have l4 : w1.heap.size + 1 < w2.heap.size + 1 := by omega
  have a0 := cell_at 0 eA rfl
  have a1 := cell_at 1 eA rfl
  have a2 := cell_at 2 eA rfl
  have a3 := cell_at 3 eA rfl
  have f0 := cell_at 0 eF rfl
  have B3 := hide (step0 B2 (.cells #[.string ⟨#[]⟩, .string ⟨#[]⟩, .string ⟨#[]⟩, .bool false] 23) (.cells #[.int .i64 y.1, .int .i64 (y.2 : Int)] 26))
  clear b1 b2 B2
  go_wp2_with fail
  go_ret
  exact ⟨ret_i HT.out.symm, B3.out⟩

theorem RCompare_any (s t : ByteArray) (w : World) :
    Calls Try.prog 13 #[.string s, .string t] w fun e w' => e = .returned (.int .i64 (cmpT s.data.toList t.data.toList)) ∧ Below w.heap.size w w' := by
  cases h1 : parseL s.data.toList with
  | error x =>
    cases h2 : parseL t.data.toList with
    | error y => exact RCompare_ee s t w x h1 y h2
    | ok y => exact RCompare_eo s t w x h1 y h2
  | ok x =>
    cases h2 : parseL t.data.toList with
    | error y => exact RCompare_oe s t w x h1 y h2
    | ok y => exact RCompare_oo s t w x h1 y h2

end Go.Proofs.Ytmcabgjcppnihaa
