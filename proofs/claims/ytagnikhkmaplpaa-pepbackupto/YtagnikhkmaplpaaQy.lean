/-
  Walks: there and back (one that is short).
-/
import Derived.Test.YtagnikhkmaplpaaQv
import Derived.Test.YtagnikhkmaplpaaQo
import Derived.Test.YtagnikhkmaplpaaQp
namespace Go.Proofs.Ytagnikhkmaplpaa
open Go.RowKit Go.Shelf
set_option linter.unusedVariables false

set_option maxRecDepth 100000 in
set_option maxHeartbeats 8000000 in
theorem back_C1 (x : PepL) (r1 q1 : Option Addr) (c1 d1 : Nat) (s : ByteArray) (w : World) (rr : Txt w (.slice r1 x.rel.length c1) x.rel) (ll : Txt w (.slice q1 x.loc.length d1) x.loc) (k1 : x.rel.length ≤ c1) (k2 : x.loc.length ≤ d1) (hl : lenP x ≤ 1048576) (hs : s.size ≤ 1048576) (hf : fitR x = true) (hg : (textP x).length ≤ 64) (ho : okP s.data.toList = false) :
    Calls Try.prog 4 #[.string s, .agg #[.string (ofL x.ep), .slice r1 x.rel.length c1, .int .u8 x.c, .string (ofL x.n), .bool x.b, .string (ofL x.m), .bool x.d, .string (ofL x.k), .slice q1 x.loc.length d1]] w fun e w' => e = .returned (.bool true) ∧ Below w.heap.size w w' := by
  have S0 : TB w x r1 q1 c1 d1 (w.alloc (.cells #[.string (ofL x.ep), .slice r1 x.rel.length c1, .int .u8 x.c, .string (ofL x.n), .bool x.b, .string (ofL x.m), .bool x.d, .string (ofL x.k), .slice q1 x.loc.length d1] 25)) := TB.start rr ll
  have FT := fun (W : World) (hW : TB w x r1 q1 c1 d1 W) => RFit_any x r1 q1 c1 d1 W hW.rr hW.ll (mid_of x hl)
  rw [hf] at FT
  have FT := hide FT
  have AW := hide awake_any
  have TX := hide (fun (W : World) (hW : TB w x r1 q1 c1 d1 W) => RText_any x r1 q1 c1 d1 W hW.rr hW.ll hl hf)
  have zt := ofL_size (textP x)
  have hg' : ((ofL (textP x)).size : Int) ≤ 64 := by omega
  have FX := fit_of hf
  have SX := small_of x FX hg
  have TB' := text_back x FX hg
  have T1 := hide (fun (W : World) (hW : TB w x r1 q1 c1 d1 W) => Text_any x r1 q1 c1 d1 W hW.rr hW.ll k1 k2 SX FX)
  have P7 := fun w => Parse_ok (ofL (textP x)) w (by rw [ofL_data]; exact TB'.1)
  rw [ofL_data, TB'.2] at P7
  have P7 := hide P7
  have SH := hide SX.short
  generalize ofL (textP x) = TT at *
  clear zt hg FX SX TB'
  have NN := hide (fun w => Normal_no s w (by omega) ho)
  clear ho
  clear rr ll hf hl
  obtain ⟨s0, s1, s2, s3, s4, s5, s6, s7, s8⟩ := S0.seen
  have HS := hide S0
  clear S0
  go_enter Try.func4, Try.ntmps4
  go_wp2_with fail
  generalize w.alloc (.cells #[.string (ofL x.ep), .slice r1 x.rel.length c1, .int .u8 x.c, .string (ofL x.n), .bool x.b, .string (ofL x.m), .bool x.d, .string (ofL x.k), .slice q1 x.loc.length d1] 25) = W0 at *
  refine (FT.out _ HS.out).mono ?_
  rintro e w2 ⟨rfl, b2⟩
  have H2 := hide (HS.out.next b2)
  clear s0 s1 s2 s3 s4 s5 s6 s7 s8
  obtain ⟨s0, s1, s2, s3, s4, s5, s6, s7, s8⟩ := H2.out.seen
  go_wp2_with fail
  refine (TX.out _ H2.out).mono ?_
  rintro e w3 ⟨rfl, b3⟩
  have H3 := hide (H2.out.next b3)
  clear s0 s1 s2 s3 s4 s5 s6 s7 s8
  obtain ⟨s0, s1, s2, s3, s4, s5, s6, s7, s8⟩ := H3.out.seen
  go_wp2_with fail
  refine (T1.out _ H3.out).mono ?_
  rintro e w4 ⟨rfl, b4⟩
  have H4 := hide (H3.out.next b4)
  clear s0 s1 s2 s3 s4 s5 s6 s7 s8
  go_wp2_with fail
  refine (P7.out _).mono ?_
  rintro e w5 ⟨vr, vl, rfl, t1, t2, _, _, b5⟩
  obtain ⟨r2, c2, rfl, _⟩ := id t1
  obtain ⟨q2, d2, rfl, _⟩ := id t2
  have H5 := hide (H4.out.next b5)
  obtain ⟨s0, s1, s2, s3, s4, s5, s6, s7, s8⟩ := H5.out.seen
  have g1 := (Array.getElem?_eq_some_iff.1 H5.out.ea).1
  have g2 : w.heap.size < w5.heap.size + 1 := by omega
  have bq : Below w5.heap.size w5 ((w5.alloc (.cells #[.string (ofL x.ep), .slice r2 x.rel.length c2, .int .u8 x.c, .string (ofL x.n), .bool x.b, .string (ofL x.m), .bool x.d, .string (ofL x.k), .slice q2 x.loc.length d2] 25)).alloc (.cells #[.int .i64 0, .int .i64 0] 28)) := ((Below.refl _ w5).alloc (Nat.le_refl _) _).alloc (by simp) _
  have SM := fun (W : World) (hW : Below w5.heap.size w5 W) => Same_true x r1 r2 q1 q2 c1 c2 d1 d2 W (H5.out.rr.below hW) (t1.below hW) (H5.out.ll.below hW) (t2.below hW) SH.out
  have SM := hide SM
  have BQ := hide bq
  clear t1 t2 b5 bq
  try unfold pepV
  go_wp2_with fail
  refine (SM.out _ (by first | exact BQ.out | exact BQ.out.trans (below_drewN _ _ _))).mono ?_
  rintro e w6 ⟨rfl, b6⟩
  have B6 : Hid (Below w.heap.size w w6) := by
    have q1 := H5.out.next BQ.out
    exact (q1.next b6).bel
  go_wp2_with fail
  have LB := hide (B6.out)
  refine (NN.out _).mono ?_
  rintro e w7 ⟨rfl, b7⟩
  have L7 := hide (LB.out.trans (b7.mono LB.out.size))
  go_wp2_with fail
  refine (AW.out _).mono ?_
  rintro e wa ⟨rfl, ba⟩
  go_wp2_with fail
  go_ret
  exact ⟨rfl, L7.out.trans (ba.mono L7.out.size)⟩

set_option maxRecDepth 100000 in
set_option maxHeartbeats 8000000 in
theorem back_C2 (x : PepL) (r1 q1 : Option Addr) (c1 d1 : Nat) (s : ByteArray) (w : World) (rr : Txt w (.slice r1 x.rel.length c1) x.rel) (ll : Txt w (.slice q1 x.loc.length d1) x.loc) (k1 : x.rel.length ≤ c1) (k2 : x.loc.length ≤ d1) (hl : lenP x ≤ 1048576) (hs : s.size ≤ 1048576) (hf : fitR x = true) (hg : (textP x).length ≤ 64) (ho : okP s.data.toList = true) (hn : ¬ (textP (pepOf (lowL s.data.toList))).length ≤ 64) :
    Calls Try.prog 4 #[.string s, .agg #[.string (ofL x.ep), .slice r1 x.rel.length c1, .int .u8 x.c, .string (ofL x.n), .bool x.b, .string (ofL x.m), .bool x.d, .string (ofL x.k), .slice q1 x.loc.length d1]] w fun e w' => e = .returned (.bool true) ∧ Below w.heap.size w w' := by
  have S0 : TB w x r1 q1 c1 d1 (w.alloc (.cells #[.string (ofL x.ep), .slice r1 x.rel.length c1, .int .u8 x.c, .string (ofL x.n), .bool x.b, .string (ofL x.m), .bool x.d, .string (ofL x.k), .slice q1 x.loc.length d1] 25)) := TB.start rr ll
  have FT := fun (W : World) (hW : TB w x r1 q1 c1 d1 W) => RFit_any x r1 q1 c1 d1 W hW.rr hW.ll (mid_of x hl)
  rw [hf] at FT
  have FT := hide FT
  have AW := hide awake_any
  have TX := hide (fun (W : World) (hW : TB w x r1 q1 c1 d1 W) => RText_any x r1 q1 c1 d1 W hW.rr hW.ll hl hf)
  have zt := ofL_size (textP x)
  have hg' : ((ofL (textP x)).size : Int) ≤ 64 := by omega
  have FX := fit_of hf
  have SX := small_of x FX hg
  have TB' := text_back x FX hg
  have T1 := hide (fun (W : World) (hW : TB w x r1 q1 c1 d1 W) => Text_any x r1 q1 c1 d1 W hW.rr hW.ll k1 k2 SX FX)
  have P7 := fun w => Parse_ok (ofL (textP x)) w (by rw [ofL_data]; exact TB'.1)
  rw [ofL_data, TB'.2] at P7
  have P7 := hide P7
  have SH := hide SX.short
  generalize ofL (textP x) = TT at *
  clear zt hg FX SX TB'
  have NN := hide (fun w => Normal_ok s _ w ho rfl)
  have FY := ok_fit ho
  have hne := text_ne _ FY
  have zn := ofL_size (textP (pepOf (lowL s.data.toList)))
  have hn' : (64 : Int) < ((ofL (textP (pepOf (lowL s.data.toList)))).size : Int) := by omega
  generalize ofL (textP (pepOf (lowL s.data.toList))) = NT at *
  clear zn hn FY ho
  clear rr ll hf hl
  obtain ⟨s0, s1, s2, s3, s4, s5, s6, s7, s8⟩ := S0.seen
  have HS := hide S0
  clear S0
  go_enter Try.func4, Try.ntmps4
  go_wp2_with fail
  generalize w.alloc (.cells #[.string (ofL x.ep), .slice r1 x.rel.length c1, .int .u8 x.c, .string (ofL x.n), .bool x.b, .string (ofL x.m), .bool x.d, .string (ofL x.k), .slice q1 x.loc.length d1] 25) = W0 at *
  refine (FT.out _ HS.out).mono ?_
  rintro e w2 ⟨rfl, b2⟩
  have H2 := hide (HS.out.next b2)
  clear s0 s1 s2 s3 s4 s5 s6 s7 s8
  obtain ⟨s0, s1, s2, s3, s4, s5, s6, s7, s8⟩ := H2.out.seen
  go_wp2_with fail
  refine (TX.out _ H2.out).mono ?_
  rintro e w3 ⟨rfl, b3⟩
  have H3 := hide (H2.out.next b3)
  clear s0 s1 s2 s3 s4 s5 s6 s7 s8
  obtain ⟨s0, s1, s2, s3, s4, s5, s6, s7, s8⟩ := H3.out.seen
  go_wp2_with fail
  refine (T1.out _ H3.out).mono ?_
  rintro e w4 ⟨rfl, b4⟩
  have H4 := hide (H3.out.next b4)
  clear s0 s1 s2 s3 s4 s5 s6 s7 s8
  go_wp2_with fail
  refine (P7.out _).mono ?_
  rintro e w5 ⟨vr, vl, rfl, t1, t2, _, _, b5⟩
  obtain ⟨r2, c2, rfl, _⟩ := id t1
  obtain ⟨q2, d2, rfl, _⟩ := id t2
  have H5 := hide (H4.out.next b5)
  obtain ⟨s0, s1, s2, s3, s4, s5, s6, s7, s8⟩ := H5.out.seen
  have g1 := (Array.getElem?_eq_some_iff.1 H5.out.ea).1
  have g2 : w.heap.size < w5.heap.size + 1 := by omega
  have bq : Below w5.heap.size w5 ((w5.alloc (.cells #[.string (ofL x.ep), .slice r2 x.rel.length c2, .int .u8 x.c, .string (ofL x.n), .bool x.b, .string (ofL x.m), .bool x.d, .string (ofL x.k), .slice q2 x.loc.length d2] 25)).alloc (.cells #[.int .i64 0, .int .i64 0] 28)) := ((Below.refl _ w5).alloc (Nat.le_refl _) _).alloc (by simp) _
  have SM := fun (W : World) (hW : Below w5.heap.size w5 W) => Same_true x r1 r2 q1 q2 c1 c2 d1 d2 W (H5.out.rr.below hW) (t1.below hW) (H5.out.ll.below hW) (t2.below hW) SH.out
  have SM := hide SM
  have BQ := hide bq
  clear t1 t2 b5 bq
  try unfold pepV
  go_wp2_with fail
  refine (SM.out _ (by first | exact BQ.out | exact BQ.out.trans (below_drewN _ _ _))).mono ?_
  rintro e w6 ⟨rfl, b6⟩
  have B6 : Hid (Below w.heap.size w w6) := by
    have q1 := H5.out.next BQ.out
    exact (q1.next b6).bel
  go_wp2_with fail
  have LB := hide (B6.out)
  refine (NN.out _).mono ?_
  rintro e w7 ⟨rfl, b7⟩
  have L7 := hide (LB.out.trans (b7.mono LB.out.size))
  go_wp2_with fail
  refine (AW.out _).mono ?_
  rintro e wa ⟨rfl, ba⟩
  go_wp2_with fail
  go_ret
  exact ⟨rfl, L7.out.trans (ba.mono L7.out.size)⟩

set_option maxRecDepth 100000 in
set_option maxHeartbeats 8000000 in
theorem back_C3 (x : PepL) (r1 q1 : Option Addr) (c1 d1 : Nat) (s : ByteArray) (w : World) (rr : Txt w (.slice r1 x.rel.length c1) x.rel) (ll : Txt w (.slice q1 x.loc.length d1) x.loc) (k1 : x.rel.length ≤ c1) (k2 : x.loc.length ≤ d1) (hl : lenP x ≤ 1048576) (hs : s.size ≤ 1048576) (hf : fitR x = true) (hg : (textP x).length ≤ 64) (ho : okP s.data.toList = true) (hn : (textP (pepOf (lowL s.data.toList))).length ≤ 64) :
    Calls Try.prog 4 #[.string s, .agg #[.string (ofL x.ep), .slice r1 x.rel.length c1, .int .u8 x.c, .string (ofL x.n), .bool x.b, .string (ofL x.m), .bool x.d, .string (ofL x.k), .slice q1 x.loc.length d1]] w fun e w' => e = .returned (.bool true) ∧ Below w.heap.size w w' := by
  have S0 : TB w x r1 q1 c1 d1 (w.alloc (.cells #[.string (ofL x.ep), .slice r1 x.rel.length c1, .int .u8 x.c, .string (ofL x.n), .bool x.b, .string (ofL x.m), .bool x.d, .string (ofL x.k), .slice q1 x.loc.length d1] 25)) := TB.start rr ll
  have FT := fun (W : World) (hW : TB w x r1 q1 c1 d1 W) => RFit_any x r1 q1 c1 d1 W hW.rr hW.ll (mid_of x hl)
  rw [hf] at FT
  have FT := hide FT
  have AW := hide awake_any
  have TX := hide (fun (W : World) (hW : TB w x r1 q1 c1 d1 W) => RText_any x r1 q1 c1 d1 W hW.rr hW.ll hl hf)
  have zt := ofL_size (textP x)
  have hg' : ((ofL (textP x)).size : Int) ≤ 64 := by omega
  have FX := fit_of hf
  have SX := small_of x FX hg
  have TB' := text_back x FX hg
  have T1 := hide (fun (W : World) (hW : TB w x r1 q1 c1 d1 W) => Text_any x r1 q1 c1 d1 W hW.rr hW.ll k1 k2 SX FX)
  have P7 := fun w => Parse_ok (ofL (textP x)) w (by rw [ofL_data]; exact TB'.1)
  rw [ofL_data, TB'.2] at P7
  have P7 := hide P7
  have SH := hide SX.short
  generalize ofL (textP x) = TT at *
  clear zt hg FX SX TB'
  have NN := hide (fun w => Normal_ok s _ w ho rfl)
  have FY := ok_fit ho
  have hne := text_ne _ FY
  have zn := ofL_size (textP (pepOf (lowL s.data.toList)))
  have hn' : ¬ (64 : Int) < ((ofL (textP (pepOf (lowL s.data.toList)))).size : Int) := by omega
  have TY := text_back _ FY hn
  have N2 := hide (fun w => Normal_ok (ofL (textP (pepOf (lowL s.data.toList)))) (pepOf (lowL s.data.toList)) w (by rw [ofL_data]; exact TY.1) (by rw [ofL_data]; exact TY.2))
  have CM := fun w => CompareT_any (ofL (textP (pepOf (lowL s.data.toList)))) s w (by omega) (by omega)
  have hz : cmpT (ofL (textP (pepOf (lowL s.data.toList)))).data.toList s.data.toList = 0 := by
    rw [ofL_data]
    unfold cmpT
    rw [TY.1, TY.2, ho, if_pos rfl, if_pos rfl]
    exact ordP_cmp3.self _
  rw [hz] at CM
  have CM := hide CM
  have hse : ((ofL (textP (pepOf (lowL s.data.toList)))).toList == (ofL (textP (pepOf (lowL s.data.toList)))).toList) = true := by simp
  clear hz TY
  generalize ofL (textP (pepOf (lowL s.data.toList))) = NT at *
  clear zn hn FY ho
  clear rr ll hf hl
  obtain ⟨s0, s1, s2, s3, s4, s5, s6, s7, s8⟩ := S0.seen
  have HS := hide S0
  clear S0
  go_enter Try.func4, Try.ntmps4
  go_wp2_with fail
  generalize w.alloc (.cells #[.string (ofL x.ep), .slice r1 x.rel.length c1, .int .u8 x.c, .string (ofL x.n), .bool x.b, .string (ofL x.m), .bool x.d, .string (ofL x.k), .slice q1 x.loc.length d1] 25) = W0 at *
  refine (FT.out _ HS.out).mono ?_
  rintro e w2 ⟨rfl, b2⟩
  have H2 := hide (HS.out.next b2)
  clear s0 s1 s2 s3 s4 s5 s6 s7 s8
  obtain ⟨s0, s1, s2, s3, s4, s5, s6, s7, s8⟩ := H2.out.seen
  go_wp2_with fail
  refine (TX.out _ H2.out).mono ?_
  rintro e w3 ⟨rfl, b3⟩
  have H3 := hide (H2.out.next b3)
  clear s0 s1 s2 s3 s4 s5 s6 s7 s8
  obtain ⟨s0, s1, s2, s3, s4, s5, s6, s7, s8⟩ := H3.out.seen
  go_wp2_with fail
  refine (T1.out _ H3.out).mono ?_
  rintro e w4 ⟨rfl, b4⟩
  have H4 := hide (H3.out.next b4)
  clear s0 s1 s2 s3 s4 s5 s6 s7 s8
  go_wp2_with fail
  refine (P7.out _).mono ?_
  rintro e w5 ⟨vr, vl, rfl, t1, t2, _, _, b5⟩
  obtain ⟨r2, c2, rfl, _⟩ := id t1
  obtain ⟨q2, d2, rfl, _⟩ := id t2
  have H5 := hide (H4.out.next b5)
  obtain ⟨s0, s1, s2, s3, s4, s5, s6, s7, s8⟩ := H5.out.seen
  have g1 := (Array.getElem?_eq_some_iff.1 H5.out.ea).1
  have g2 : w.heap.size < w5.heap.size + 1 := by omega
  have bq : Below w5.heap.size w5 ((w5.alloc (.cells #[.string (ofL x.ep), .slice r2 x.rel.length c2, .int .u8 x.c, .string (ofL x.n), .bool x.b, .string (ofL x.m), .bool x.d, .string (ofL x.k), .slice q2 x.loc.length d2] 25)).alloc (.cells #[.int .i64 0, .int .i64 0] 28)) := ((Below.refl _ w5).alloc (Nat.le_refl _) _).alloc (by simp) _
  have SM := fun (W : World) (hW : Below w5.heap.size w5 W) => Same_true x r1 r2 q1 q2 c1 c2 d1 d2 W (H5.out.rr.below hW) (t1.below hW) (H5.out.ll.below hW) (t2.below hW) SH.out
  have SM := hide SM
  have BQ := hide bq
  clear t1 t2 b5 bq
  try unfold pepV
  go_wp2_with fail
  refine (SM.out _ (by first | exact BQ.out | exact BQ.out.trans (below_drewN _ _ _))).mono ?_
  rintro e w6 ⟨rfl, b6⟩
  have B6 : Hid (Below w.heap.size w w6) := by
    have q1 := H5.out.next BQ.out
    exact (q1.next b6).bel
  go_wp2_with fail
  have LB := hide (B6.out)
  refine (NN.out _).mono ?_
  rintro e w7 ⟨rfl, b7⟩
  have L7 := hide (LB.out.trans (b7.mono LB.out.size))
  go_wp2_with fail
  refine (N2.out _).mono ?_
  rintro e w8 ⟨rfl, b8⟩
  have L8 := hide (L7.out.trans (b8.mono L7.out.size))
  go_wp2_with fail
  refine (CM.out _).mono ?_
  rintro e w9 ⟨rfl, b9⟩
  have L9 := hide (L8.out.trans (b9.mono L8.out.size))
  go_wp2_with fail
  refine (AW.out _).mono ?_
  rintro e wa ⟨rfl, ba⟩
  go_wp2_with fail
  go_ret
  exact ⟨rfl, L9.out.trans (ba.mono L9.out.size)⟩

end Go.Proofs.Ytagnikhkmaplpaa
