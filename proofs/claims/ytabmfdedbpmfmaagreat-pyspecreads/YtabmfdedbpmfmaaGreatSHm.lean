/-
  Walks: the document's word that may end with a star.
-/
import Derived.Deep.Cut
import Derived.Test.YtabmfdedbpmfmaaGreatSHh
import Derived.Test.YtabmfdedbpmfmaaGreatSHk
import Derived.Test.YtabmfdedbpmfmaaGreatSYc
import Derived.Test.YtabmfdedbpmfmaaGreatSHd
namespace Go.Proofs.YtabmfdedbpmfmaaGreat
open Go.RowKit Go.Shelf
set_option linter.unusedVariables false

set_option maxRecDepth 100000 in
set_option maxHeartbeats 4000000 in
theorem RWord_1_no (s : ByteArray) (a : Nat) (w : World) (hs : s.size ≤ 256) (ha : a ≤ 256) (hE : endsW s.data.toList = false) (h : okP s.data.toList = false) :
    Calls Tryz.prog 65 #[.string ⟨#[61, 61]⟩, .string s, .int .i64 (a : Int)] w fun e w' => e = .returned (wdT 1 a (.bad (errX s.data.toList).1 (errX s.data.toList).2)) ∧ Below w.heap.size w w' := by
  have CS := fun W => Rstar_any s W (by omega)
  rw [hE] at CS
  rw [if_neg (by simp)] at CS
  have CS := hide CS
  clear hE
  have P1 := fun w => RParse_no s w h
  have hE2 := errX_le s.data.toList
  have n1 := errX_ne _ h
  generalize (errX s.data.toList).1 = E1 at *
  generalize (errX s.data.toList).2 = E2 at *
  have m1 : (E1 != 0) = true := by rw [bne, n1]; rfl
  unfold pepZ at P1
  have P1 := hide P1
  clear h
  have hB := World.alloc_heap_new w (.cells #[.string ⟨#[]⟩, .string ⟨#[]⟩, .bool false] 32)
  have hbW : Below w.heap.size w (w.alloc (.cells #[.string ⟨#[]⟩, .string ⟨#[]⟩, .bool false] 32)) := (Below.refl _ w).alloc (Nat.le_refl _) _
  have hlw : w.heap.size < (w.alloc (.cells #[.string ⟨#[]⟩, .string ⟨#[]⟩, .bool false] 32)).heap.size := by simp
  go_enter Tryz.func65, Tryz.ntmps65
  go_wp2_with fail
  generalize w.alloc _ = W0 at *
  refine (CS.out _).mono ?_
  rintro e w0 ⟨rfl, hw0⟩
  rw [hw0]
  clear hw0 w0
  go_wp2_with fail
  refine (P1.out _).mono ?_
  rintro e w1 ⟨rfl, b1⟩
  obtain ⟨V, hV, nP, nF, bV, sV⟩ := two_new w1 #[.string ⟨#[]⟩, .slice none 0 0, .int .u8 0, .string ⟨#[]⟩, .bool false, .string ⟨#[]⟩, .bool false, .string ⟨#[]⟩, .slice none 0 0] #[.int .i64 E1, .int .i64 (E2 : Int)] 44 25
  have HV := hide hV
  obtain ⟨u0, u1, _, _⟩ := seen2v nF
  clear hV nP nF
  obtain ⟨k1, k2⟩ := three_lies (w := w) (.string ⟨#[]⟩) (.string ⟨#[]⟩) (.bool false) ((bV.block _ (Nat.lt_of_lt_of_le hlw b1.size)).trans ((b1.block _ hlw).trans hB)) ((hbW.trans (b1.mono (Nat.le_of_lt hlw))).trans (bV.mono (Nat.le_trans (Nat.le_of_lt hlw) b1.size)))
  have hVB : V.heap[w.heap.size]? = some (.cells #[.string ⟨#[]⟩, .string ⟨#[]⟩, .bool false] 32 (0, 0)) := (bV.block _ (Nat.lt_of_lt_of_le hlw b1.size)).trans ((b1.block _ hlw).trans hB)
  have x0 := cell_at 0 hVB rfl
  have x1 := cell_at 1 hVB rfl
  have x2 := cell_at 2 hVB rfl
  have y0 := one_free 0 hVB
  have y1 := one_free 1 hVB
  have y2 := one_free 2 hVB
  have K1 := hide k1
  have K2 := hide k2
  have hq : w.heap.size < w1.heap.size := Nat.lt_of_lt_of_le hlw b1.size
  clear k1 k2 hVB
  go_upto_region 13 with fail
  rw [HV.out]
  go_wp2_with fail
  go_region
  all_goals
    go_wp2_with fail
    refine fin65 _ _ w.heap.size _ _ _ _ _ rfl rfl rfl K1.out ?_
    exact ⟨by unfold wdT; push_cast; rfl, K2.out.drew⟩
set_option maxRecDepth 100000 in
set_option maxHeartbeats 4000000 in
theorem RWord_1_ok (s : ByteArray) (a : Nat) (w : World) (hs : s.size ≤ 256) (ha : a ≤ 256) (hE : endsW s.data.toList = false) (h : okP s.data.toList = true) :
    Calls Tryz.prog 65 #[.string ⟨#[61, 61]⟩, .string s, .int .i64 (a : Int)] w fun e w' => e = .returned (wdT 1 a (.ok (pepOf (lowL s.data.toList)) s.data.toList false)) ∧ Below w.heap.size w w' := by
  have CS := fun W => Rstar_any s W (by omega)
  rw [hE] at CS
  rw [if_neg (by simp)] at CS
  have CS := hide CS
  clear hE
  have P1 := fun w => RParse_ok s w h
  generalize pepOf (lowL s.data.toList) = x at *
  have P1 := hide P1
  clear h
  have hB := World.alloc_heap_new w (.cells #[.string ⟨#[]⟩, .string ⟨#[]⟩, .bool false] 32)
  have hbW : Below w.heap.size w (w.alloc (.cells #[.string ⟨#[]⟩, .string ⟨#[]⟩, .bool false] 32)) := (Below.refl _ w).alloc (Nat.le_refl _) _
  have hlw : w.heap.size < (w.alloc (.cells #[.string ⟨#[]⟩, .string ⟨#[]⟩, .bool false] 32)).heap.size := by simp
  go_enter Tryz.func65, Tryz.ntmps65
  go_wp2_with fail
  generalize w.alloc _ = W0 at *
  refine (CS.out _).mono ?_
  rintro e w0 ⟨rfl, hw0⟩
  rw [hw0]
  clear hw0 w0
  go_wp2_with fail
  refine (P1.out _).mono ?_
  rintro e w1 ⟨vr, vl, rfl, t1, t2, b1⟩
  obtain ⟨r1, c1, rfl, _⟩ := id t1
  obtain ⟨q1, d1, rfl, _⟩ := id t2
  try unfold pepV
  obtain ⟨V, hV, nP, nF, bV, sV⟩ := two_new w1 #[.string (ofL x.ep), .slice r1 x.rel.length c1, .int .u8 x.c, .string (ofL x.n), .bool x.b, .string (ofL x.m), .bool x.d, .string (ofL x.k), .slice q1 x.loc.length d1] #[.int .i64 0, .int .i64 0] 44 25
  obtain ⟨s0, s1, s2, s3, s4, s5, s6, s7, s8, _⟩ := seen9v nP
  have HV := hide hV
  obtain ⟨u0, u1, _, _⟩ := seen2v nF
  clear hV nP nF
  obtain ⟨k1, k2⟩ := three_lies (w := w) (.string ⟨#[61, 61]⟩) (.string s) (.bool false) ((bV.block _ (Nat.lt_of_lt_of_le hlw b1.size)).trans ((b1.block _ hlw).trans hB)) ((hbW.trans (b1.mono (Nat.le_of_lt hlw))).trans (bV.mono (Nat.le_trans (Nat.le_of_lt hlw) b1.size)))
  have hVB : V.heap[w.heap.size]? = some (.cells #[.string ⟨#[]⟩, .string ⟨#[]⟩, .bool false] 32 (0, 0)) := (bV.block _ (Nat.lt_of_lt_of_le hlw b1.size)).trans ((b1.block _ hlw).trans hB)
  have x0 := cell_at 0 hVB rfl
  have x1 := cell_at 1 hVB rfl
  have x2 := cell_at 2 hVB rfl
  have y0 := one_free 0 hVB
  have y1 := one_free 1 hVB
  have y2 := one_free 2 hVB
  have K1 := hide k1
  have K2 := hide k2
  have hq : w.heap.size < w1.heap.size := Nat.lt_of_lt_of_le hlw b1.size
  clear k1 k2 hVB
  go_upto_region 13 with fail
  rw [HV.out]
  go_wp2_with fail
  refine fin65 _ _ w.heap.size _ _ _ _ _ rfl rfl rfl K1.out ?_
  exact ⟨by rw [wdT_ok]; rfl, K2.out⟩
set_option maxRecDepth 100000 in
set_option maxHeartbeats 4000000 in
theorem RWord_1s_no (s : ByteArray) (a : Nat) (w : World) (hs : s.size ≤ 256) (ha : a ≤ 256) (hE : endsW s.data.toList = true) (h : okP (s.extract 0 (s.size - 2)).data.toList = false) :
    Calls Tryz.prog 65 #[.string ⟨#[61, 61]⟩, .string s, .int .i64 (a : Int)] w fun e w' => e = .returned (wdT 1 a (.bad (errX (s.extract 0 (s.size - 2)).data.toList).1 (errX (s.extract 0 (s.size - 2)).data.toList).2)) ∧ Below w.heap.size w w' := by
  have CS := fun W => Rstar_any s W (by omega)
  rw [hE] at CS
  rw [if_pos rfl] at CS
  generalize s.extract 0 (s.size - 2) = T at *
  have CS := hide CS
  clear hE
  have P1 := fun w => RParse_no T w h
  have hE2 := errX_le T.data.toList
  have n1 := errX_ne _ h
  generalize (errX T.data.toList).1 = E1 at *
  generalize (errX T.data.toList).2 = E2 at *
  have m1 : (E1 != 0) = true := by rw [bne, n1]; rfl
  unfold pepZ at P1
  have P1 := hide P1
  clear h
  have hB := World.alloc_heap_new w (.cells #[.string ⟨#[]⟩, .string ⟨#[]⟩, .bool false] 32)
  have hbW : Below w.heap.size w (w.alloc (.cells #[.string ⟨#[]⟩, .string ⟨#[]⟩, .bool false] 32)) := (Below.refl _ w).alloc (Nat.le_refl _) _
  have hlw : w.heap.size < (w.alloc (.cells #[.string ⟨#[]⟩, .string ⟨#[]⟩, .bool false] 32)).heap.size := by simp
  go_enter Tryz.func65, Tryz.ntmps65
  go_wp2_with fail
  generalize w.alloc _ = W0 at *
  refine (CS.out _).mono ?_
  rintro e w0 ⟨rfl, hw0⟩
  rw [hw0]
  clear hw0 w0
  go_wp2_with fail
  refine (P1.out _).mono ?_
  rintro e w1 ⟨rfl, b1⟩
  obtain ⟨V, hV, nP, nF, bV, sV⟩ := two_new w1 #[.string ⟨#[]⟩, .slice none 0 0, .int .u8 0, .string ⟨#[]⟩, .bool false, .string ⟨#[]⟩, .bool false, .string ⟨#[]⟩, .slice none 0 0] #[.int .i64 E1, .int .i64 (E2 : Int)] 44 25
  have HV := hide hV
  obtain ⟨u0, u1, _, _⟩ := seen2v nF
  clear hV nP nF
  obtain ⟨k1, k2⟩ := three_lies (w := w) (.string ⟨#[]⟩) (.string ⟨#[]⟩) (.bool false) ((bV.block _ (Nat.lt_of_lt_of_le hlw b1.size)).trans ((b1.block _ hlw).trans hB)) ((hbW.trans (b1.mono (Nat.le_of_lt hlw))).trans (bV.mono (Nat.le_trans (Nat.le_of_lt hlw) b1.size)))
  have hVB : V.heap[w.heap.size]? = some (.cells #[.string ⟨#[]⟩, .string ⟨#[]⟩, .bool false] 32 (0, 0)) := (bV.block _ (Nat.lt_of_lt_of_le hlw b1.size)).trans ((b1.block _ hlw).trans hB)
  have x0 := cell_at 0 hVB rfl
  have x1 := cell_at 1 hVB rfl
  have x2 := cell_at 2 hVB rfl
  have y0 := one_free 0 hVB
  have y1 := one_free 1 hVB
  have y2 := one_free 2 hVB
  have K1 := hide k1
  have K2 := hide k2
  have hq : w.heap.size < w1.heap.size := Nat.lt_of_lt_of_le hlw b1.size
  clear k1 k2 hVB
  go_upto_region 13 with fail
  rw [HV.out]
  go_wp2_with fail
  go_region
  all_goals
    go_wp2_with fail
    refine fin65 _ _ w.heap.size _ _ _ _ _ rfl rfl rfl K1.out ?_
    exact ⟨by unfold wdT; push_cast; rfl, K2.out.drew⟩
set_option maxRecDepth 100000 in
set_option maxHeartbeats 4000000 in
theorem RWord_1s_bad (s : ByteArray) (a : Nat) (w : World) (hs : s.size ≤ 256) (ha : a ≤ 256) (hE : endsW s.data.toList = true) (h : okP (s.extract 0 (s.size - 2)).data.toList = true) (hb : bareB (pepOf (lowL (s.extract 0 (s.size - 2)).data.toList)) = false) :
    Calls Tryz.prog 65 #[.string ⟨#[61, 61]⟩, .string s, .int .i64 (a : Int)] w fun e w' => e = .returned (wdT 1 a (.bad 19 0)) ∧ Below w.heap.size w w' := by
  have CS := fun W => Rstar_any s W (by omega)
  rw [hE] at CS
  rw [if_pos rfl] at CS
  generalize s.extract 0 (s.size - 2) = T at *
  have CS := hide CS
  clear hE
  have P1 := fun w => RParse_ok T w h
  generalize pepOf (lowL T.data.toList) = x at *
  have P1 := hide P1
  clear h
  have BR := hide (fun r1 q1 c1 d1 W => Rbare_any x r1 q1 c1 d1 W)
  replace hb := hide hb
  have hB := World.alloc_heap_new w (.cells #[.string ⟨#[]⟩, .string ⟨#[]⟩, .bool false] 32)
  have hbW : Below w.heap.size w (w.alloc (.cells #[.string ⟨#[]⟩, .string ⟨#[]⟩, .bool false] 32)) := (Below.refl _ w).alloc (Nat.le_refl _) _
  have hlw : w.heap.size < (w.alloc (.cells #[.string ⟨#[]⟩, .string ⟨#[]⟩, .bool false] 32)).heap.size := by simp
  go_enter Tryz.func65, Tryz.ntmps65
  go_wp2_with fail
  generalize w.alloc _ = W0 at *
  refine (CS.out _).mono ?_
  rintro e w0 ⟨rfl, hw0⟩
  rw [hw0]
  clear hw0 w0
  go_wp2_with fail
  refine (P1.out _).mono ?_
  rintro e w1 ⟨vr, vl, rfl, t1, t2, b1⟩
  obtain ⟨r1, c1, rfl, _⟩ := id t1
  obtain ⟨q1, d1, rfl, _⟩ := id t2
  try unfold pepV
  obtain ⟨V, hV, nP, nF, bV, sV⟩ := two_new w1 #[.string (ofL x.ep), .slice r1 x.rel.length c1, .int .u8 x.c, .string (ofL x.n), .bool x.b, .string (ofL x.m), .bool x.d, .string (ofL x.k), .slice q1 x.loc.length d1] #[.int .i64 0, .int .i64 0] 44 25
  obtain ⟨s0, s1, s2, s3, s4, s5, s6, s7, s8, _⟩ := seen9v nP
  have HV := hide hV
  obtain ⟨u0, u1, _, _⟩ := seen2v nF
  clear hV nP nF
  have HVB := hide ((bV.block _ (Nat.lt_of_lt_of_le hlw b1.size)).trans ((b1.block _ hlw).trans hB))
  have HBV := hide ((hbW.trans (b1.mono (Nat.le_of_lt hlw))).trans (bV.mono (Nat.le_trans (Nat.le_of_lt hlw) b1.size)))
  have hlV : w.heap.size < V.heap.size := Nat.lt_of_lt_of_le (Nat.lt_of_lt_of_le hlw b1.size) bV.size
  clear bV b1 hB hbW
  go_upto_region 13 with fail
  rw [HV.out]
  go_wp2_with fail
  refine (BR.out _ _ _ _ _).mono ?_
  rintro e w2 ⟨rfl, b2⟩
  rw [hb.out]
  obtain ⟨k1, k2⟩ := three_lies (w := w) (.string ⟨#[]⟩) (.string ⟨#[]⟩) (.bool false) ((b2.block _ hlV).trans HVB.out) (HBV.out.trans (b2.mono (Nat.le_of_lt hlV)))
  have hVB := (b2.block _ hlV).trans HVB.out
  have x0 := cell_at 0 hVB rfl
  have x1 := cell_at 1 hVB rfl
  have x2 := cell_at 2 hVB rfl
  have y0 := one_free 0 hVB
  have y1 := one_free 1 hVB
  have y2 := one_free 2 hVB
  have K1 := hide k1
  have K2 := hide k2
  clear k1 k2 hVB
  go_wp2_with fail
  refine fin65 _ _ w.heap.size _ _ _ _ _ rfl rfl rfl K1.out ?_
  exact ⟨by unfold wdT; rfl, K2.out⟩
set_option maxRecDepth 100000 in
set_option maxHeartbeats 4000000 in
theorem RWord_1s_ok (s : ByteArray) (a : Nat) (w : World) (hs : s.size ≤ 256) (ha : a ≤ 256) (hE : endsW s.data.toList = true) (h : okP (s.extract 0 (s.size - 2)).data.toList = true) (hb : bareB (pepOf (lowL (s.extract 0 (s.size - 2)).data.toList)) = true) :
    Calls Tryz.prog 65 #[.string ⟨#[61, 61]⟩, .string s, .int .i64 (a : Int)] w fun e w' => e = .returned (wdT 1 a (.ok (pepOf (lowL (s.extract 0 (s.size - 2)).data.toList)) (s.extract 0 (s.size - 2)).data.toList true)) ∧ Below w.heap.size w w' := by
  have CS := fun W => Rstar_any s W (by omega)
  rw [hE] at CS
  rw [if_pos rfl] at CS
  generalize s.extract 0 (s.size - 2) = T at *
  have CS := hide CS
  clear hE
  have P1 := fun w => RParse_ok T w h
  generalize pepOf (lowL T.data.toList) = x at *
  have P1 := hide P1
  clear h
  have BR := hide (fun r1 q1 c1 d1 W => Rbare_any x r1 q1 c1 d1 W)
  replace hb := hide hb
  have hB := World.alloc_heap_new w (.cells #[.string ⟨#[]⟩, .string ⟨#[]⟩, .bool false] 32)
  have hbW : Below w.heap.size w (w.alloc (.cells #[.string ⟨#[]⟩, .string ⟨#[]⟩, .bool false] 32)) := (Below.refl _ w).alloc (Nat.le_refl _) _
  have hlw : w.heap.size < (w.alloc (.cells #[.string ⟨#[]⟩, .string ⟨#[]⟩, .bool false] 32)).heap.size := by simp
  go_enter Tryz.func65, Tryz.ntmps65
  go_wp2_with fail
  generalize w.alloc _ = W0 at *
  refine (CS.out _).mono ?_
  rintro e w0 ⟨rfl, hw0⟩
  rw [hw0]
  clear hw0 w0
  go_wp2_with fail
  refine (P1.out _).mono ?_
  rintro e w1 ⟨vr, vl, rfl, t1, t2, b1⟩
  obtain ⟨r1, c1, rfl, _⟩ := id t1
  obtain ⟨q1, d1, rfl, _⟩ := id t2
  try unfold pepV
  obtain ⟨V, hV, nP, nF, bV, sV⟩ := two_new w1 #[.string (ofL x.ep), .slice r1 x.rel.length c1, .int .u8 x.c, .string (ofL x.n), .bool x.b, .string (ofL x.m), .bool x.d, .string (ofL x.k), .slice q1 x.loc.length d1] #[.int .i64 0, .int .i64 0] 44 25
  obtain ⟨s0, s1, s2, s3, s4, s5, s6, s7, s8, _⟩ := seen9v nP
  have HV := hide hV
  obtain ⟨u0, u1, _, _⟩ := seen2v nF
  clear hV nP nF
  have HVB := hide ((bV.block _ (Nat.lt_of_lt_of_le hlw b1.size)).trans ((b1.block _ hlw).trans hB))
  have HBV := hide ((hbW.trans (b1.mono (Nat.le_of_lt hlw))).trans (bV.mono (Nat.le_trans (Nat.le_of_lt hlw) b1.size)))
  have hlV : w.heap.size < V.heap.size := Nat.lt_of_lt_of_le (Nat.lt_of_lt_of_le hlw b1.size) bV.size
  clear bV b1 hB hbW
  go_upto_region 13 with fail
  rw [HV.out]
  go_wp2_with fail
  refine (BR.out _ _ _ _ _).mono ?_
  rintro e w2 ⟨rfl, b2⟩
  rw [hb.out]
  obtain ⟨k1, k2⟩ := three_lies (w := w) (.string ⟨#[61, 61]⟩) (.string T) (.bool true) ((b2.block _ hlV).trans HVB.out) (HBV.out.trans (b2.mono (Nat.le_of_lt hlV)))
  have hVB := (b2.block _ hlV).trans HVB.out
  have x0 := cell_at 0 hVB rfl
  have x1 := cell_at 1 hVB rfl
  have x2 := cell_at 2 hVB rfl
  have y0 := one_free 0 hVB
  have y1 := one_free 1 hVB
  have y2 := one_free 2 hVB
  have K1 := hide k1
  have K2 := hide k2
  clear k1 k2 hVB
  go_wp2_with fail
  refine fin65 _ _ w.heap.size _ _ _ _ _ rfl rfl rfl K1.out ?_
  exact ⟨by rw [wdT_ok]; rfl, K2.out⟩
set_option maxRecDepth 100000 in
set_option maxHeartbeats 4000000 in
theorem RWord_2_no (s : ByteArray) (a : Nat) (w : World) (hs : s.size ≤ 256) (ha : a ≤ 256) (hE : endsW s.data.toList = false) (h : okP s.data.toList = false) :
    Calls Tryz.prog 65 #[.string ⟨#[33, 61]⟩, .string s, .int .i64 (a : Int)] w fun e w' => e = .returned (wdT 2 a (.bad (errX s.data.toList).1 (errX s.data.toList).2)) ∧ Below w.heap.size w w' := by
  have CS := fun W => Rstar_any s W (by omega)
  rw [hE] at CS
  rw [if_neg (by simp)] at CS
  have CS := hide CS
  clear hE
  have P1 := fun w => RParse_no s w h
  have hE2 := errX_le s.data.toList
  have n1 := errX_ne _ h
  generalize (errX s.data.toList).1 = E1 at *
  generalize (errX s.data.toList).2 = E2 at *
  have m1 : (E1 != 0) = true := by rw [bne, n1]; rfl
  unfold pepZ at P1
  have P1 := hide P1
  clear h
  have hB := World.alloc_heap_new w (.cells #[.string ⟨#[]⟩, .string ⟨#[]⟩, .bool false] 32)
  have hbW : Below w.heap.size w (w.alloc (.cells #[.string ⟨#[]⟩, .string ⟨#[]⟩, .bool false] 32)) := (Below.refl _ w).alloc (Nat.le_refl _) _
  have hlw : w.heap.size < (w.alloc (.cells #[.string ⟨#[]⟩, .string ⟨#[]⟩, .bool false] 32)).heap.size := by simp
  go_enter Tryz.func65, Tryz.ntmps65
  go_wp2_with fail
  generalize w.alloc _ = W0 at *
  refine (CS.out _).mono ?_
  rintro e w0 ⟨rfl, hw0⟩
  rw [hw0]
  clear hw0 w0
  go_wp2_with fail
  refine (P1.out _).mono ?_
  rintro e w1 ⟨rfl, b1⟩
  obtain ⟨V, hV, nP, nF, bV, sV⟩ := two_new w1 #[.string ⟨#[]⟩, .slice none 0 0, .int .u8 0, .string ⟨#[]⟩, .bool false, .string ⟨#[]⟩, .bool false, .string ⟨#[]⟩, .slice none 0 0] #[.int .i64 E1, .int .i64 (E2 : Int)] 44 25
  have HV := hide hV
  obtain ⟨u0, u1, _, _⟩ := seen2v nF
  clear hV nP nF
  obtain ⟨k1, k2⟩ := three_lies (w := w) (.string ⟨#[]⟩) (.string ⟨#[]⟩) (.bool false) ((bV.block _ (Nat.lt_of_lt_of_le hlw b1.size)).trans ((b1.block _ hlw).trans hB)) ((hbW.trans (b1.mono (Nat.le_of_lt hlw))).trans (bV.mono (Nat.le_trans (Nat.le_of_lt hlw) b1.size)))
  have hVB : V.heap[w.heap.size]? = some (.cells #[.string ⟨#[]⟩, .string ⟨#[]⟩, .bool false] 32 (0, 0)) := (bV.block _ (Nat.lt_of_lt_of_le hlw b1.size)).trans ((b1.block _ hlw).trans hB)
  have x0 := cell_at 0 hVB rfl
  have x1 := cell_at 1 hVB rfl
  have x2 := cell_at 2 hVB rfl
  have y0 := one_free 0 hVB
  have y1 := one_free 1 hVB
  have y2 := one_free 2 hVB
  have K1 := hide k1
  have K2 := hide k2
  have hq : w.heap.size < w1.heap.size := Nat.lt_of_lt_of_le hlw b1.size
  clear k1 k2 hVB
  go_upto_region 13 with fail
  rw [HV.out]
  go_wp2_with fail
  go_region
  all_goals
    go_wp2_with fail
    refine fin65 _ _ w.heap.size _ _ _ _ _ rfl rfl rfl K1.out ?_
    exact ⟨by unfold wdT; push_cast; rfl, K2.out.drew⟩
set_option maxRecDepth 100000 in
set_option maxHeartbeats 4000000 in
theorem RWord_2_ok (s : ByteArray) (a : Nat) (w : World) (hs : s.size ≤ 256) (ha : a ≤ 256) (hE : endsW s.data.toList = false) (h : okP s.data.toList = true) :
    Calls Tryz.prog 65 #[.string ⟨#[33, 61]⟩, .string s, .int .i64 (a : Int)] w fun e w' => e = .returned (wdT 2 a (.ok (pepOf (lowL s.data.toList)) s.data.toList false)) ∧ Below w.heap.size w w' := by
  have CS := fun W => Rstar_any s W (by omega)
  rw [hE] at CS
  rw [if_neg (by simp)] at CS
  have CS := hide CS
  clear hE
  have P1 := fun w => RParse_ok s w h
  generalize pepOf (lowL s.data.toList) = x at *
  have P1 := hide P1
  clear h
  have hB := World.alloc_heap_new w (.cells #[.string ⟨#[]⟩, .string ⟨#[]⟩, .bool false] 32)
  have hbW : Below w.heap.size w (w.alloc (.cells #[.string ⟨#[]⟩, .string ⟨#[]⟩, .bool false] 32)) := (Below.refl _ w).alloc (Nat.le_refl _) _
  have hlw : w.heap.size < (w.alloc (.cells #[.string ⟨#[]⟩, .string ⟨#[]⟩, .bool false] 32)).heap.size := by simp
  go_enter Tryz.func65, Tryz.ntmps65
  go_wp2_with fail
  generalize w.alloc _ = W0 at *
  refine (CS.out _).mono ?_
  rintro e w0 ⟨rfl, hw0⟩
  rw [hw0]
  clear hw0 w0
  go_wp2_with fail
  refine (P1.out _).mono ?_
  rintro e w1 ⟨vr, vl, rfl, t1, t2, b1⟩
  obtain ⟨r1, c1, rfl, _⟩ := id t1
  obtain ⟨q1, d1, rfl, _⟩ := id t2
  try unfold pepV
  obtain ⟨V, hV, nP, nF, bV, sV⟩ := two_new w1 #[.string (ofL x.ep), .slice r1 x.rel.length c1, .int .u8 x.c, .string (ofL x.n), .bool x.b, .string (ofL x.m), .bool x.d, .string (ofL x.k), .slice q1 x.loc.length d1] #[.int .i64 0, .int .i64 0] 44 25
  obtain ⟨s0, s1, s2, s3, s4, s5, s6, s7, s8, _⟩ := seen9v nP
  have HV := hide hV
  obtain ⟨u0, u1, _, _⟩ := seen2v nF
  clear hV nP nF
  obtain ⟨k1, k2⟩ := three_lies (w := w) (.string ⟨#[33, 61]⟩) (.string s) (.bool false) ((bV.block _ (Nat.lt_of_lt_of_le hlw b1.size)).trans ((b1.block _ hlw).trans hB)) ((hbW.trans (b1.mono (Nat.le_of_lt hlw))).trans (bV.mono (Nat.le_trans (Nat.le_of_lt hlw) b1.size)))
  have hVB : V.heap[w.heap.size]? = some (.cells #[.string ⟨#[]⟩, .string ⟨#[]⟩, .bool false] 32 (0, 0)) := (bV.block _ (Nat.lt_of_lt_of_le hlw b1.size)).trans ((b1.block _ hlw).trans hB)
  have x0 := cell_at 0 hVB rfl
  have x1 := cell_at 1 hVB rfl
  have x2 := cell_at 2 hVB rfl
  have y0 := one_free 0 hVB
  have y1 := one_free 1 hVB
  have y2 := one_free 2 hVB
  have K1 := hide k1
  have K2 := hide k2
  have hq : w.heap.size < w1.heap.size := Nat.lt_of_lt_of_le hlw b1.size
  clear k1 k2 hVB
  go_upto_region 13 with fail
  rw [HV.out]
  go_wp2_with fail
  refine fin65 _ _ w.heap.size _ _ _ _ _ rfl rfl rfl K1.out ?_
  exact ⟨by rw [wdT_ok]; rfl, K2.out⟩
set_option maxRecDepth 100000 in
set_option maxHeartbeats 4000000 in
theorem RWord_2s_no (s : ByteArray) (a : Nat) (w : World) (hs : s.size ≤ 256) (ha : a ≤ 256) (hE : endsW s.data.toList = true) (h : okP (s.extract 0 (s.size - 2)).data.toList = false) :
    Calls Tryz.prog 65 #[.string ⟨#[33, 61]⟩, .string s, .int .i64 (a : Int)] w fun e w' => e = .returned (wdT 2 a (.bad (errX (s.extract 0 (s.size - 2)).data.toList).1 (errX (s.extract 0 (s.size - 2)).data.toList).2)) ∧ Below w.heap.size w w' := by
  have CS := fun W => Rstar_any s W (by omega)
  rw [hE] at CS
  rw [if_pos rfl] at CS
  generalize s.extract 0 (s.size - 2) = T at *
  have CS := hide CS
  clear hE
  have P1 := fun w => RParse_no T w h
  have hE2 := errX_le T.data.toList
  have n1 := errX_ne _ h
  generalize (errX T.data.toList).1 = E1 at *
  generalize (errX T.data.toList).2 = E2 at *
  have m1 : (E1 != 0) = true := by rw [bne, n1]; rfl
  unfold pepZ at P1
  have P1 := hide P1
  clear h
  have hB := World.alloc_heap_new w (.cells #[.string ⟨#[]⟩, .string ⟨#[]⟩, .bool false] 32)
  have hbW : Below w.heap.size w (w.alloc (.cells #[.string ⟨#[]⟩, .string ⟨#[]⟩, .bool false] 32)) := (Below.refl _ w).alloc (Nat.le_refl _) _
  have hlw : w.heap.size < (w.alloc (.cells #[.string ⟨#[]⟩, .string ⟨#[]⟩, .bool false] 32)).heap.size := by simp
  go_enter Tryz.func65, Tryz.ntmps65
  go_wp2_with fail
  generalize w.alloc _ = W0 at *
  refine (CS.out _).mono ?_
  rintro e w0 ⟨rfl, hw0⟩
  rw [hw0]
  clear hw0 w0
  go_wp2_with fail
  refine (P1.out _).mono ?_
  rintro e w1 ⟨rfl, b1⟩
  obtain ⟨V, hV, nP, nF, bV, sV⟩ := two_new w1 #[.string ⟨#[]⟩, .slice none 0 0, .int .u8 0, .string ⟨#[]⟩, .bool false, .string ⟨#[]⟩, .bool false, .string ⟨#[]⟩, .slice none 0 0] #[.int .i64 E1, .int .i64 (E2 : Int)] 44 25
  have HV := hide hV
  obtain ⟨u0, u1, _, _⟩ := seen2v nF
  clear hV nP nF
  obtain ⟨k1, k2⟩ := three_lies (w := w) (.string ⟨#[]⟩) (.string ⟨#[]⟩) (.bool false) ((bV.block _ (Nat.lt_of_lt_of_le hlw b1.size)).trans ((b1.block _ hlw).trans hB)) ((hbW.trans (b1.mono (Nat.le_of_lt hlw))).trans (bV.mono (Nat.le_trans (Nat.le_of_lt hlw) b1.size)))
  have hVB : V.heap[w.heap.size]? = some (.cells #[.string ⟨#[]⟩, .string ⟨#[]⟩, .bool false] 32 (0, 0)) := (bV.block _ (Nat.lt_of_lt_of_le hlw b1.size)).trans ((b1.block _ hlw).trans hB)
  have x0 := cell_at 0 hVB rfl
  have x1 := cell_at 1 hVB rfl
  have x2 := cell_at 2 hVB rfl
  have y0 := one_free 0 hVB
  have y1 := one_free 1 hVB
  have y2 := one_free 2 hVB
  have K1 := hide k1
  have K2 := hide k2
  have hq : w.heap.size < w1.heap.size := Nat.lt_of_lt_of_le hlw b1.size
  clear k1 k2 hVB
  go_upto_region 13 with fail
  rw [HV.out]
  go_wp2_with fail
  go_region
  all_goals
    go_wp2_with fail
    refine fin65 _ _ w.heap.size _ _ _ _ _ rfl rfl rfl K1.out ?_
    exact ⟨by unfold wdT; push_cast; rfl, K2.out.drew⟩
set_option maxRecDepth 100000 in
set_option maxHeartbeats 4000000 in
theorem RWord_2s_bad (s : ByteArray) (a : Nat) (w : World) (hs : s.size ≤ 256) (ha : a ≤ 256) (hE : endsW s.data.toList = true) (h : okP (s.extract 0 (s.size - 2)).data.toList = true) (hb : bareB (pepOf (lowL (s.extract 0 (s.size - 2)).data.toList)) = false) :
    Calls Tryz.prog 65 #[.string ⟨#[33, 61]⟩, .string s, .int .i64 (a : Int)] w fun e w' => e = .returned (wdT 2 a (.bad 19 0)) ∧ Below w.heap.size w w' := by
  have CS := fun W => Rstar_any s W (by omega)
  rw [hE] at CS
  rw [if_pos rfl] at CS
  generalize s.extract 0 (s.size - 2) = T at *
  have CS := hide CS
  clear hE
  have P1 := fun w => RParse_ok T w h
  generalize pepOf (lowL T.data.toList) = x at *
  have P1 := hide P1
  clear h
  have BR := hide (fun r1 q1 c1 d1 W => Rbare_any x r1 q1 c1 d1 W)
  replace hb := hide hb
  have hB := World.alloc_heap_new w (.cells #[.string ⟨#[]⟩, .string ⟨#[]⟩, .bool false] 32)
  have hbW : Below w.heap.size w (w.alloc (.cells #[.string ⟨#[]⟩, .string ⟨#[]⟩, .bool false] 32)) := (Below.refl _ w).alloc (Nat.le_refl _) _
  have hlw : w.heap.size < (w.alloc (.cells #[.string ⟨#[]⟩, .string ⟨#[]⟩, .bool false] 32)).heap.size := by simp
  go_enter Tryz.func65, Tryz.ntmps65
  go_wp2_with fail
  generalize w.alloc _ = W0 at *
  refine (CS.out _).mono ?_
  rintro e w0 ⟨rfl, hw0⟩
  rw [hw0]
  clear hw0 w0
  go_wp2_with fail
  refine (P1.out _).mono ?_
  rintro e w1 ⟨vr, vl, rfl, t1, t2, b1⟩
  obtain ⟨r1, c1, rfl, _⟩ := id t1
  obtain ⟨q1, d1, rfl, _⟩ := id t2
  try unfold pepV
  obtain ⟨V, hV, nP, nF, bV, sV⟩ := two_new w1 #[.string (ofL x.ep), .slice r1 x.rel.length c1, .int .u8 x.c, .string (ofL x.n), .bool x.b, .string (ofL x.m), .bool x.d, .string (ofL x.k), .slice q1 x.loc.length d1] #[.int .i64 0, .int .i64 0] 44 25
  obtain ⟨s0, s1, s2, s3, s4, s5, s6, s7, s8, _⟩ := seen9v nP
  have HV := hide hV
  obtain ⟨u0, u1, _, _⟩ := seen2v nF
  clear hV nP nF
  have HVB := hide ((bV.block _ (Nat.lt_of_lt_of_le hlw b1.size)).trans ((b1.block _ hlw).trans hB))
  have HBV := hide ((hbW.trans (b1.mono (Nat.le_of_lt hlw))).trans (bV.mono (Nat.le_trans (Nat.le_of_lt hlw) b1.size)))
  have hlV : w.heap.size < V.heap.size := Nat.lt_of_lt_of_le (Nat.lt_of_lt_of_le hlw b1.size) bV.size
  clear bV b1 hB hbW
  go_upto_region 13 with fail
  rw [HV.out]
  go_wp2_with fail
  refine (BR.out _ _ _ _ _).mono ?_
  rintro e w2 ⟨rfl, b2⟩
  rw [hb.out]
  obtain ⟨k1, k2⟩ := three_lies (w := w) (.string ⟨#[]⟩) (.string ⟨#[]⟩) (.bool false) ((b2.block _ hlV).trans HVB.out) (HBV.out.trans (b2.mono (Nat.le_of_lt hlV)))
  have hVB := (b2.block _ hlV).trans HVB.out
  have x0 := cell_at 0 hVB rfl
  have x1 := cell_at 1 hVB rfl
  have x2 := cell_at 2 hVB rfl
  have y0 := one_free 0 hVB
  have y1 := one_free 1 hVB
  have y2 := one_free 2 hVB
  have K1 := hide k1
  have K2 := hide k2
  clear k1 k2 hVB
  go_wp2_with fail
  refine fin65 _ _ w.heap.size _ _ _ _ _ rfl rfl rfl K1.out ?_
  exact ⟨by unfold wdT; rfl, K2.out⟩
set_option maxRecDepth 100000 in
set_option maxHeartbeats 4000000 in
theorem RWord_2s_ok (s : ByteArray) (a : Nat) (w : World) (hs : s.size ≤ 256) (ha : a ≤ 256) (hE : endsW s.data.toList = true) (h : okP (s.extract 0 (s.size - 2)).data.toList = true) (hb : bareB (pepOf (lowL (s.extract 0 (s.size - 2)).data.toList)) = true) :
    Calls Tryz.prog 65 #[.string ⟨#[33, 61]⟩, .string s, .int .i64 (a : Int)] w fun e w' => e = .returned (wdT 2 a (.ok (pepOf (lowL (s.extract 0 (s.size - 2)).data.toList)) (s.extract 0 (s.size - 2)).data.toList true)) ∧ Below w.heap.size w w' := by
  have CS := fun W => Rstar_any s W (by omega)
  rw [hE] at CS
  rw [if_pos rfl] at CS
  generalize s.extract 0 (s.size - 2) = T at *
  have CS := hide CS
  clear hE
  have P1 := fun w => RParse_ok T w h
  generalize pepOf (lowL T.data.toList) = x at *
  have P1 := hide P1
  clear h
  have BR := hide (fun r1 q1 c1 d1 W => Rbare_any x r1 q1 c1 d1 W)
  replace hb := hide hb
  have hB := World.alloc_heap_new w (.cells #[.string ⟨#[]⟩, .string ⟨#[]⟩, .bool false] 32)
  have hbW : Below w.heap.size w (w.alloc (.cells #[.string ⟨#[]⟩, .string ⟨#[]⟩, .bool false] 32)) := (Below.refl _ w).alloc (Nat.le_refl _) _
  have hlw : w.heap.size < (w.alloc (.cells #[.string ⟨#[]⟩, .string ⟨#[]⟩, .bool false] 32)).heap.size := by simp
  go_enter Tryz.func65, Tryz.ntmps65
  go_wp2_with fail
  generalize w.alloc _ = W0 at *
  refine (CS.out _).mono ?_
  rintro e w0 ⟨rfl, hw0⟩
  rw [hw0]
  clear hw0 w0
  go_wp2_with fail
  refine (P1.out _).mono ?_
  rintro e w1 ⟨vr, vl, rfl, t1, t2, b1⟩
  obtain ⟨r1, c1, rfl, _⟩ := id t1
  obtain ⟨q1, d1, rfl, _⟩ := id t2
  try unfold pepV
  obtain ⟨V, hV, nP, nF, bV, sV⟩ := two_new w1 #[.string (ofL x.ep), .slice r1 x.rel.length c1, .int .u8 x.c, .string (ofL x.n), .bool x.b, .string (ofL x.m), .bool x.d, .string (ofL x.k), .slice q1 x.loc.length d1] #[.int .i64 0, .int .i64 0] 44 25
  obtain ⟨s0, s1, s2, s3, s4, s5, s6, s7, s8, _⟩ := seen9v nP
  have HV := hide hV
  obtain ⟨u0, u1, _, _⟩ := seen2v nF
  clear hV nP nF
  have HVB := hide ((bV.block _ (Nat.lt_of_lt_of_le hlw b1.size)).trans ((b1.block _ hlw).trans hB))
  have HBV := hide ((hbW.trans (b1.mono (Nat.le_of_lt hlw))).trans (bV.mono (Nat.le_trans (Nat.le_of_lt hlw) b1.size)))
  have hlV : w.heap.size < V.heap.size := Nat.lt_of_lt_of_le (Nat.lt_of_lt_of_le hlw b1.size) bV.size
  clear bV b1 hB hbW
  go_upto_region 13 with fail
  rw [HV.out]
  go_wp2_with fail
  refine (BR.out _ _ _ _ _).mono ?_
  rintro e w2 ⟨rfl, b2⟩
  rw [hb.out]
  obtain ⟨k1, k2⟩ := three_lies (w := w) (.string ⟨#[33, 61]⟩) (.string T) (.bool true) ((b2.block _ hlV).trans HVB.out) (HBV.out.trans (b2.mono (Nat.le_of_lt hlV)))
  have hVB := (b2.block _ hlV).trans HVB.out
  have x0 := cell_at 0 hVB rfl
  have x1 := cell_at 1 hVB rfl
  have x2 := cell_at 2 hVB rfl
  have y0 := one_free 0 hVB
  have y1 := one_free 1 hVB
  have y2 := one_free 2 hVB
  have K1 := hide k1
  have K2 := hide k2
  clear k1 k2 hVB
  go_wp2_with fail
  refine fin65 _ _ w.heap.size _ _ _ _ _ rfl rfl rfl K1.out ?_
  exact ⟨by rw [wdT_ok]; rfl, K2.out⟩

end Go.Proofs.YtabmfdedbpmfmaaGreat
