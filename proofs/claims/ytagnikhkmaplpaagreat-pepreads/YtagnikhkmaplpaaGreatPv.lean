/-
  Walks: normal forms at the chapter's examples; the examples.
-/
import Derived.Test.YtagnikhkmaplpaaGreatPu
namespace Go.Proofs.YtagnikhkmaplpaaGreat
open Go.RowKit Go.Shelf
set_option linter.unusedVariables false

theorem lies2 {W W' : World} {A F : Obj} (hb : Below ((W.alloc A).alloc F).heap.size ((W.alloc A).alloc F) W') : W'.heap[W.heap.size]? = some A ∧ W'.heap[W.heap.size + 1]? = some F := by
  refine ⟨(hb.block _ (by simp; omega)).trans ?_, (hb.block _ (by simp)).trans ?_⟩
  · rw [Below.heap_alloc _ _ _ (by simp)]
    exact World.alloc_heap_new W _
  · have := World.alloc_heap_new (W.alloc A) F
    rwa [World.size_alloc] at this

set_option maxRecDepth 100000 in
set_option maxHeartbeats 2000000 in
theorem Normal_pre (s : ByteArray) (X : PepL) (w : World) (h : okP s.data.toList = true) (hX : pepOf (lowL s.data.toList) = X) (hf : FitT X) (he : X.ep = [48]) (hc : X.c = 97) (hb : X.b = false) (hd : X.d = false) (hl : X.loc = []) :
    Calls Tryz.prog 8 #[.string s] w fun e w' => e = .returned (.string (ofL ((joinL X.rel) ++ ((⟨#[97]⟩ : ByteArray).data.toList ++ X.n)))) ∧ Below w.heap.size w w' := by
  have P1 := fun w => Parse_ok s w h
  have SX : SmallP X := by
    rw [← hX]
    exact pep_small _ (by rw [lowL_len]; unfold okP at h; simp only [Bool.and_eq_true, decide_eq_true_eq] at h; exact h.1)
  rw [hX] at P1
  have TX := fun r1 q1 c1 d1 w rr ll k1 k2 => Text_pre X r1 q1 c1 d1 w rr ll k1 k2 SX hf he hc hb hd hl
  have P1 := hide P1
  have TX := hide TX
  generalize (joinL X.rel) ++ ((⟨#[97]⟩ : ByteArray).data.toList ++ X.n) = RS at *
  clear h hX SX hf he hc hb hd hl
  go_enter Tryz.func8, Tryz.ntmps8
  go_wp2_with fail
  refine (P1.out _).mono ?_
  rintro e w1 ⟨vr, vl, rfl, t1, t2, k1, k2, b1⟩
  obtain ⟨r1, c1, rfl, _⟩ := id t1
  obtain ⟨q1, d1, rfl, _⟩ := id t2
  have k1 := k1 _ _ _ rfl
  have k2 := k2 _ _ _ rfl
  have bb : Below w1.heap.size w1 ((w1.alloc (.cells #[.string (ofL X.ep), .slice r1 X.rel.length c1, .int .u8 X.c, .string (ofL X.n), .bool X.b, .string (ofL X.m), .bool X.d, .string (ofL X.k), .slice q1 X.loc.length d1] 24)).alloc (.cells #[.int .i64 0, .int .i64 0] 27)) := ((Below.refl _ w1).alloc (Nat.le_refl _) _).alloc (by simp) _
  have T2 := hide (TX.out r1 q1 c1 d1 _ (t1.below bb) (t2.below bb) k1 k2)
  have B1 := b1.trans (bb.mono b1.size)
  clear t1 t2 b1
  try unfold pepV
  go_wp2_with fail
  refine T2.out.mono ?_
  rintro e w2 ⟨rfl, b2⟩
  go_wp2_with fail
  go_ret
  exact ⟨rfl, B1.trans (b2.mono B1.size)⟩

set_option maxRecDepth 100000 in
set_option maxHeartbeats 2000000 in
theorem Normal_post (s : ByteArray) (X : PepL) (w : World) (h : okP s.data.toList = true) (hX : pepOf (lowL s.data.toList) = X) (hf : FitT X) (he : X.ep ≠ [48]) (hc : X.c = 0) (hb : X.b = true) (hd : X.d = false) (hl : X.loc = []) :
    Calls Tryz.prog 8 #[.string s] w fun e w' => e = .returned (.string (ofL ((X.ep ++ 33 :: joinL X.rel) ++ ((⟨#[46, 112, 111, 115, 116]⟩ : ByteArray).data.toList ++ X.m)))) ∧ Below w.heap.size w w' := by
  have P1 := fun w => Parse_ok s w h
  have SX : SmallP X := by
    rw [← hX]
    exact pep_small _ (by rw [lowL_len]; unfold okP at h; simp only [Bool.and_eq_true, decide_eq_true_eq] at h; exact h.1)
  rw [hX] at P1
  have TX := fun r1 q1 c1 d1 w rr ll k1 k2 => Text_post X r1 q1 c1 d1 w rr ll k1 k2 SX hf he hc hb hd hl
  have P1 := hide P1
  have TX := hide TX
  generalize (X.ep ++ 33 :: joinL X.rel) ++ ((⟨#[46, 112, 111, 115, 116]⟩ : ByteArray).data.toList ++ X.m) = RS at *
  clear h hX SX hf he hc hb hd hl
  go_enter Tryz.func8, Tryz.ntmps8
  go_wp2_with fail
  refine (P1.out _).mono ?_
  rintro e w1 ⟨vr, vl, rfl, t1, t2, k1, k2, b1⟩
  obtain ⟨r1, c1, rfl, _⟩ := id t1
  obtain ⟨q1, d1, rfl, _⟩ := id t2
  have k1 := k1 _ _ _ rfl
  have k2 := k2 _ _ _ rfl
  have bb : Below w1.heap.size w1 ((w1.alloc (.cells #[.string (ofL X.ep), .slice r1 X.rel.length c1, .int .u8 X.c, .string (ofL X.n), .bool X.b, .string (ofL X.m), .bool X.d, .string (ofL X.k), .slice q1 X.loc.length d1] 24)).alloc (.cells #[.int .i64 0, .int .i64 0] 27)) := ((Below.refl _ w1).alloc (Nat.le_refl _) _).alloc (by simp) _
  have T2 := hide (TX.out r1 q1 c1 d1 _ (t1.below bb) (t2.below bb) k1 k2)
  have B1 := b1.trans (bb.mono b1.size)
  clear t1 t2 b1
  try unfold pepV
  go_wp2_with fail
  refine T2.out.mono ?_
  rintro e w2 ⟨rfl, b2⟩
  go_wp2_with fail
  go_ret
  exact ⟨rfl, B1.trans (b2.mono B1.size)⟩

set_option maxRecDepth 100000 in
set_option maxHeartbeats 2000000 in
theorem Normal_loc (s : ByteArray) (X : PepL) (w : World) (h : okP s.data.toList = true) (hX : pepOf (lowL s.data.toList) = X) (hf : FitT X) (he : X.ep = [48]) (hc : X.c = 0) (hb : X.b = false) (hd : X.d = false) (hl : X.loc ≠ []) :
    Calls Tryz.prog 8 #[.string s] w fun e w' => e = .returned (.string (ofL ((joinL X.rel) ++ ((⟨#[43]⟩ : ByteArray).data.toList ++ (joinL X.loc))))) ∧ Below w.heap.size w w' := by
  have P1 := fun w => Parse_ok s w h
  have SX : SmallP X := by
    rw [← hX]
    exact pep_small _ (by rw [lowL_len]; unfold okP at h; simp only [Bool.and_eq_true, decide_eq_true_eq] at h; exact h.1)
  rw [hX] at P1
  have TX := fun r1 q1 c1 d1 w rr ll k1 k2 => Text_loc X r1 q1 c1 d1 w rr ll k1 k2 SX hf he hc hb hd hl
  have P1 := hide P1
  have TX := hide TX
  generalize (joinL X.rel) ++ ((⟨#[43]⟩ : ByteArray).data.toList ++ (joinL X.loc)) = RS at *
  clear h hX SX hf he hc hb hd hl
  go_enter Tryz.func8, Tryz.ntmps8
  go_wp2_with fail
  refine (P1.out _).mono ?_
  rintro e w1 ⟨vr, vl, rfl, t1, t2, k1, k2, b1⟩
  obtain ⟨r1, c1, rfl, _⟩ := id t1
  obtain ⟨q1, d1, rfl, _⟩ := id t2
  have k1 := k1 _ _ _ rfl
  have k2 := k2 _ _ _ rfl
  have bb : Below w1.heap.size w1 ((w1.alloc (.cells #[.string (ofL X.ep), .slice r1 X.rel.length c1, .int .u8 X.c, .string (ofL X.n), .bool X.b, .string (ofL X.m), .bool X.d, .string (ofL X.k), .slice q1 X.loc.length d1] 24)).alloc (.cells #[.int .i64 0, .int .i64 0] 27)) := ((Below.refl _ w1).alloc (Nat.le_refl _) _).alloc (by simp) _
  have T2 := hide (TX.out r1 q1 c1 d1 _ (t1.below bb) (t2.below bb) k1 k2)
  have B1 := b1.trans (bb.mono b1.size)
  clear t1 t2 b1
  try unfold pepV
  go_wp2_with fail
  refine T2.out.mono ?_
  rintro e w2 ⟨rfl, b2⟩
  go_wp2_with fail
  go_ret
  exact ⟨rfl, B1.trans (b2.mono B1.size)⟩

theorem exo0 : okP [86, 49, 46, 48, 45, 65, 76, 80, 72, 65, 95, 50] = true := by kernel_rfl
theorem exp0 : pepOf (lowL [86, 49, 46, 48, 45, 65, 76, 80, 72, 65, 95, 50]) = ⟨[48], [[49], [48]], 97, [50], false, [], false, [], []⟩ := by kernel_rfl
theorem exf0 : FitT ⟨[48], [[49], [48]], 97, [50], false, [], false, [], []⟩ := ⟨by kernel_rfl, by simp, by kernel_rfl, by simp, by kernel_rfl, by kernel_rfl, by kernel_rfl, by kernel_rfl⟩
theorem Normal_ex0 (w : World) : Calls Tryz.prog 8 #[.string ⟨#[86, 49, 46, 48, 45, 65, 76, 80, 72, 65, 95, 50]⟩] w fun e w' => e = .returned (.string (ofL [49, 46, 48, 97, 50])) ∧ Below w.heap.size w w' :=
  Normal_pre ⟨#[86, 49, 46, 48, 45, 65, 76, 80, 72, 65, 95, 50]⟩ ⟨[48], [[49], [48]], 97, [50], false, [], false, [], []⟩ w exo0 exp0 exf0 (by simp) rfl rfl rfl (by simp)
theorem exo1 : okP [49, 33, 50, 45, 51] = true := by kernel_rfl
theorem exp1 : pepOf (lowL [49, 33, 50, 45, 51]) = ⟨[49], [[50]], 0, [], true, [51], false, [], []⟩ := by kernel_rfl
theorem exf1 : FitT ⟨[49], [[50]], 0, [], true, [51], false, [], []⟩ := ⟨by kernel_rfl, by simp, by kernel_rfl, by simp, by kernel_rfl, by kernel_rfl, by kernel_rfl, by kernel_rfl⟩
theorem Normal_ex1 (w : World) : Calls Tryz.prog 8 #[.string ⟨#[49, 33, 50, 45, 51]⟩] w fun e w' => e = .returned (.string (ofL [49, 33, 50, 46, 112, 111, 115, 116, 51])) ∧ Below w.heap.size w w' :=
  Normal_post ⟨#[49, 33, 50, 45, 51]⟩ ⟨[49], [[50]], 0, [], true, [51], false, [], []⟩ w exo1 exp1 exf1 (by simp) rfl rfl rfl (by simp)
theorem exo2 : okP [49, 46, 48, 43, 85, 98, 117, 110, 116, 117, 95, 48, 49] = true := by kernel_rfl
theorem exp2 : pepOf (lowL [49, 46, 48, 43, 85, 98, 117, 110, 116, 117, 95, 48, 49]) = ⟨[48], [[49], [48]], 0, [], false, [], false, [], [[117, 98, 117, 110, 116, 117], [49]]⟩ := by kernel_rfl
theorem exf2 : FitT ⟨[48], [[49], [48]], 0, [], false, [], false, [], [[117, 98, 117, 110, 116, 117], [49]]⟩ := ⟨by kernel_rfl, by simp, by kernel_rfl, by simp, by kernel_rfl, by kernel_rfl, by kernel_rfl, by kernel_rfl⟩
theorem Normal_ex2 (w : World) : Calls Tryz.prog 8 #[.string ⟨#[49, 46, 48, 43, 85, 98, 117, 110, 116, 117, 95, 48, 49]⟩] w fun e w' => e = .returned (.string (ofL [49, 46, 48, 43, 117, 98, 117, 110, 116, 117, 46, 49])) ∧ Below w.heap.size w w' :=
  Normal_loc ⟨#[49, 46, 48, 43, 85, 98, 117, 110, 116, 117, 95, 48, 49]⟩ ⟨[48], [[49], [48]], 0, [], false, [], false, [], [[117, 98, 117, 110, 116, 117], [49]]⟩ w exo2 exp2 exf2 (by simp) rfl rfl rfl (by simp)
theorem exn0 : okP [49, 46, 48, 46, 120] = false := by kernel_rfl
theorem exe0 : errX [49, 46, 48, 46, 120] = (10, 3) := by kernel_rfl
theorem exn1 : okP [] = false := by kernel_rfl
theorem exe1 : errX [] = (11, 0) := by kernel_rfl
theorem exn2 : okP [49, 46, 48, 43] = false := by kernel_rfl
theorem exe2 : errX [49, 46, 48, 43] = (11, 4) := by kernel_rfl
theorem exc0 : cmpT [49, 46, 48] [49] = 0 := by kernel_rfl
theorem exc1 : cmpT [49, 46, 48, 46, 100, 101, 118, 49] [49, 46, 48, 97, 49, 46, 100, 101, 118, 49] = -1 := by kernel_rfl
theorem exc2 : cmpT [49, 46, 48, 43, 49] [49, 46, 48, 46, 112, 111, 115, 116, 49] = -1 := by kernel_rfl

set_option maxRecDepth 100000 in
set_option maxHeartbeats 4000000 in
theorem awake_any (w : World) : Calls Tryz.prog 12 #[] w fun e w' => e = .returned (.bool true) ∧ Below w.heap.size w w' := by
  have P0 := fun w => Parse_no ⟨#[49, 46, 48, 46, 120]⟩ w (by decide) (show okP (ByteArray.mk #[49, 46, 48, 46, 120]).data.toList = false from exn0)
  rw [show errX (ByteArray.mk #[49, 46, 48, 46, 120]).data.toList = (10, 3) from exe0] at P0
  unfold pepZ at P0
  have P0 := hide P0
  have P1 := fun w => Parse_no ⟨#[]⟩ w (by decide) (show okP (ByteArray.mk #[]).data.toList = false from exn1)
  rw [show errX (ByteArray.mk #[]).data.toList = (11, 0) from exe1] at P1
  unfold pepZ at P1
  have P1 := hide P1
  have P2 := fun w => Parse_no ⟨#[49, 46, 48, 43]⟩ w (by decide) (show okP (ByteArray.mk #[49, 46, 48, 43]).data.toList = false from exn2)
  rw [show errX (ByteArray.mk #[49, 46, 48, 43]).data.toList = (11, 4) from exe2] at P2
  unfold pepZ at P2
  have P2 := hide P2
  have N0 := hide (fun w => Normal_ex0 w)
  have nb0 : ((ofL [49, 46, 48, 97, 50]).toList == [49, 46, 48, 97, 50]) = true := by rw [toL, ofL_data]; rfl
  have N1 := hide (fun w => Normal_ex1 w)
  have nb1 : ((ofL [49, 33, 50, 46, 112, 111, 115, 116, 51]).toList == [49, 33, 50, 46, 112, 111, 115, 116, 51]) = true := by rw [toL, ofL_data]; rfl
  have N2 := hide (fun w => Normal_ex2 w)
  have nb2 : ((ofL [49, 46, 48, 43, 117, 98, 117, 110, 116, 117, 46, 49]).toList == [49, 46, 48, 43, 117, 98, 117, 110, 116, 117, 46, 49]) = true := by rw [toL, ofL_data]; rfl
  have C0 := fun w => CompareT_any ⟨#[49, 46, 48]⟩ ⟨#[49]⟩ w (by decide) (by decide)
  rw [show cmpT (ByteArray.mk #[49, 46, 48]).data.toList (ByteArray.mk #[49]).data.toList = 0 from exc0] at C0
  have C0 := hide C0
  have C1 := fun w => CompareT_any ⟨#[49, 46, 48, 46, 100, 101, 118, 49]⟩ ⟨#[49, 46, 48, 97, 49, 46, 100, 101, 118, 49]⟩ w (by decide) (by decide)
  rw [show cmpT (ByteArray.mk #[49, 46, 48, 46, 100, 101, 118, 49]).data.toList (ByteArray.mk #[49, 46, 48, 97, 49, 46, 100, 101, 118, 49]).data.toList = -1 from exc1] at C1
  have C1 := hide C1
  have C2 := fun w => CompareT_any ⟨#[49, 46, 48, 43, 49]⟩ ⟨#[49, 46, 48, 46, 112, 111, 115, 116, 49]⟩ w (by decide) (by decide)
  rw [show cmpT (ByteArray.mk #[49, 46, 48, 43, 49]).data.toList (ByteArray.mk #[49, 46, 48, 46, 112, 111, 115, 116, 49]).data.toList = -1 from exc2] at C2
  have C2 := hide C2
  go_enter Tryz.func12, Tryz.ntmps12
  go_wp2_with fail
  refine (P0.out _).mono ?_
  rintro e w1 ⟨rfl, b1⟩
  have B1 := b1
  have B1a := B1.alloc B1.size (.cells #[.string ⟨#[]⟩, .slice none 0 0, .int .u8 0, .string ⟨#[]⟩, .bool false, .string ⟨#[]⟩, .bool false, .string ⟨#[]⟩, .slice none 0 0] 24)
  have B1b := B1a.alloc B1a.size (.cells #[.int .i64 10, .int .i64 3] 27)
  go_wp2_with fail
  refine (P1.out _).mono ?_
  rintro e w2 ⟨rfl, b2⟩
  obtain ⟨_, g1⟩ := lies2 b2
  have B2 := B1b.trans (b2.mono B1b.size)
  have B2a := B2.alloc B2.size (.cells #[.string ⟨#[]⟩, .slice none 0 0, .int .u8 0, .string ⟨#[]⟩, .bool false, .string ⟨#[]⟩, .bool false, .string ⟨#[]⟩, .slice none 0 0] 24)
  have B2b := B2a.alloc B2a.size (.cells #[.int .i64 11, .int .i64 0] 27)
  have g1 := (Below.heap_alloc _ (.cells #[.int .i64 11, .int .i64 0] 27) _ (by simp; have := (Array.getElem?_eq_some_iff.1 g1).1; omega)).trans ((Below.heap_alloc w2 (.cells #[.string ⟨#[]⟩, .slice none 0 0, .int .u8 0, .string ⟨#[]⟩, .bool false, .string ⟨#[]⟩, .bool false, .string ⟨#[]⟩, .slice none 0 0] 24) _ (Array.getElem?_eq_some_iff.1 g1).1).trans g1)
  go_wp2_with fail
  refine (P2.out _).mono ?_
  rintro e w3 ⟨rfl, b3⟩
  obtain ⟨_, g2⟩ := lies2 b3
  have g1 := (b3.block _ (Array.getElem?_eq_some_iff.1 g1).1).trans g1
  have B3 := B2b.trans (b3.mono B2b.size)
  have B3a := B3.alloc B3.size (.cells #[.string ⟨#[]⟩, .slice none 0 0, .int .u8 0, .string ⟨#[]⟩, .bool false, .string ⟨#[]⟩, .bool false, .string ⟨#[]⟩, .slice none 0 0] 24)
  have B3b := B3a.alloc B3a.size (.cells #[.int .i64 11, .int .i64 4] 27)
  have g1 := (Below.heap_alloc _ (.cells #[.int .i64 11, .int .i64 4] 27) _ (by simp; have := (Array.getElem?_eq_some_iff.1 g1).1; omega)).trans ((Below.heap_alloc w3 (.cells #[.string ⟨#[]⟩, .slice none 0 0, .int .u8 0, .string ⟨#[]⟩, .bool false, .string ⟨#[]⟩, .bool false, .string ⟨#[]⟩, .slice none 0 0] 24) _ (Array.getElem?_eq_some_iff.1 g1).1).trans g1)
  have g2 := (Below.heap_alloc _ (.cells #[.int .i64 11, .int .i64 4] 27) _ (by simp; have := (Array.getElem?_eq_some_iff.1 g2).1; omega)).trans ((Below.heap_alloc w3 (.cells #[.string ⟨#[]⟩, .slice none 0 0, .int .u8 0, .string ⟨#[]⟩, .bool false, .string ⟨#[]⟩, .bool false, .string ⟨#[]⟩, .slice none 0 0] 24) _ (Array.getElem?_eq_some_iff.1 g2).1).trans g2)
  go_wp2_with fail
  refine (N0.out _).mono ?_
  rintro e w4 ⟨rfl, b4⟩
  obtain ⟨_, g3⟩ := lies2 b4
  have g1 := (b4.block _ (Array.getElem?_eq_some_iff.1 g1).1).trans g1
  have g2 := (b4.block _ (Array.getElem?_eq_some_iff.1 g2).1).trans g2
  have B4 := B3b.trans (b4.mono B3b.size)
  go_wp2_with fail
  refine (N1.out _).mono ?_
  rintro e w5 ⟨rfl, b5⟩
  have g3 := (b5.block _ (Array.getElem?_eq_some_iff.1 g3).1).trans g3
  have g1 := (b5.block _ (Array.getElem?_eq_some_iff.1 g1).1).trans g1
  have g2 := (b5.block _ (Array.getElem?_eq_some_iff.1 g2).1).trans g2
  have B5 := B4.trans (b5.mono B4.size)
  go_wp2_with fail
  refine (N2.out _).mono ?_
  rintro e w6 ⟨rfl, b6⟩
  have g3 := (b6.block _ (Array.getElem?_eq_some_iff.1 g3).1).trans g3
  have g1 := (b6.block _ (Array.getElem?_eq_some_iff.1 g1).1).trans g1
  have g2 := (b6.block _ (Array.getElem?_eq_some_iff.1 g2).1).trans g2
  have B6 := B5.trans (b6.mono B5.size)
  go_wp2_with fail
  refine (C0.out _).mono ?_
  rintro e w7 ⟨rfl, b7⟩
  have g3 := (b7.block _ (Array.getElem?_eq_some_iff.1 g3).1).trans g3
  have g1 := (b7.block _ (Array.getElem?_eq_some_iff.1 g1).1).trans g1
  have g2 := (b7.block _ (Array.getElem?_eq_some_iff.1 g2).1).trans g2
  have B7 := B6.trans (b7.mono B6.size)
  go_wp2_with fail
  refine (C1.out _).mono ?_
  rintro e w8 ⟨rfl, b8⟩
  have g3 := (b8.block _ (Array.getElem?_eq_some_iff.1 g3).1).trans g3
  have g1 := (b8.block _ (Array.getElem?_eq_some_iff.1 g1).1).trans g1
  have g2 := (b8.block _ (Array.getElem?_eq_some_iff.1 g2).1).trans g2
  have B8 := B7.trans (b8.mono B7.size)
  go_wp2_with fail
  refine (C2.out _).mono ?_
  rintro e w9 ⟨rfl, b9⟩
  have g3 := (b9.block _ (Array.getElem?_eq_some_iff.1 g3).1).trans g3
  have g1 := (b9.block _ (Array.getElem?_eq_some_iff.1 g1).1).trans g1
  have g2 := (b9.block _ (Array.getElem?_eq_some_iff.1 g2).1).trans g2
  have B9 := B8.trans (b9.mono B8.size)
  have c1 := cell_at 0 g1 rfl
  have c2 := cell_at 1 g1 rfl
  have c3 := cell_at 0 g2 rfl
  have c4 := cell_at 1 g2 rfl
  have c5 := cell_at 0 g3 rfl
  have c6 := cell_at 1 g3 rfl
  have BB := hide B9
  clear b1 b2 b3 b4 b5 b6 b7 b8 b9 B1 B1a B1b B2 B2a B2b B3 B3a B3b B4 B5 B6 B7 B8 B9
  go_wp2_with fail
  go_ret
  exact ⟨rfl, BB.out⟩

end Go.Proofs.YtagnikhkmaplpaaGreat
