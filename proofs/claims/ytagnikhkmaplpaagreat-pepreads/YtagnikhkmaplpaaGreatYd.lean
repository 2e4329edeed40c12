/-
  Walks: the document's Parse in two shapes, its Normal.
-/
import Derived.Test.YtagnikhkmaplpaaGreatXo
import Derived.Test.YtagnikhkmaplpaaGreatQv
import Derived.Test.YtagnikhkmaplpaaGreatQo
import Derived.Test.YtagnikhkmaplpaaGreatYb
namespace Go.Proofs.YtagnikhkmaplpaaGreat
open Go.RowKit Go.Shelf
set_option linter.unusedVariables false

theorem RParse_ok (s : ByteArray) (w : World) (h : okP s.data.toList = true) :
    Calls Tryz.prog 6 #[.string s] w fun e w' => ∃ vr vl, e = .returned (.tuple #[pepV (ofL (pepOf (lowL s.data.toList)).ep) vr (pepOf (lowL s.data.toList)).c (ofL (pepOf (lowL s.data.toList)).n) (pepOf (lowL s.data.toList)).b (ofL (pepOf (lowL s.data.toList)).m) (pepOf (lowL s.data.toList)).d (ofL (pepOf (lowL s.data.toList)).k) vl, .agg #[.int .i64 0, .int .i64 0]]) ∧
      Txt w' vr (pepOf (lowL s.data.toList)).rel ∧ Txt w' vl (pepOf (lowL s.data.toList)).loc ∧ Below w.heap.size w w' := by
  unfold okP at h
  simp only [Bool.and_eq_true, decide_eq_true_eq] at h
  refine (RParse_any s w).mono ?_
  rintro e w' ⟨hb, hp⟩
  rw [if_neg (by omega), if_pos h.2] at hp
  obtain ⟨v, rfl, ⟨vr, vl, rfl, h1, h2⟩⟩ := hp
  exact ⟨vr, vl, rfl, txt_vals h1, txt_vals h2, hb⟩
theorem RParse_no (s : ByteArray) (w : World) (h : okP s.data.toList = false) :
    Calls Tryz.prog 6 #[.string s] w fun e w' => e = .returned (.tuple #[.agg pepZ, .agg #[.int .i64 (errX s.data.toList).1, .int .i64 ((errX s.data.toList).2 : Int)]]) ∧ Below w.heap.size w w' := by
  refine (RParse_any s w).mono ?_
  rintro e w' ⟨hb, hp⟩
  unfold okP at h
  unfold errX
  by_cases hl : 64 < s.data.toList.length
  · rw [if_pos hl] at hp ⊢
    exact ⟨hp, hb⟩
  · rw [if_neg hl] at hp ⊢
    have hx : ¬ (verX (lowL s.data.toList)).1 = 0 := fun he => by
      rw [decide_eq_true (show s.data.toList.length ≤ 64 by omega), decide_eq_true he] at h
      cases h
    rw [if_neg hx] at hp
    exact ⟨hp, hb⟩

structure SmallQ (x : PepL) : Prop where
  e : x.ep.length ≤ 65
  n : x.n.length ≤ 65
  m : x.m.length ≤ 65
  k : x.k.length ≤ 65
  r : x.rel.length ≤ 65 ∧ ∀ t ∈ x.rel, t.length ≤ 65
  l : x.loc.length ≤ 65 ∧ ∀ t ∈ x.loc, t.length ≤ 65
theorem pep_smallQ (u : List UInt8) (hu : u.length ≤ 64) : SmallQ (pepOf u) := by
  have h1 := epoT_le u (vp1 u)
  have h2 := stN_le u (vp3 u) preWs
  have h3 := posN_le u (vp4 u)
  have h4 := stN_le u (vp5 u) devWs
  have r1 := runs_len u 1 [46] _ (vp2 u) rfl
  have r2 := runs_len u 5 [45, 95, 46] _ (vp7 u) rfl
  refine ⟨?_, ?_, ?_, ?_, row_short u hu _ ?_, row_short u hu _ ?_⟩
  · show (epoT u (vp1 u)).length ≤ 65; omega
  · show (stN u (vp3 u) preWs).length ≤ 65; omega
  · show (posN u (vp4 u)).length ≤ 65; omega
  · show (stN u (vp5 u) devWs).length ≤ 65; omega
  · show (vrel u).length ≤ 65
    unfold vrel
    omega
  · unfold vlocs
    split
    · unfold vloc
      omega
    · simp
theorem small_len {x : PepL} (h : SmallQ x) : lenP x ≤ 1048576 := by
  have h1 := lenI_small h.r
  have h2 := lenI_small h.l
  have a := h.e
  have b := h.n
  have c := h.m
  have d := h.k
  unfold lenP
  omega
theorem fit_to {x : PepL} (h : FitT x) : fitR x = true := by
  have hr : x.rel.isEmpty = false := by
    have := h.f2
    cases hx : x.rel with
    | nil => exact absurd hx this
    | cons a r => rfl
  have hl : letB x.c = true := by
    unfold letB
    rcases h.f4 with e | e | e | e <;> rw [e] <;> rfl
  unfold fitR
  rw [h.f1, hr, hl, h.f3, h.f8, h.f5, h.f6, h.f7]
  rfl

set_option maxRecDepth 100000 in
set_option maxHeartbeats 2000000 in
theorem RNormal_ok (s : ByteArray) (X : PepL) (w : World) (h : okP s.data.toList = true) (hX : pepOf (lowL s.data.toList) = X) :
    Calls Tryz.prog 9 #[.string s] w fun e w' => e = .returned (.string (ofL (textP X))) ∧ Below w.heap.size w w' := by
  have P1 := fun w => RParse_ok s w h
  have SX : SmallQ X := by
    rw [← hX]
    exact pep_smallQ _ (by rw [lowL_len]; exact (low_ok h).2)
  have hf : FitT X := by rw [← hX]; exact ok_fit h
  rw [hX] at P1
  have TX := fun r1 q1 c1 d1 w rr ll => Rraw_any X r1 q1 c1 d1 w rr ll (small_len SX) hf.f4
  have P1 := hide P1
  have TX := hide TX
  generalize textP X = RS at *
  clear h hX SX hf
  go_enter Tryz.func9, Tryz.ntmps9
  go_wp2_with fail
  refine (P1.out _).mono ?_
  rintro e w1 ⟨vr, vl, rfl, t1, t2, b1⟩
  obtain ⟨r1, c1, rfl, _⟩ := id t1
  obtain ⟨q1, d1, rfl, _⟩ := id t2
  have bb : Below w1.heap.size w1 ((w1.alloc (.cells #[.string (ofL X.ep), .slice r1 X.rel.length c1, .int .u8 X.c, .string (ofL X.n), .bool X.b, .string (ofL X.m), .bool X.d, .string (ofL X.k), .slice q1 X.loc.length d1] 24)).alloc (.cells #[.int .i64 0, .int .i64 0] 27)) := ((Below.refl _ w1).alloc (Nat.le_refl _) _).alloc (by simp) _
  have T2 := hide (TX.out r1 q1 c1 d1 _ (t1.below bb) (t2.below bb))
  have B1 := b1.trans (bb.mono b1.size)
  clear t1 t2 b1
  try unfold pepV
  go_wp2_with fail
  refine T2.out.mono ?_
  rintro e w2 ⟨rfl, b2⟩
  go_wp2_with fail
  go_ret
  exact ⟨rfl, B1.trans (b2.mono B1.size)⟩
set_option maxRecDepth 100000 in
set_option maxHeartbeats 1000000 in
theorem RNormal_no (s : ByteArray) (w : World) (h : okP s.data.toList = false) :
    Calls Tryz.prog 9 #[.string s] w fun e w' => e = .returned (.string ⟨#[]⟩) ∧ Below w.heap.size w w' := by
  have P1 := hide (fun w => RParse_no s w h)
  have hne : ((errX s.data.toList).1 == 0) = false := errX_ne _ h
  generalize (errX s.data.toList).1 = E1 at *
  generalize ((errX s.data.toList).2 : Int) = E2 at *
  unfold pepZ at *
  have hne2 : (E1 != 0) = true := by rw [bne, hne]; rfl
  clear h
  go_enter Tryz.func9, Tryz.ntmps9
  go_wp2_with fail
  refine (P1.out _).mono ?_
  rintro e w1 ⟨rfl, b1⟩
  go_wp2_with fail
  go_ret
  exact ⟨rfl, b1.trans ((((Below.refl _ w1).alloc (Nat.le_refl _) _).alloc (by simp) _).mono b1.size)⟩

end Go.Proofs.YtagnikhkmaplpaaGreat

/-
  Walks: the document's Compare.
-/
namespace Go.Proofs.YtagnikhkmaplpaaGreat
open Go.RowKit Go.Shelf
set_option linter.unusedVariables false

/-- What two readings leave in memory. -/
theorem two_boxes {w1 w2 : World} {A F : Array Value} (b2 : Below ((w1.alloc (.cells A 24)).alloc (.cells F 27)).heap.size ((w1.alloc (.cells A 24)).alloc (.cells F 27)) w2) (A2 F2 : Array Value) :
    ((w2.alloc (.cells A2 24)).alloc (.cells F2 27)).heap[w1.heap.size]? = some (.cells A 24 (0, 0)) ∧ ((w2.alloc (.cells A2 24)).alloc (.cells F2 27)).heap[w1.heap.size + 1]? = some (.cells F 27 (0, 0)) ∧
      ((w2.alloc (.cells A2 24)).alloc (.cells F2 27)).heap[w2.heap.size]? = some (.cells A2 24 (0, 0)) ∧ ((w2.alloc (.cells A2 24)).alloc (.cells F2 27)).heap[w2.heap.size + 1]? = some (.cells F2 27 (0, 0)) ∧
      Below w1.heap.size w1 ((w2.alloc (.cells A2 24)).alloc (.cells F2 27)) ∧ Below w2.heap.size w2 ((w2.alloc (.cells A2 24)).alloc (.cells F2 27)) := by
  have hs := b2.size
  simp only [World.size_alloc] at hs
  have bb := ((Below.refl w1.heap.size w1).alloc (Nat.le_refl _) (.cells A 24)).alloc (by simp) (.cells F 27)
  have k0 := World.alloc_heap_new w1 (.cells A 24)
  have k1 := World.alloc_heap_new (w1.alloc (.cells A 24)) (.cells F 27)
  simp only [World.size_alloc] at k1
  have k2 := World.alloc_heap_new w2 (.cells A2 24)
  have k3 := World.alloc_heap_new (w2.alloc (.cells A2 24)) (.cells F2 27)
  simp only [World.size_alloc] at k3
  have g0 : w2.heap[w1.heap.size]? = _ := (b2.block _ (by simp; omega)).trans ((Below.heap_alloc _ _ _ (by simp)).trans k0)
  have g1 : w2.heap[w1.heap.size + 1]? = _ := (b2.block _ (by simp)).trans k1
  have c2 := ((Below.refl w2.heap.size w2).alloc (Nat.le_refl _) (.cells A2 24)).alloc (by simp) (.cells F2 27)
  refine ⟨(c2.block _ (Array.getElem?_eq_some_iff.1 g0).1).trans g0, (c2.block _ (Array.getElem?_eq_some_iff.1 g1).1).trans g1, (Below.heap_alloc _ _ _ (by simp)).trans k2, k3, (bb.trans (b2.mono (by simp; omega))).trans (c2.mono (by omega)), c2⟩

set_option maxRecDepth 100000 in
set_option maxHeartbeats 4000000 in
theorem RCompare_nn (s t : ByteArray) (w : World) (h1 : okP s.data.toList = false) (h2 : okP t.data.toList = false) :
    Calls Tryz.prog 11 #[.string s, .string t] w fun e w' => e = .returned (.int .i64 0) ∧ Below w.heap.size w w' := by
  have P1 := fun w => RParse_no s w h1
  have n1 := errX_ne _ h1
  have P2 := fun w => RParse_no t w h2
  have n2 := errX_ne _ h2
  generalize (errX s.data.toList).1 = E1 at *
  generalize ((errX s.data.toList).2 : Int) = E2 at *
  have m1 : (E1 != 0) = true := by rw [bne, n1]; rfl
  generalize (errX t.data.toList).1 = G1 at *
  generalize ((errX t.data.toList).2 : Int) = G2 at *
  have m2 : (G1 != 0) = true := by rw [bne, n2]; rfl
  unfold pepZ at *
  have P1 := hide P1
  have P2 := hide P2
  have RK := hide (fun b w => Rrank_any b w)
  have IT := hide (fun a b w => Rints_any a b w)
  clear h1 h2
  go_enter Tryz.func11, Tryz.ntmps11
  go_wp2_with fail
  refine (P1.out _).mono ?_
  rintro e w1 ⟨rfl, b1⟩
  go_wp2_with fail
  refine (P2.out _).mono ?_
  rintro e w2 ⟨rfl, b2⟩
  obtain ⟨g1, g2, g3, g4, bw, bx⟩ := two_boxes b2 #[.string ⟨#[]⟩, .slice none 0 0, .int .u8 0, .string ⟨#[]⟩, .bool false, .string ⟨#[]⟩, .bool false, .string ⟨#[]⟩, .slice none 0 0] #[.int .i64 G1, .int .i64 G2]
  have u0 := cell_at 0 g2 rfl
  have v0 := cell_at 0 g4 rfl
  have BB := hide (b1.trans (bw.mono b1.size))
  clear b1 b2 g1 g2 g3 g4 bw bx
  go_wp2_with fail
  generalize (w2.alloc (.cells #[.string ⟨#[]⟩, .slice none 0 0, .int .u8 0, .string ⟨#[]⟩, .bool false, .string ⟨#[]⟩, .bool false, .string ⟨#[]⟩, .slice none 0 0] 24)).alloc (.cells #[.int .i64 G1, .int .i64 G2] 27) = W at *
  go_quiet (first | (go_at_call 38; exact Calls.quiet_of_same (RK.out _ _)) | (go_at_call 37; exact Calls.quiet_of_same (IT.out _ _ _)) | fail)
  have B9 := hide (BB.out.trans (below_drewN _ W nq))
  generalize W.drewN nq = W9 at *
  go_wp2_with fail
  go_ret
  exact ⟨rfl, B9.out⟩

set_option maxRecDepth 100000 in
set_option maxHeartbeats 4000000 in
theorem RCompare_no (s t : ByteArray) (w : World) (h1 : okP s.data.toList = false) (h2 : okP t.data.toList = true) :
    Calls Tryz.prog 11 #[.string s, .string t] w fun e w' => e = .returned (.int .i64 (-1)) ∧ Below w.heap.size w w' := by
  have P1 := fun w => RParse_no s w h1
  have n1 := errX_ne _ h1
  have P2 := fun w => RParse_ok t w h2
  have S2 : SmallP (pepOf (lowL t.data.toList)) := pep_small _ (by rw [lowL_len]; exact (low_ok h2).2)
  have M2 := mid_of _ (small_len (pep_smallQ _ (by rw [lowL_len]; exact (low_ok h2).2)))
  have F2 := fit_to (ok_fit h2)
  generalize (errX s.data.toList).1 = E1 at *
  generalize ((errX s.data.toList).2 : Int) = E2 at *
  have m1 : (E1 != 0) = true := by rw [bne, n1]; rfl
  clear S2 M2 F2
  generalize pepOf (lowL t.data.toList) = Y at *
  unfold pepZ at *
  have P1 := hide P1
  have P2 := hide P2
  have RK := hide (fun b w => Rrank_any b w)
  have IT := hide (fun a b w => Rints_any a b w)
  clear h1 h2
  go_enter Tryz.func11, Tryz.ntmps11
  go_wp2_with fail
  refine (P1.out _).mono ?_
  rintro e w1 ⟨rfl, b1⟩
  go_wp2_with fail
  refine (P2.out _).mono ?_
  rintro e w2 ⟨vr, vl, rfl, t3, t4, b2⟩
  obtain ⟨r2, c2, rfl, _⟩ := id t3
  obtain ⟨q2, d2, rfl, _⟩ := id t4
  try unfold pepV
  obtain ⟨g1, g2, g3, g4, bw, bx⟩ := two_boxes b2 #[.string (ofL Y.ep), .slice r2 Y.rel.length c2, .int .u8 Y.c, .string (ofL Y.n), .bool Y.b, .string (ofL Y.m), .bool Y.d, .string (ofL Y.k), .slice q2 Y.loc.length d2] #[.int .i64 0, .int .i64 0]
  have u0 := cell_at 0 g2 rfl
  have v0 := cell_at 0 g4 rfl
  have BB := hide (b1.trans (bw.mono b1.size))
  clear b1 b2 g1 g2 g3 g4 bw bx
  go_wp2_with fail
  generalize (w2.alloc (.cells #[.string (ofL Y.ep), .slice r2 Y.rel.length c2, .int .u8 Y.c, .string (ofL Y.n), .bool Y.b, .string (ofL Y.m), .bool Y.d, .string (ofL Y.k), .slice q2 Y.loc.length d2] 24)).alloc (.cells #[.int .i64 0, .int .i64 0] 27) = W at *
  go_quiet (first | (go_at_call 38; exact Calls.quiet_of_same (RK.out _ _)) | (go_at_call 37; exact Calls.quiet_of_same (IT.out _ _ _)) | fail)
  have B9 := hide (BB.out.trans (below_drewN _ W nq))
  generalize W.drewN nq = W9 at *
  go_wp2_with fail
  go_ret
  exact ⟨rfl, B9.out⟩

set_option maxRecDepth 100000 in
set_option maxHeartbeats 4000000 in
theorem RCompare_on (s t : ByteArray) (w : World) (h1 : okP s.data.toList = true) (h2 : okP t.data.toList = false) :
    Calls Tryz.prog 11 #[.string s, .string t] w fun e w' => e = .returned (.int .i64 1) ∧ Below w.heap.size w w' := by
  have P1 := fun w => RParse_ok s w h1
  have S1 : SmallP (pepOf (lowL s.data.toList)) := pep_small _ (by rw [lowL_len]; exact (low_ok h1).2)
  have M1 := mid_of _ (small_len (pep_smallQ _ (by rw [lowL_len]; exact (low_ok h1).2)))
  have F1 := fit_to (ok_fit h1)
  have P2 := fun w => RParse_no t w h2
  have n2 := errX_ne _ h2
  clear S1 M1 F1
  generalize pepOf (lowL s.data.toList) = X at *
  generalize (errX t.data.toList).1 = G1 at *
  generalize ((errX t.data.toList).2 : Int) = G2 at *
  have m2 : (G1 != 0) = true := by rw [bne, n2]; rfl
  unfold pepZ at *
  have P1 := hide P1
  have P2 := hide P2
  have RK := hide (fun b w => Rrank_any b w)
  have IT := hide (fun a b w => Rints_any a b w)
  clear h1 h2
  go_enter Tryz.func11, Tryz.ntmps11
  go_wp2_with fail
  refine (P1.out _).mono ?_
  rintro e w1 ⟨vr, vl, rfl, t1, t2, b1⟩
  obtain ⟨r1, c1, rfl, _⟩ := id t1
  obtain ⟨q1, d1, rfl, _⟩ := id t2
  try unfold pepV
  go_wp2_with fail
  refine (P2.out _).mono ?_
  rintro e w2 ⟨rfl, b2⟩
  obtain ⟨g1, g2, g3, g4, bw, bx⟩ := two_boxes b2 #[.string ⟨#[]⟩, .slice none 0 0, .int .u8 0, .string ⟨#[]⟩, .bool false, .string ⟨#[]⟩, .bool false, .string ⟨#[]⟩, .slice none 0 0] #[.int .i64 G1, .int .i64 G2]
  have u0 := cell_at 0 g2 rfl
  have v0 := cell_at 0 g4 rfl
  have BB := hide (b1.trans (bw.mono b1.size))
  clear b1 b2 g1 g2 g3 g4 bw bx
  go_wp2_with fail
  generalize (w2.alloc (.cells #[.string ⟨#[]⟩, .slice none 0 0, .int .u8 0, .string ⟨#[]⟩, .bool false, .string ⟨#[]⟩, .bool false, .string ⟨#[]⟩, .slice none 0 0] 24)).alloc (.cells #[.int .i64 G1, .int .i64 G2] 27) = W at *
  go_quiet (first | (go_at_call 38; exact Calls.quiet_of_same (RK.out _ _)) | (go_at_call 37; exact Calls.quiet_of_same (IT.out _ _ _)) | fail)
  have B9 := hide (BB.out.trans (below_drewN _ W nq))
  generalize W.drewN nq = W9 at *
  go_wp2_with fail
  go_ret
  exact ⟨rfl, B9.out⟩

set_option maxRecDepth 100000 in
set_option maxHeartbeats 4000000 in
theorem RCompare_oo (s t : ByteArray) (w : World) (h1 : okP s.data.toList = true) (h2 : okP t.data.toList = true) :
    Calls Tryz.prog 11 #[.string s, .string t] w fun e w' => e = .returned (.int .i64 (ordR (pepOf (lowL s.data.toList)) (pepOf (lowL t.data.toList)))) ∧ Below w.heap.size w w' := by
  have P1 := fun w => RParse_ok s w h1
  have S1 : SmallP (pepOf (lowL s.data.toList)) := pep_small _ (by rw [lowL_len]; exact (low_ok h1).2)
  have M1 := mid_of _ (small_len (pep_smallQ _ (by rw [lowL_len]; exact (low_ok h1).2)))
  have F1 := fit_to (ok_fit h1)
  have P2 := fun w => RParse_ok t w h2
  have S2 : SmallP (pepOf (lowL t.data.toList)) := pep_small _ (by rw [lowL_len]; exact (low_ok h2).2)
  have M2 := mid_of _ (small_len (pep_smallQ _ (by rw [lowL_len]; exact (low_ok h2).2)))
  have F2 := fit_to (ok_fit h2)
  have OR := fun r1 r2 q1 q2 c1 c2 d1 d2 w ra rb la lb => ROrder_any (pepOf (lowL s.data.toList)) (pepOf (lowL t.data.toList)) r1 r2 q1 q2 c1 c2 d1 d2 w ra rb la lb M1 M2 F1 F2
  generalize ordR (pepOf (lowL s.data.toList)) (pepOf (lowL t.data.toList)) = O at *
  clear S1 M1 F1
  generalize pepOf (lowL s.data.toList) = X at *
  clear S2 M2 F2
  generalize pepOf (lowL t.data.toList) = Y at *
  have P1 := hide P1
  have P2 := hide P2
  have OR := hide OR
  clear h1 h2
  go_enter Tryz.func11, Tryz.ntmps11
  go_wp2_with fail
  refine (P1.out _).mono ?_
  rintro e w1 ⟨vr, vl, rfl, t1, t2, b1⟩
  obtain ⟨r1, c1, rfl, _⟩ := id t1
  obtain ⟨q1, d1, rfl, _⟩ := id t2
  try unfold pepV
  go_wp2_with fail
  refine (P2.out _).mono ?_
  rintro e w2 ⟨vr, vl, rfl, t3, t4, b2⟩
  obtain ⟨r2, c2, rfl, _⟩ := id t3
  obtain ⟨q2, d2, rfl, _⟩ := id t4
  try unfold pepV
  obtain ⟨g1, g2, g3, g4, bw, bx⟩ := two_boxes b2 #[.string (ofL Y.ep), .slice r2 Y.rel.length c2, .int .u8 Y.c, .string (ofL Y.n), .bool Y.b, .string (ofL Y.m), .bool Y.d, .string (ofL Y.k), .slice q2 Y.loc.length d2] #[.int .i64 0, .int .i64 0]
  have u0 := cell_at 0 g2 rfl
  have v0 := cell_at 0 g4 rfl
  obtain ⟨x0, x1, x2, x3, x4, x5, x6, x7, x8⟩ := seen9 g1
  obtain ⟨y0, y1, y2, y3, y4, y5, y6, y7, y8⟩ := seen9 g3
  have T1 := hide (t1.below bw)
  have T2 := hide (t2.below bw)
  have T3 := hide (t3.below bx)
  have T4 := hide (t4.below bx)
  have BB := hide (b1.trans (bw.mono b1.size))
  clear b1 b2 g1 g2 g3 g4 bw bx
  go_wp2_with fail
  generalize (w2.alloc (.cells #[.string (ofL Y.ep), .slice r2 Y.rel.length c2, .int .u8 Y.c, .string (ofL Y.n), .bool Y.b, .string (ofL Y.m), .bool Y.d, .string (ofL Y.k), .slice q2 Y.loc.length d2] 24)).alloc (.cells #[.int .i64 0, .int .i64 0] 27) = W at *
  refine (OR.out r1 r2 q1 q2 c1 c2 d1 d2 _ T1.out T3.out T2.out T4.out).mono ?_
  rintro e w3 ⟨rfl, b3⟩
  go_wp2_with fail
  go_ret
  exact ⟨rfl, BB.out.trans (b3.mono BB.out.size)⟩

theorem RCompare_any (s t : ByteArray) (w : World) :
    Calls Tryz.prog 11 #[.string s, .string t] w fun e w' => e = .returned (.int .i64 (cmpT s.data.toList t.data.toList)) ∧ Below w.heap.size w w' := by
  unfold cmpT
  cases h1 : okP s.data.toList
  · cases h2 : okP t.data.toList
    · exact RCompare_nn s t w h1 h2
    · exact RCompare_no s t w h1 h2
  · cases h2 : okP t.data.toList
    · exact RCompare_on s t w h1 h2
    · have := RCompare_oo s t w h1 h2
      rw [ord_same _ _ (ok_fit h1) (ok_fit h2)] at this
      exact this

end Go.Proofs.YtagnikhkmaplpaaGreat
