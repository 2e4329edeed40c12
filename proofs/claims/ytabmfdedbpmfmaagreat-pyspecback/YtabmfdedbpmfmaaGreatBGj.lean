/-
  Walks: a public version. · Walks: the beginning of a version. · Walks: public versions, versions of two numbers. · Walks: a version, or the beginning of one.
-/
import Derived.Test.YtabmfdedbpmfmaaGreatBGh
import Derived.Deep.Cut
namespace Go.Proofs.YtabmfdedbpmfmaaGreat
open Go.RowKit Go.Shelf
set_option linter.unusedVariables false

set_option maxRecDepth 100000 in
set_option maxHeartbeats 4000000 in
theorem readOnly_170 (s : ByteArray) (w : World) (hs : s.size ≤ 140737488351232) :
    Calls Tryz.prog 168 #[.string s, .func (.func 170) #[] #[]] w (WdPost (onlyW pubB s.data.toList) w) := by
  have P1 : ∀ w, Calls Tryz.prog 36 #[.string s] w (WdPost (onlyW (fun _ => true) s.data.toList) w) := fun w => by
    cases h : okP s.data.toList
    · exact readVersion_no s w hs h
    · exact readVersion_ok s w h
  unfold onlyW at P1 ⊢
  rw [if_pos rfl] at P1
  cases ha : okP s.data.toList
  · have n1 := errX_ne _ ha
    rw [ha] at P1
    rw [if_neg (by simp)]
    rw [if_neg (by simp)] at P1
    have HE : Hid ((errX s.data.toList).1 ≠ 0) := hide (by simpa using n1)
    generalize (errX s.data.toList).1 = e1 at *
    generalize (errX s.data.toList).2 = p1 at *
    have P1 := hide P1
    clear ha
    have R0 := RB.start w
    go_enter Tryz.func168, Tryz.ntmps168
    go_wp2_with fail
    refine (P1.out _).mono ?_
    rintro e w1 ⟨b1, _, st, rfl⟩
    try unfold zerV
    obtain ⟨V, hV, nP, nF, bV, sV⟩ := two_new w1 #[.string ⟨#[]⟩, .slice none 0 0, .int .u8 0, .string ⟨#[]⟩, .bool false, .string ⟨#[]⟩, .bool false, .string ⟨#[]⟩, .slice none 0 0, .string ⟨#[]⟩, .bool st] #[.int .i64 e1, .int .i64 (p1 : Int)] 59 25
    have R2 := (R0.below b1).below bV
    have hlt := R2.lt
    obtain ⟨x0, x1, x2, x3, x4, x5, x6, x7, x8, x9, x10, y0, y1, y2, y3, y4, y5, y6, y7, y8, y9, y10⟩ := seen11v R2.ver
    obtain ⟨f0, f1, g0, g1⟩ := seen2v R2.flt
    obtain ⟨u0, u1, _, _⟩ := seen2v nF
    obtain ⟨s0, s1, s2, s3, s4, s5, s6, s7, s8, s9, s10, _⟩ := seen11v nP
    obtain ⟨W9, hW9, hRQ, hT9⟩ := R2.put13 (.string ⟨#[]⟩) (.slice none 0 0) (.int .u8 0) (.string ⟨#[]⟩) (.bool false) (.string ⟨#[]⟩) (.bool false) (.string ⟨#[]⟩) (.slice none 0 0) (.string ⟨#[]⟩) (.bool st) (.int .i64 e1) (.int .i64 (p1 : Int))
    replace hW9 := hW9.symm
    have RQ := hide hRQ
    have TQ := hide hT9
    clear hRQ hT9
    clear nP nF bV R0 b1 P1 R2
    go_wp2_with fail
    go_region
    all_goals
      go_wp2_with fail
      refine fin168 _ _ w.heap.size (w.heap.size + 1) _ _ _ _ _ _ _ _ _ _ _ _ _ ⟨_, _, _, rfl⟩ ⟨_, _, _, rfl⟩ rfl rfl RQ.out.ver RQ.out.flt ?_
      exact ⟨RQ.out.bel.drew, HE.out, st, rfl⟩
  · rw [ha] at P1
    rw [if_pos rfl]
    rw [if_pos rfl] at P1
    generalize pepOf (lowL s.data.toList) = x at *
    have P1 := hide P1
    have MC := fun r1 q1 c1 d1 W => isPublic_any x r1 q1 c1 d1 W
    try dsimp only
    obtain ⟨B, hB⟩ : ∃ B, (pubB x) = B := ⟨_, rfl⟩
    simp only [hB] at MC ⊢
    have MC := hide MC
    generalize hR : (if B = true then Wd.ok x s.data.toList false else Wd.bad 19 0) = R
    have HRR := hide hR
    clear ha hB hR
    have R0 := RB.start w
    go_enter Tryz.func168, Tryz.ntmps168
    go_wp2_with fail
    refine (P1.out _).mono ?_
    rintro e w1 ⟨b1, vr, vl, rfl, t1, t2, fr1, fr2⟩
    simp only [World.size_alloc] at fr1 fr2
    obtain ⟨r1, c1, rfl, _⟩ := id t1
    obtain ⟨q1, d1, rfl, _⟩ := id t2
    try unfold verV
    obtain ⟨V, hV, nP, nF, bV, sV⟩ := two_new w1 #[.string (ofL x.ep), .slice r1 x.rel.length c1, .int .u8 x.c, .string (ofL x.n), .bool x.b, .string (ofL x.m), .bool x.d, .string (ofL x.k), .slice q1 x.loc.length d1, .string (ofL s.data.toList), .bool false] #[.int .i64 0, .int .i64 0] 59 25
    have hq : w.heap.size + 1 < w1.heap.size := (R0.below b1).lt
    have HV := hide hV
    clear hV
    have R2 := (R0.below b1).below bV
    have hlt := R2.lt
    obtain ⟨u0, u1, _, _⟩ := seen2v nF
    obtain ⟨s0, s1, s2, s3, s4, s5, s6, s7, s8, s9, s10, _⟩ := seen11v nP
    have NP := hide nP
    have NF := hide nF
    have HR2 := hide R2
    have F1 := hide fr1
    have F2 := hide fr2
    have T1 := hide (t1.below bV)
    have T2 := hide (t2.below bV)
    have HLT : Hid (w1.heap.size + 1 < V.heap.size) := (Array.getElem?_eq_some_iff.1 nF).1
    clear nP nF bV R0 R2 b1 P1 t1 t2 fr1 fr2
    go_upto_region 2 with fail
    rw [HV.out]
    go_wp2_with fail
    refine (MC.out _ _ _ _ _).mono ?_
    rintro e w3 ⟨rfl, b3⟩
    have R3 := HR2.out.below b3
    have nP := (b3.block _ (by have := HLT.out; omega)).trans NP.out
    have nF := (b3.block _ HLT.out).trans NF.out
    clear hlt u0 u1 s0 s1 s2 s3 s4 s5 s6 s7 s8 s9 s10
    obtain ⟨x0, x1, x2, x3, x4, x5, x6, x7, x8, x9, x10, y0, y1, y2, y3, y4, y5, y6, y7, y8, y9, y10⟩ := seen11v R3.ver
    obtain ⟨f0, f1, g0, g1⟩ := seen2v R3.flt
    obtain ⟨u0, u1, _, _⟩ := seen2v nF
    obtain ⟨s0, s1, s2, s3, s4, s5, s6, s7, s8, s9, s10, _⟩ := seen11v nP
    have hlt := R3.lt
    have U1 := hide (T1.out.below b3)
    have U2 := hide (T2.out.below b3)
    have HR3 := hide R3
    clear R3 nP nF b3 T1 T2 HR2 NP NF
    cases B
    · obtain ⟨W9, hW9, hRQ, hT9⟩ := HR3.out.put13 (.string ⟨#[]⟩) (.slice none 0 0) (.int .u8 0) (.string ⟨#[]⟩) (.bool false) (.string ⟨#[]⟩) (.bool false) (.string ⟨#[]⟩) (.slice none 0 0) (.string ⟨#[]⟩) (.bool false) (.int .i64 19) (.int .i64 0)
      replace hW9 := hW9.symm
      have RQ := hide hRQ
      have TQ := hide hT9
      clear hRQ hT9
      go_wp2_with fail
      refine fin168 _ _ w.heap.size (w.heap.size + 1) _ _ _ _ _ _ _ _ _ _ _ _ _ ⟨_, _, _, rfl⟩ ⟨_, _, _, rfl⟩ rfl rfl RQ.out.ver RQ.out.flt ?_
      have HE9 : R = .bad 19 0 := by rw [← HRR.out]; simp
      rw [HE9]
      exact ⟨RQ.out.bel, by decide, false, rfl⟩
    · obtain ⟨W9, hW9, hRQ, hT9⟩ := HR3.out.put13 (.string (ofL x.ep)) (.slice r1 x.rel.length c1) (.int .u8 x.c) (.string (ofL x.n)) (.bool x.b) (.string (ofL x.m)) (.bool x.d) (.string (ofL x.k)) (.slice q1 x.loc.length d1) (.string (ofL s.data.toList)) (.bool false) (.int .i64 0) (.int .i64 0)
      replace hW9 := hW9.symm
      have RQ := hide hRQ
      have TQ := hide hT9
      clear hRQ hT9
      go_wp2_with fail
      go_region
      all_goals
        go_wp2_with fail
        refine fin168 _ _ w.heap.size (w.heap.size + 1) _ _ _ _ _ _ _ _ _ _ _ _ _ ⟨_, _, _, rfl⟩ ⟨_, _, _, rfl⟩ rfl rfl RQ.out.ver RQ.out.flt ?_
        have HE9 : R = .ok x s.data.toList false := by rw [← HRR.out]; simp
        rw [HE9]
        exact ⟨RQ.out.bel.drew, _, _, rfl, (TQ.out _ _ U1.out F1.out).below ((Below.refl _ _).drew), (TQ.out _ _ U2.out F2.out).below ((Below.refl _ _).drew), F1.out.mono (Nat.le_add_right _ 2), F2.out.mono (Nat.le_add_right _ 2)⟩

end Go.Proofs.YtabmfdedbpmfmaaGreat

namespace Go.Proofs.YtabmfdedbpmfmaaGreat
open Go.RowKit Go.Shelf
set_option linter.unusedVariables false

set_option maxRecDepth 100000 in
set_option maxHeartbeats 4000000 in
theorem readOnly_174 (s : ByteArray) (w : World) (hs : s.size ≤ 140737488351232) :
    Calls Tryz.prog 168 #[.string s, .func (.func 174) #[] #[]] w (WdPost (onlyW bareB s.data.toList) w) := by
  have P1 : ∀ w, Calls Tryz.prog 36 #[.string s] w (WdPost (onlyW (fun _ => true) s.data.toList) w) := fun w => by
    cases h : okP s.data.toList
    · exact readVersion_no s w hs h
    · exact readVersion_ok s w h
  unfold onlyW at P1 ⊢
  rw [if_pos rfl] at P1
  cases ha : okP s.data.toList
  · have n1 := errX_ne _ ha
    rw [ha] at P1
    rw [if_neg (by simp)]
    rw [if_neg (by simp)] at P1
    have HE : Hid ((errX s.data.toList).1 ≠ 0) := hide (by simpa using n1)
    generalize (errX s.data.toList).1 = e1 at *
    generalize (errX s.data.toList).2 = p1 at *
    have P1 := hide P1
    clear ha
    have R0 := RB.start w
    go_enter Tryz.func168, Tryz.ntmps168
    go_wp2_with fail
    refine (P1.out _).mono ?_
    rintro e w1 ⟨b1, _, st, rfl⟩
    try unfold zerV
    obtain ⟨V, hV, nP, nF, bV, sV⟩ := two_new w1 #[.string ⟨#[]⟩, .slice none 0 0, .int .u8 0, .string ⟨#[]⟩, .bool false, .string ⟨#[]⟩, .bool false, .string ⟨#[]⟩, .slice none 0 0, .string ⟨#[]⟩, .bool st] #[.int .i64 e1, .int .i64 (p1 : Int)] 59 25
    have R2 := (R0.below b1).below bV
    have hlt := R2.lt
    obtain ⟨x0, x1, x2, x3, x4, x5, x6, x7, x8, x9, x10, y0, y1, y2, y3, y4, y5, y6, y7, y8, y9, y10⟩ := seen11v R2.ver
    obtain ⟨f0, f1, g0, g1⟩ := seen2v R2.flt
    obtain ⟨u0, u1, _, _⟩ := seen2v nF
    obtain ⟨s0, s1, s2, s3, s4, s5, s6, s7, s8, s9, s10, _⟩ := seen11v nP
    obtain ⟨W9, hW9, hRQ, hT9⟩ := R2.put13 (.string ⟨#[]⟩) (.slice none 0 0) (.int .u8 0) (.string ⟨#[]⟩) (.bool false) (.string ⟨#[]⟩) (.bool false) (.string ⟨#[]⟩) (.slice none 0 0) (.string ⟨#[]⟩) (.bool st) (.int .i64 e1) (.int .i64 (p1 : Int))
    replace hW9 := hW9.symm
    have RQ := hide hRQ
    have TQ := hide hT9
    clear hRQ hT9
    clear nP nF bV R0 b1 P1 R2
    go_wp2_with fail
    go_region
    all_goals
      go_wp2_with fail
      refine fin168 _ _ w.heap.size (w.heap.size + 1) _ _ _ _ _ _ _ _ _ _ _ _ _ ⟨_, _, _, rfl⟩ ⟨_, _, _, rfl⟩ rfl rfl RQ.out.ver RQ.out.flt ?_
      exact ⟨RQ.out.bel.drew, HE.out, st, rfl⟩
  · rw [ha] at P1
    rw [if_pos rfl]
    rw [if_pos rfl] at P1
    generalize pepOf (lowL s.data.toList) = x at *
    have P1 := hide P1
    have MC := fun r1 q1 c1 d1 W => isBase_any x r1 q1 c1 d1 W
    try dsimp only
    obtain ⟨B, hB⟩ : ∃ B, (bareB x) = B := ⟨_, rfl⟩
    simp only [hB] at MC ⊢
    have MC := hide MC
    generalize hR : (if B = true then Wd.ok x s.data.toList false else Wd.bad 19 0) = R
    have HRR := hide hR
    clear ha hB hR
    have R0 := RB.start w
    go_enter Tryz.func168, Tryz.ntmps168
    go_wp2_with fail
    refine (P1.out _).mono ?_
    rintro e w1 ⟨b1, vr, vl, rfl, t1, t2, fr1, fr2⟩
    simp only [World.size_alloc] at fr1 fr2
    obtain ⟨r1, c1, rfl, _⟩ := id t1
    obtain ⟨q1, d1, rfl, _⟩ := id t2
    try unfold verV
    obtain ⟨V, hV, nP, nF, bV, sV⟩ := two_new w1 #[.string (ofL x.ep), .slice r1 x.rel.length c1, .int .u8 x.c, .string (ofL x.n), .bool x.b, .string (ofL x.m), .bool x.d, .string (ofL x.k), .slice q1 x.loc.length d1, .string (ofL s.data.toList), .bool false] #[.int .i64 0, .int .i64 0] 59 25
    have hq : w.heap.size + 1 < w1.heap.size := (R0.below b1).lt
    have HV := hide hV
    clear hV
    have R2 := (R0.below b1).below bV
    have hlt := R2.lt
    obtain ⟨u0, u1, _, _⟩ := seen2v nF
    obtain ⟨s0, s1, s2, s3, s4, s5, s6, s7, s8, s9, s10, _⟩ := seen11v nP
    have NP := hide nP
    have NF := hide nF
    have HR2 := hide R2
    have F1 := hide fr1
    have F2 := hide fr2
    have T1 := hide (t1.below bV)
    have T2 := hide (t2.below bV)
    have HLT : Hid (w1.heap.size + 1 < V.heap.size) := (Array.getElem?_eq_some_iff.1 nF).1
    clear nP nF bV R0 R2 b1 P1 t1 t2 fr1 fr2
    go_upto_region 2 with fail
    rw [HV.out]
    go_wp2_with fail
    refine (MC.out _ _ _ _ _).mono ?_
    rintro e w3 ⟨rfl, b3⟩
    have R3 := HR2.out.below b3
    have nP := (b3.block _ (by have := HLT.out; omega)).trans NP.out
    have nF := (b3.block _ HLT.out).trans NF.out
    clear hlt u0 u1 s0 s1 s2 s3 s4 s5 s6 s7 s8 s9 s10
    obtain ⟨x0, x1, x2, x3, x4, x5, x6, x7, x8, x9, x10, y0, y1, y2, y3, y4, y5, y6, y7, y8, y9, y10⟩ := seen11v R3.ver
    obtain ⟨f0, f1, g0, g1⟩ := seen2v R3.flt
    obtain ⟨u0, u1, _, _⟩ := seen2v nF
    obtain ⟨s0, s1, s2, s3, s4, s5, s6, s7, s8, s9, s10, _⟩ := seen11v nP
    have hlt := R3.lt
    have U1 := hide (T1.out.below b3)
    have U2 := hide (T2.out.below b3)
    have HR3 := hide R3
    clear R3 nP nF b3 T1 T2 HR2 NP NF
    cases B
    · obtain ⟨W9, hW9, hRQ, hT9⟩ := HR3.out.put13 (.string ⟨#[]⟩) (.slice none 0 0) (.int .u8 0) (.string ⟨#[]⟩) (.bool false) (.string ⟨#[]⟩) (.bool false) (.string ⟨#[]⟩) (.slice none 0 0) (.string ⟨#[]⟩) (.bool false) (.int .i64 19) (.int .i64 0)
      replace hW9 := hW9.symm
      have RQ := hide hRQ
      have TQ := hide hT9
      clear hRQ hT9
      go_wp2_with fail
      refine fin168 _ _ w.heap.size (w.heap.size + 1) _ _ _ _ _ _ _ _ _ _ _ _ _ ⟨_, _, _, rfl⟩ ⟨_, _, _, rfl⟩ rfl rfl RQ.out.ver RQ.out.flt ?_
      have HE9 : R = .bad 19 0 := by rw [← HRR.out]; simp
      rw [HE9]
      exact ⟨RQ.out.bel, by decide, false, rfl⟩
    · obtain ⟨W9, hW9, hRQ, hT9⟩ := HR3.out.put13 (.string (ofL x.ep)) (.slice r1 x.rel.length c1) (.int .u8 x.c) (.string (ofL x.n)) (.bool x.b) (.string (ofL x.m)) (.bool x.d) (.string (ofL x.k)) (.slice q1 x.loc.length d1) (.string (ofL s.data.toList)) (.bool false) (.int .i64 0) (.int .i64 0)
      replace hW9 := hW9.symm
      have RQ := hide hRQ
      have TQ := hide hT9
      clear hRQ hT9
      go_wp2_with fail
      go_region
      all_goals
        go_wp2_with fail
        refine fin168 _ _ w.heap.size (w.heap.size + 1) _ _ _ _ _ _ _ _ _ _ _ _ _ ⟨_, _, _, rfl⟩ ⟨_, _, _, rfl⟩ rfl rfl RQ.out.ver RQ.out.flt ?_
        have HE9 : R = .ok x s.data.toList false := by rw [← HRR.out]; simp
        rw [HE9]
        exact ⟨RQ.out.bel.drew, _, _, rfl, (TQ.out _ _ U1.out F1.out).below ((Below.refl _ _).drew), (TQ.out _ _ U2.out F2.out).below ((Below.refl _ _).drew), F1.out.mono (Nat.le_add_right _ 2), F2.out.mono (Nat.le_add_right _ 2)⟩

end Go.Proofs.YtabmfdedbpmfmaaGreat

namespace Go.Proofs.YtabmfdedbpmfmaaGreat
open Go.RowKit Go.Shelf
set_option linter.unusedVariables false

set_option maxRecDepth 100000 in
set_option maxHeartbeats 4000000 in
theorem readPublic_any (s : ByteArray) (w : World) (hs : s.size ≤ 140737488351232) :
    Calls Tryz.prog 154 #[.string s] w (WdPost (onlyW pubB s.data.toList) w) := by
  have P1 := hide (fun W => readOnly_170 s W hs)
  generalize onlyW pubB s.data.toList = R at *
  have R0 := RB.start w
  cases R with
  | bad er p =>
    go_enter Tryz.func154, Tryz.ntmps154
    go_wp2_with fail
    refine (P1.out _).mono ?_
    rintro e w1 ⟨b1, hne, st, rfl⟩
    try unfold zerV
    have HNE := hide hne
    have R2 := R0.below b1
    have hlt := R2.lt
    obtain ⟨x0, x1, x2, x3, x4, x5, x6, x7, x8, x9, x10, y0, y1, y2, y3, y4, y5, y6, y7, y8, y9, y10⟩ := seen11v R2.ver
    obtain ⟨f0, f1, g0, g1⟩ := seen2v R2.flt
    obtain ⟨W9, hW9, hRQ, hT9⟩ := R2.put13 (.string ⟨#[]⟩) (.slice none 0 0) (.int .u8 0) (.string ⟨#[]⟩) (.bool false) (.string ⟨#[]⟩) (.bool false) (.string ⟨#[]⟩) (.slice none 0 0) (.string ⟨#[]⟩) (.bool st) (.int .i64 er) (.int .i64 (p : Int))
    replace hW9 := hW9.symm
    have RQ := hide hRQ
    clear hRQ hT9 R2 R0 b1 P1 hne
    go_wp2_with fail
    refine fin154 _ _ w.heap.size (w.heap.size + 1) _ _ _ _ _ _ _ _ _ _ _ _ _ ⟨_, _, _, rfl⟩ ⟨_, _, _, rfl⟩ rfl rfl RQ.out.ver RQ.out.flt ?_
    exact ⟨RQ.out.bel, HNE.out, st, rfl⟩
  | ok x t st =>
    go_enter Tryz.func154, Tryz.ntmps154
    go_wp2_with fail
    refine (P1.out _).mono ?_
    rintro e w1 ⟨b1, vr, vl, rfl, t1, t2, fr1, fr2⟩
    simp only [World.size_alloc] at fr1 fr2
    obtain ⟨r1, c1, rfl, _⟩ := id t1
    obtain ⟨q1, d1, rfl, _⟩ := id t2
    try unfold verV
    have R2 := R0.below b1
    have hlt := R2.lt
    obtain ⟨x0, x1, x2, x3, x4, x5, x6, x7, x8, x9, x10, y0, y1, y2, y3, y4, y5, y6, y7, y8, y9, y10⟩ := seen11v R2.ver
    obtain ⟨f0, f1, g0, g1⟩ := seen2v R2.flt
    obtain ⟨W9, hW9, hRQ, hT9⟩ := R2.put13 (.string (ofL x.ep)) (.slice r1 x.rel.length c1) (.int .u8 x.c) (.string (ofL x.n)) (.bool x.b) (.string (ofL x.m)) (.bool x.d) (.string (ofL x.k)) (.slice q1 x.loc.length d1) (.string (ofL t)) (.bool st) (.int .i64 0) (.int .i64 0)
    have HW9 := hide hW9
    have RQ := hide hRQ
    have TQ := hide hT9
    have T1 := hide t1
    have T2 := hide t2
    have F1 := hide fr1
    have F2 := hide fr2
    clear hRQ hT9 R2 R0 b1 P1 t1 t2 fr1 fr2 hW9
    go_wp2_with fail
    rw [← HW9.out]
    refine fin154 _ _ w.heap.size (w.heap.size + 1) _ _ _ _ _ _ _ _ _ _ _ _ _ ⟨_, _, _, rfl⟩ ⟨_, _, _, rfl⟩ rfl rfl RQ.out.ver RQ.out.flt ?_
    exact ⟨RQ.out.bel, _, _, rfl, TQ.out _ _ T1.out F1.out, TQ.out _ _ T2.out F2.out, F1.out.mono (Nat.le_add_right _ 2), F2.out.mono (Nat.le_add_right _ 2)⟩

set_option maxRecDepth 100000 in
set_option maxHeartbeats 4000000 in
theorem readCompatible_any (s : ByteArray) (w : World) (hs : s.size ≤ 140737488351232) :
    Calls Tryz.prog 149 #[.string s] w (WdPost (onlyW (fun x => pubB x && decide (1 < x.rel.length)) s.data.toList) w) := by
  have P1 := hide (fun W => readOnly_169 s W hs)
  generalize onlyW (fun x => pubB x && decide (1 < x.rel.length)) s.data.toList = R at *
  have R0 := RB.start w
  cases R with
  | bad er p =>
    go_enter Tryz.func149, Tryz.ntmps149
    go_wp2_with fail
    refine (P1.out _).mono ?_
    rintro e w1 ⟨b1, hne, st, rfl⟩
    try unfold zerV
    have HNE := hide hne
    have R2 := R0.below b1
    have hlt := R2.lt
    obtain ⟨x0, x1, x2, x3, x4, x5, x6, x7, x8, x9, x10, y0, y1, y2, y3, y4, y5, y6, y7, y8, y9, y10⟩ := seen11v R2.ver
    obtain ⟨f0, f1, g0, g1⟩ := seen2v R2.flt
    obtain ⟨W9, hW9, hRQ, hT9⟩ := R2.put13 (.string ⟨#[]⟩) (.slice none 0 0) (.int .u8 0) (.string ⟨#[]⟩) (.bool false) (.string ⟨#[]⟩) (.bool false) (.string ⟨#[]⟩) (.slice none 0 0) (.string ⟨#[]⟩) (.bool st) (.int .i64 er) (.int .i64 (p : Int))
    replace hW9 := hW9.symm
    have RQ := hide hRQ
    clear hRQ hT9 R2 R0 b1 P1 hne
    go_wp2_with fail
    refine fin149 _ _ w.heap.size (w.heap.size + 1) _ _ _ _ _ _ _ _ _ _ _ _ _ ⟨_, _, _, rfl⟩ ⟨_, _, _, rfl⟩ rfl rfl RQ.out.ver RQ.out.flt ?_
    exact ⟨RQ.out.bel, HNE.out, st, rfl⟩
  | ok x t st =>
    go_enter Tryz.func149, Tryz.ntmps149
    go_wp2_with fail
    refine (P1.out _).mono ?_
    rintro e w1 ⟨b1, vr, vl, rfl, t1, t2, fr1, fr2⟩
    simp only [World.size_alloc] at fr1 fr2
    obtain ⟨r1, c1, rfl, _⟩ := id t1
    obtain ⟨q1, d1, rfl, _⟩ := id t2
    try unfold verV
    have R2 := R0.below b1
    have hlt := R2.lt
    obtain ⟨x0, x1, x2, x3, x4, x5, x6, x7, x8, x9, x10, y0, y1, y2, y3, y4, y5, y6, y7, y8, y9, y10⟩ := seen11v R2.ver
    obtain ⟨f0, f1, g0, g1⟩ := seen2v R2.flt
    obtain ⟨W9, hW9, hRQ, hT9⟩ := R2.put13 (.string (ofL x.ep)) (.slice r1 x.rel.length c1) (.int .u8 x.c) (.string (ofL x.n)) (.bool x.b) (.string (ofL x.m)) (.bool x.d) (.string (ofL x.k)) (.slice q1 x.loc.length d1) (.string (ofL t)) (.bool st) (.int .i64 0) (.int .i64 0)
    have HW9 := hide hW9
    have RQ := hide hRQ
    have TQ := hide hT9
    have T1 := hide t1
    have T2 := hide t2
    have F1 := hide fr1
    have F2 := hide fr2
    clear hRQ hT9 R2 R0 b1 P1 t1 t2 fr1 fr2 hW9
    go_wp2_with fail
    rw [← HW9.out]
    refine fin149 _ _ w.heap.size (w.heap.size + 1) _ _ _ _ _ _ _ _ _ _ _ _ _ ⟨_, _, _, rfl⟩ ⟨_, _, _, rfl⟩ rfl rfl RQ.out.ver RQ.out.flt ?_
    exact ⟨RQ.out.bel, _, _, rfl, TQ.out _ _ T1.out F1.out, TQ.out _ _ T2.out F2.out, F1.out.mono (Nat.le_add_right _ 2), F2.out.mono (Nat.le_add_right _ 2)⟩

theorem ends_any (s : ByteArray) (hs : 2 ≤ s.size) : ((s.extract (s.size - 2) s.size).toList == [46, 42]) = endsW s.data.toList := by
  rw [toL, extract_end, ofL_data]
  unfold endsW
  rw [len_data, decide_eq_true hs, Bool.true_and]
set_option maxRecDepth 100000 in
set_option maxHeartbeats 4000000 in
theorem HasSuffix_any (s : ByteArray) (w : World) (hs : s.size ≤ 140737488351232) :
    Calls Tryz.prog 193 #[.string s, .string ⟨#[46, 42]⟩] w fun e w' => e = .returned (.bool (endsW s.data.toList)) ∧ w' = w := by
  by_cases h2 : 2 ≤ s.size
  · have hE := ends_any s h2
    generalize endsW s.data.toList = B at *
    have h3 : (2 : Int) ≤ (s.size : Int) := by omega
    have hsub : ((s.size : Int) - 2) = ((s.size - 2 : Nat) : Int) := by omega
    go_enter Tryz.func193, Tryz.ntmps193
    go_wp2_with fail
    go_ret
    exact ⟨rfl, rfl⟩
  · have h3 : ¬ (2 : Int) ≤ (s.size : Int) := by omega
    have hE : endsW s.data.toList = false := by unfold endsW; rw [len_data, decide_eq_false h2]; rfl
    rw [hE]
    go_enter Tryz.func193, Tryz.ntmps193
    go_wp2_with fail
    go_ret
    exact ⟨rfl, rfl⟩

end Go.Proofs.YtabmfdedbpmfmaaGreat

namespace Go.Proofs.YtabmfdedbpmfmaaGreat
open Go.RowKit Go.Shelf
set_option linter.unusedVariables false

set_option maxRecDepth 100000 in
set_option maxHeartbeats 4000000 in
theorem CutIn_any (s : ByteArray) (w : World) (hs : s.size ≤ 140737488351232) :
    Calls Tryz.prog 184 #[.string s, .string ⟨#[46, 42]⟩] w fun e w' => e = .returned (.tuple #[.string (if endsW s.data.toList = true then s.extract 0 (s.size - 2) else s), .bool (endsW s.data.toList)]) ∧ w' = w := by
  have H1 := fun W => HasSuffix_any s W hs
  cases hE : endsW s.data.toList
  · rw [hE] at H1
    rw [if_neg (by simp)]
    have H1 := hide H1
    go_enter Tryz.func184, Tryz.ntmps184
    go_wp2_with fail
    refine (H1.out _).mono ?_
    rintro e w0 ⟨rfl, hw0⟩
    rw [hw0]
    clear hw0 w0
    go_wp2_with fail
    go_ret2
    exact ⟨rfl, rfl⟩
  · rw [hE] at H1
    rw [if_pos rfl]
    have h2 : 2 ≤ s.size := by
      unfold endsW at hE
      rw [len_data] at hE
      simp only [Bool.and_eq_true, decide_eq_true_eq] at hE
      exact hE.1
    have h3 : (2 : Int) ≤ (s.size : Int) := by omega
    have hsub : ((s.size : Int) - 2) = ((s.size - 2 : Nat) : Int) := by omega
    have H1 := hide H1
    clear hE
    go_enter Tryz.func184, Tryz.ntmps184
    go_wp2_with fail
    refine (H1.out _).mono ?_
    rintro e w0 ⟨rfl, hw0⟩
    rw [hw0]
    clear hw0 w0
    go_wp2_with fail
    go_ret2
    exact ⟨rfl, rfl⟩
set_option maxRecDepth 100000 in
set_option maxHeartbeats 4000000 in
theorem CutSuffix_any (s : ByteArray) (w : World) (hs : s.size ≤ 140737488351232) :
    Calls Tryz.prog 173 #[.string s, .string ⟨#[46, 42]⟩] w fun e w' => e = .returned (.tuple #[.string (if endsW s.data.toList = true then s.extract 0 (s.size - 2) else s), .bool (endsW s.data.toList)]) ∧ w' = w := by
  have H1 := fun W => CutIn_any s W hs
  generalize (if endsW s.data.toList = true then s.extract 0 (s.size - 2) else s) = T at *
  generalize endsW s.data.toList = B at *
  have H1 := hide H1
  go_enter Tryz.func173, Tryz.ntmps173
  go_wp2_with fail
  refine (H1.out _).mono ?_
  rintro e w0 ⟨rfl, hw0⟩
  rw [hw0]
  clear hw0 w0
  go_wp2_with fail
  go_ret2
  exact ⟨rfl, rfl⟩
set_option maxRecDepth 100000 in
set_option maxHeartbeats 4000000 in
theorem readStarred_no (s : ByteArray) (w : World) (hs : s.size ≤ 140737488351232) (hE : endsW s.data.toList = false) :
    Calls Tryz.prog 151 #[.string s] w (WdPost (onlyW (fun _ => true) s.data.toList) w) := by
  have CS := fun W => CutSuffix_any s W hs
  rw [hE, if_neg (by simp)] at CS
  have CS := hide CS
  have P1 : Hid (∀ w, Calls Tryz.prog 36 #[.string s] w (WdPost (onlyW (fun _ => true) s.data.toList) w)) := hide fun w => by
    cases h : okP s.data.toList
    · exact readVersion_no s w hs h
    · exact readVersion_ok s w h
  generalize onlyW (fun _ => true) s.data.toList = R at *
  have R0 := RB.start w
  clear hE
  cases R with
  | bad er p =>
    go_enter Tryz.func151, Tryz.ntmps151
    go_wp2_with fail
    refine (CS.out _).mono ?_
    rintro e w0 ⟨rfl, hw0⟩
    rw [hw0]
    clear hw0 w0
    go_wp2_with fail
    refine (P1.out _).mono ?_
    rintro e w1 ⟨b1, hne, st, rfl⟩
    try unfold zerV
    have HNE := hide hne
    have R2 := R0.below b1
    have hlt := R2.lt
    obtain ⟨x0, x1, x2, x3, x4, x5, x6, x7, x8, x9, x10, y0, y1, y2, y3, y4, y5, y6, y7, y8, y9, y10⟩ := seen11v R2.ver
    obtain ⟨f0, f1, g0, g1⟩ := seen2v R2.flt
    obtain ⟨W9, hW9, hRQ, hT9⟩ := R2.put13 (.string ⟨#[]⟩) (.slice none 0 0) (.int .u8 0) (.string ⟨#[]⟩) (.bool false) (.string ⟨#[]⟩) (.bool false) (.string ⟨#[]⟩) (.slice none 0 0) (.string ⟨#[]⟩) (.bool st) (.int .i64 er) (.int .i64 (p : Int))
    replace hW9 := hW9.symm
    have RQ := hide hRQ
    clear hRQ hT9 R2 R0 b1 P1 hne
    go_wp2_with fail
    refine fin151 _ _ w.heap.size (w.heap.size + 1) _ _ _ _ _ _ _ _ _ _ _ _ _ ⟨_, _, _, rfl⟩ ⟨_, _, _, rfl⟩ rfl rfl RQ.out.ver RQ.out.flt ?_
    exact ⟨RQ.out.bel, HNE.out, st, rfl⟩
  | ok x t st =>
    go_enter Tryz.func151, Tryz.ntmps151
    go_wp2_with fail
    refine (CS.out _).mono ?_
    rintro e w0 ⟨rfl, hw0⟩
    rw [hw0]
    clear hw0 w0
    go_wp2_with fail
    refine (P1.out _).mono ?_
    rintro e w1 ⟨b1, vr, vl, rfl, t1, t2, fr1, fr2⟩
    simp only [World.size_alloc] at fr1 fr2
    obtain ⟨r1, c1, rfl, _⟩ := id t1
    obtain ⟨q1, d1, rfl, _⟩ := id t2
    try unfold verV
    have R2 := R0.below b1
    have hlt := R2.lt
    obtain ⟨x0, x1, x2, x3, x4, x5, x6, x7, x8, x9, x10, y0, y1, y2, y3, y4, y5, y6, y7, y8, y9, y10⟩ := seen11v R2.ver
    obtain ⟨f0, f1, g0, g1⟩ := seen2v R2.flt
    obtain ⟨W9, hW9, hRQ, hT9⟩ := R2.put13 (.string (ofL x.ep)) (.slice r1 x.rel.length c1) (.int .u8 x.c) (.string (ofL x.n)) (.bool x.b) (.string (ofL x.m)) (.bool x.d) (.string (ofL x.k)) (.slice q1 x.loc.length d1) (.string (ofL t)) (.bool st) (.int .i64 0) (.int .i64 0)
    have HW9 := hide hW9
    have RQ := hide hRQ
    have TQ := hide hT9
    have T1 := hide t1
    have T2 := hide t2
    have F1 := hide fr1
    have F2 := hide fr2
    clear hRQ hT9 R2 R0 b1 P1 t1 t2 fr1 fr2 hW9
    go_wp2_with fail
    rw [← HW9.out]
    refine fin151 _ _ w.heap.size (w.heap.size + 1) _ _ _ _ _ _ _ _ _ _ _ _ _ ⟨_, _, _, rfl⟩ ⟨_, _, _, rfl⟩ rfl rfl RQ.out.ver RQ.out.flt ?_
    exact ⟨RQ.out.bel, _, _, rfl, TQ.out _ _ T1.out F1.out, TQ.out _ _ T2.out F2.out, F1.out.mono (Nat.le_add_right _ 2), F2.out.mono (Nat.le_add_right _ 2)⟩
set_option maxRecDepth 100000 in
set_option maxHeartbeats 4000000 in
theorem readStarred_yes (s : ByteArray) (w : World) (hs : s.size ≤ 140737488351232) (hE : endsW s.data.toList = true) :
    Calls Tryz.prog 151 #[.string s] w (WdPost (starW (onlyW bareB (s.data.toList.take (s.data.toList.length - 2)))) w) := by
  have CS := fun W => CutSuffix_any s W hs
  rw [hE, if_pos rfl] at CS
  have CS := hide CS
  have P1 := fun W => readOnly_174 (s.extract 0 (s.size - 2)) W (by rw [ByteArray.size_extract]; omega)
  rw [show (s.extract 0 (s.size - 2)).data.toList = s.data.toList.take (s.data.toList.length - 2) by rw [extract_ofL, ofL_data, List.drop_zero, len_data]] at P1
  have P1 := hide P1
  generalize onlyW bareB (s.data.toList.take (s.data.toList.length - 2)) = R at *
  have R0 := RB.start w
  clear hE
  cases R with
  | bad er p =>
    go_enter Tryz.func151, Tryz.ntmps151
    go_wp2_with fail
    refine (CS.out _).mono ?_
    rintro e w0 ⟨rfl, hw0⟩
    rw [hw0]
    clear hw0 w0
    go_wp2_with fail
    refine (P1.out _).mono ?_
    rintro e w1 ⟨b1, hne, st, rfl⟩
    try unfold zerV
    have HNE := hide hne
    have hq : w.heap.size + 1 < w1.heap.size := (R0.below b1).lt
    obtain ⟨V, hV, nP, nF, bV, sV⟩ := two_new w1 #[.string ⟨#[]⟩, .slice none 0 0, .int .u8 0, .string ⟨#[]⟩, .bool false, .string ⟨#[]⟩, .bool false, .string ⟨#[]⟩, .slice none 0 0, .string ⟨#[]⟩, .bool true] #[.int .i64 er, .int .i64 (p : Int)] 59 25
    have HV := hide hV
    clear hV
    have R2 := (R0.below b1).below bV
    have hlt := R2.lt
    obtain ⟨x0, x1, x2, x3, x4, x5, x6, x7, x8, x9, x10, y0, y1, y2, y3, y4, y5, y6, y7, y8, y9, y10⟩ := seen11v R2.ver
    obtain ⟨f0, f1, g0, g1⟩ := seen2v R2.flt
    obtain ⟨u0, u1, _, _⟩ := seen2v nF
    obtain ⟨s0, s1, s2, s3, s4, s5, s6, s7, s8, s9, s10, _⟩ := seen11v nP
    obtain ⟨W9, hW9, hRQ, hT9⟩ := R2.put13 (.string ⟨#[]⟩) (.slice none 0 0) (.int .u8 0) (.string ⟨#[]⟩) (.bool false) (.string ⟨#[]⟩) (.bool false) (.string ⟨#[]⟩) (.slice none 0 0) (.string ⟨#[]⟩) (.bool true) (.int .i64 er) (.int .i64 (p : Int))
    have HW9 := hide hW9
    have RQ := hide hRQ
    clear hRQ hT9 R2 R0 b1 P1 hne hW9 nP nF bV
    go_upto_region 6 with fail
    rw [HV.out]
    have hW9 := HW9.out.symm
    go_region
    all_goals
      go_wp2_with fail
      refine fin151 _ _ w.heap.size (w.heap.size + 1) _ _ _ _ _ _ _ _ _ _ _ _ _ ⟨_, _, _, rfl⟩ ⟨_, _, _, rfl⟩ rfl rfl RQ.out.ver RQ.out.flt ?_
      exact ⟨RQ.out.bel.drew, HNE.out, true, rfl⟩
  | ok x t st =>
    go_enter Tryz.func151, Tryz.ntmps151
    go_wp2_with fail
    refine (CS.out _).mono ?_
    rintro e w0 ⟨rfl, hw0⟩
    rw [hw0]
    clear hw0 w0
    go_wp2_with fail
    refine (P1.out _).mono ?_
    rintro e w1 ⟨b1, vr, vl, rfl, t1, t2, fr1, fr2⟩
    simp only [World.size_alloc] at fr1 fr2
    obtain ⟨r1, c1, rfl, _⟩ := id t1
    obtain ⟨q1, d1, rfl, _⟩ := id t2
    try unfold verV
    have hq : w.heap.size + 1 < w1.heap.size := (R0.below b1).lt
    obtain ⟨V, hV, nP, nF, bV, sV⟩ := two_new w1 #[.string (ofL x.ep), .slice r1 x.rel.length c1, .int .u8 x.c, .string (ofL x.n), .bool x.b, .string (ofL x.m), .bool x.d, .string (ofL x.k), .slice q1 x.loc.length d1, .string (ofL t), .bool true] #[.int .i64 0, .int .i64 0] 59 25
    have HV := hide hV
    clear hV
    have R2 := (R0.below b1).below bV
    have hlt := R2.lt
    obtain ⟨x0, x1, x2, x3, x4, x5, x6, x7, x8, x9, x10, y0, y1, y2, y3, y4, y5, y6, y7, y8, y9, y10⟩ := seen11v R2.ver
    obtain ⟨f0, f1, g0, g1⟩ := seen2v R2.flt
    obtain ⟨u0, u1, _, _⟩ := seen2v nF
    obtain ⟨s0, s1, s2, s3, s4, s5, s6, s7, s8, s9, s10, _⟩ := seen11v nP
    obtain ⟨W9, hW9, hRQ, hT9⟩ := R2.put13 (.string (ofL x.ep)) (.slice r1 x.rel.length c1) (.int .u8 x.c) (.string (ofL x.n)) (.bool x.b) (.string (ofL x.m)) (.bool x.d) (.string (ofL x.k)) (.slice q1 x.loc.length d1) (.string (ofL t)) (.bool true) (.int .i64 0) (.int .i64 0)
    have HW9 := hide hW9
    have RQ := hide hRQ
    have TQ := hide hT9
    have T1 := hide (t1.below bV)
    have T2 := hide (t2.below bV)
    have F1 := hide fr1
    have F2 := hide fr2
    clear hRQ hT9 R2 R0 b1 P1 t1 t2 fr1 fr2 hW9 nP nF bV
    go_upto_region 6 with fail
    rw [HV.out]
    have hW9 := HW9.out.symm
    go_region
    all_goals
      go_wp2_with fail
      refine fin151 _ _ w.heap.size (w.heap.size + 1) _ _ _ _ _ _ _ _ _ _ _ _ _ ⟨_, _, _, rfl⟩ ⟨_, _, _, rfl⟩ rfl rfl RQ.out.ver RQ.out.flt ?_
      exact ⟨RQ.out.bel.drew, _, _, rfl, (TQ.out _ _ T1.out F1.out).below ((Below.refl _ _).drew), (TQ.out _ _ T2.out F2.out).below ((Below.refl _ _).drew), F1.out.mono (Nat.le_add_right _ 2), F2.out.mono (Nat.le_add_right _ 2)⟩

end Go.Proofs.YtabmfdedbpmfmaaGreat
