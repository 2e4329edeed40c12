/-
  The walk of SemverBack.
-/
import Derived.Test.YtkngmgdcnplkgaaFe
import Derived.Test.YtkngmgdcnplkgaaPlainV
import Derived.Test.YtkngmgdcnplkgaaRi
import Derived.Test.YtkngmgdcnplkgaaSh
namespace Go.Proofs.Ytkngmgdcnplkgaa
open Go.RowKit Go.Shelf
set_option linter.unusedVariables false

theorem cap_row {W : World} {base : Nat} {e : TypeId} {size : Nat} {v : Value} {k : Nat} {xs : List Value} (h : W.ownsRow base e size v k xs) : Cap v := by
  rintro a n c rfl
  rcases h.2 with ⟨h1, _⟩ | ⟨g, cap, cur, h1, _, _, h2, _⟩
  · cases h1; exact Nat.le_refl _
  · cases h1; exact h2
theorem cap_nil : Cap (.slice none 0 0) := by
  rintro a n c h; cases h; exact Nat.le_refl _
theorem capS_mk {a b c p q : Value} (hp : Cap p) (hq : Cap q) : CapS (.agg #[a, b, c, p, q]) := by
  rintro a' b' c' p' q' h
  cases h
  exact ⟨hp, hq⟩

theorem Parse_three (PA : ∀ (s : ByteArray) (w : World), s.size ≤ 64 → Calls Try.prog 9 #[.string s] w (PPost s w)) (s : ByteArray) (w : World) :
    Calls Try.prog 9 #[.string s] w fun e w' => Below w.heap.size w w' ∧ ∃ v, e = .returned (.tuple #[v, .agg #[.int .i64 (fauP s.data.toList).1, .int .i64 ((fauP s.data.toList).2 : Int)]]) ∧ SemF w.heap.size w' v (semP s.data.toList) ∧ CapS v := by
  by_cases hs : s.size ≤ 64
  · refine (PA s w hs).mono ?_
    rintro e w' ⟨hb, h⟩
    refine ⟨hb, ?_⟩
    unfold fauP semP
    cases hp : parseR s.data.toList with
    | error x => rw [hp] at h; exact ⟨_, h, semN_at _ w', capS_mk cap_nil cap_nil⟩
    | ok c =>
      rw [hp] at h
      obtain ⟨vp, vb, he, h1, h2⟩ := h
      refine ⟨_, he, ⟨vp, vb, ?_, txt_of_row h1, txt_of_row h2, fresh_row h1, fresh_row h2⟩, capS_mk (cap_row h1) (cap_row h2)⟩
      simp only [semV, semOf, extract_seg]
  · refine (Parse_long s w hs).mono ?_
    rintro e w' ⟨hb, he⟩
    refine ⟨hb, ?_⟩
    have hp : parseR s.data.toList = .error (12, 64) := by unfold parseR; rw [len_data, if_pos (by omega)]
    unfold fauP semP
    rw [hp]
    exact ⟨_, he, semN_at _ w', capS_mk cap_nil cap_nil⟩

/-- What is read is written as it stood. -/
theorem fmt_read (l : List UInt8) (h : (fauP l).1 = 0) : fmtL (semP l) = l := by
  unfold fauP at h
  unfold semP fmtL
  cases hp : parseR l with
  | error y => rw [hp] at h; exact absurd h (parse_err hp)
  | ok c =>
    simp only
    rw [(parse_fit hp).1, if_pos rfl, parse_text hp]
theorem read_fmt (x : SemL) (hs : lenS x ≤ 1048576) (hf : fitW x = true) : semP (textL x) = x ∧ fauP (textL x) = (0, 0) := by
  obtain ⟨c, h1, h2⟩ := text_parse x hs hf
  unfold semP fauP
  rw [h1]
  exact ⟨h2, rfl⟩

set_option maxRecDepth 100000 in
set_option maxHeartbeats 2000000 in
theorem back_walk (PA : ∀ (s : ByteArray) (w : World), s.size ≤ 64 → Calls Try.prog 9 #[.string s] w (PPost s w)) (s : ByteArray) (v : Value) (x : SemL) (w : World) (hv : SemAt w v x) (hc : CapS v) (hl : lenS x ≤ 1048576) :
    Calls Try.prog 6 #[.string s, v] w fun e w' => e = .returned (.bool true) ∧ Below w.heap.size w w' := by
  have P1 := hide (fun W => Parse_three PA s W)
  have A1 := hide (fun W => awake_any PA W)
  have F0 := hide (fun W (hW : Below w.heap.size w W) => Fit_any v x W (hv.below hW) (short_of x hl))
  have F1 := hide (fun W (hW : Below w.heap.size w W) => Format_any v x W (hv.below hW) hc hl)
  have F2 := hide (fun (u : Value) W (h : SemAt W u (semP s.data.toList)) (hc : CapS u) => Format_any u (semP s.data.toList) W h hc (semP_len s.data.toList).2)
  have HR := hide (fmt_read s.data.toList)
  have HS := hide (ofL_self s)
  have V0 := hide (fun W (hW : Below w.heap.size w W) => hv.below hW)
  have sx := short_of x hl
  obtain ⟨vp, vb, rfl, ⟨a1, c1, rfl, _⟩, ⟨a2, c2, rfl, _⟩⟩ := hv
  clear hc
  have b0 := (Below.refl w.heap.size w).alloc (Nat.le_refl _) (.cells #[.string (ofL x.maj), .string (ofL x.min), .string (ofL x.pat), .slice a1 x.pre.length c1, .slice a2 x.bld.length c2] 24)
  have kk := hide (World.alloc_heap_new w (.cells #[.string (ofL x.maj), .string (ofL x.min), .string (ofL x.pat), .slice a1 x.pre.length c1, .slice a2 x.bld.length c2] 24))
  generalize semP s.data.toList = y at *
  generalize fauP s.data.toList = f at *
  obtain ⟨f1, f2⟩ := f
  simp only at P1 HR
  go_enter Try.func6, Try.ntmps6
  go_wp2_with fail
  refine (P1.out _).mono ?_
  rintro e w1 ⟨b1, u, rfl, hu, hcu⟩
  simp only [World.size_alloc] at b1 hu
  have B1 := b0.trans (b1.mono (by omega))
  have k1 := (b1.block w.heap.size (by omega)).trans kk.out
  have hz1 := (Array.getElem?_eq_some_iff.1 k1).1
  have K1 := hide k1
  clear k1
  have U1 := hide hu.toAt
  have HCU := hide hcu
  obtain ⟨vp3, vb3, rfl, ⟨a3, c3, rfl, _⟩, ⟨a4, c4, rfl, _⟩, _, _⟩ := hu
  clear hcu
  have b2 := ((Below.refl w1.heap.size w1).alloc (Nat.le_refl _) (.cells #[.string (ofL y.maj), .string (ofL y.min), .string (ofL y.pat), .slice a3 y.pre.length c3, .slice a4 y.bld.length c4] 24)).alloc (by simp) (.cells #[.int .i64 f1, .int .i64 (f2 : Int)] 27)
  have B2 := B1.trans (b2.mono B1.size)
  by_cases hf : f1 = 0
  · subst hf
    have hfm := HR.out rfl
    go_wp2_with fail
    refine (F2.out _ _ (U1.out.below b2) HCU.out).mono ?_
    rintro e w3 ⟨rfl, b3⟩
    rw [hfm, HS.out]
    simp only [World.size_alloc] at b3
    have B3 := B2.trans (b3.mono (by have := B1.size; omega))
    have k3 := (b3.block w.heap.size (by omega)).trans ((b2.block w.heap.size hz1).trans K1.out)
    obtain ⟨m0, m1, m2, m3, m4⟩ := seen5 k3
    have hz3 := (Array.getElem?_eq_some_iff.1 k3).1
    have K3 := hide k3
    clear k3
    go_wp2_with fail
    have BW := B3
    have KW := K3
    have hzW := hz3
    cases hft : fitW x
    · have hfx : fmtL x = [] := by unfold fmtL; rw [hft, if_neg (by simp)]
      rw [hft] at F0
      rw [hfx] at F1
      clear hft hfx
      refine (F1.out _ BW).mono ?_
      rintro e w4 ⟨rfl, b4⟩
      have B4 := BW.trans (b4.mono BW.size)
      have k4 := (b4.block w.heap.size hzW).trans KW.out
      clear m0 m1 m2 m3 m4
      obtain ⟨m0, m1, m2, m3, m4⟩ := seen5 k4
      clear k4
      rw [show ofL [] = ⟨#[]⟩ from rfl]
      go_wp2_with fail
      refine (F0.out _ B4).mono ?_
      rintro e w5 ⟨rfl, b5⟩
      go_wp2_with fail
      refine (A1.out _).mono ?_
      rintro e w6 ⟨rfl, b6⟩
      go_wp2_with fail
      go_ret
      have B5 := B4.trans (b5.mono B4.size)
      exact ⟨rfl, B5.trans (b6.mono B5.size)⟩
    · have hfx : fmtL x = textL x := by unfold fmtL; rw [hft, if_pos rfl]
      obtain ⟨rs, rf⟩ := read_fmt x hl hft
      have P2 := hide (fun W => Parse_three PA (ofL (textL x)) W)
      rw [ofL_data, rs, rf] at P2
      rw [hft] at F0
      rw [hfx] at F1
      simp only at P2
      generalize ofL (textL x) = T at *
      clear hft hfx rs rf
      refine (F1.out _ BW).mono ?_
      rintro e w4 ⟨rfl, b4⟩
      have B4 := BW.trans (b4.mono BW.size)
      have k4 := (b4.block w.heap.size hzW).trans KW.out
      have hz4 := (Array.getElem?_eq_some_iff.1 k4).1
      have K4 := hide k4
      clear m0 m1 m2 m3 m4
      obtain ⟨m0, m1, m2, m3, m4⟩ := seen5 k4
      clear k4
      go_wp2_with fail
      refine (F0.out _ B4).mono ?_
      rintro e w5 ⟨rfl, b5⟩
      have B5 := B4.trans (b5.mono B4.size)
      have k5 := (b5.block w.heap.size hz4).trans K4.out
      have hz5 := (Array.getElem?_eq_some_iff.1 k5).1
      have K5 := hide k5
      clear m0 m1 m2 m3 m4 k5
      go_wp2_with fail
      refine (P2.out _).mono ?_
      rintro e w6 ⟨b6, u2, rfl, hu2, _⟩
      have B6 := B5.trans (b6.mono B5.size)
      have k6 := (b6.block w.heap.size hz5).trans K5.out
      have hz6 := (Array.getElem?_eq_some_iff.1 k6).1
      have U2 := hide hu2.toAt
      obtain ⟨vp5, vb5, rfl, ⟨a5, c5, rfl, _⟩, ⟨a6, c6, rfl, _⟩, _, _⟩ := hu2
      obtain ⟨m0, m1, m2, m3, m4⟩ := seen5 k6
      have b7 := ((Below.refl w6.heap.size w6).alloc (Nat.le_refl _) (.cells #[.string (ofL x.maj), .string (ofL x.min), .string (ofL x.pat), .slice a5 x.pre.length c5, .slice a6 x.bld.length c6] 24)).alloc (by simp) (.cells #[.int .i64 0, .int .i64 0] 27)
      have B7 := B6.trans (b7.mono B6.size)
      clear k6
      go_wp2_with fail
      refine (Same_eq _ _ x _ (U2.out.below b7) (V0.out _ B7) sx).mono ?_
      rintro e w8 ⟨rfl, b8⟩
      have B8 := B7.trans (b8.mono B7.size)
      go_wp2_with fail
      refine (A1.out _).mono ?_
      rintro e w9 ⟨rfl, b9⟩
      go_wp2_with fail
      go_ret
      exact ⟨rfl, B8.trans (b9.mono B8.size)⟩
  · have hb : (f1 == 0) = false := by simpa using hf
    have k3 := ((b2.block w.heap.size hz1).trans K1.out)
    obtain ⟨m0, m1, m2, m3, m4⟩ := seen5 k3
    go_wp2_with fail
    have BW := B2
    have KW := hide k3
    have hzW := (Array.getElem?_eq_some_iff.1 k3).1
    generalize (w1.alloc (.cells #[.string (ofL y.maj), .string (ofL y.min), .string (ofL y.pat), .slice a3 y.pre.length c3, .slice a4 y.bld.length c4] 24)).alloc (.cells #[.int .i64 f1, .int .i64 (f2 : Int)] 27) = W at *
    clear k3
    cases hft : fitW x
    · have hfx : fmtL x = [] := by unfold fmtL; rw [hft, if_neg (by simp)]
      rw [hft] at F0
      rw [hfx] at F1
      clear hft hfx
      refine (F1.out _ BW).mono ?_
      rintro e w4 ⟨rfl, b4⟩
      have B4 := BW.trans (b4.mono BW.size)
      have k4 := (b4.block w.heap.size hzW).trans KW.out
      clear m0 m1 m2 m3 m4
      obtain ⟨m0, m1, m2, m3, m4⟩ := seen5 k4
      clear k4
      rw [show ofL [] = ⟨#[]⟩ from rfl]
      go_wp2_with fail
      refine (F0.out _ B4).mono ?_
      rintro e w5 ⟨rfl, b5⟩
      go_wp2_with fail
      refine (A1.out _).mono ?_
      rintro e w6 ⟨rfl, b6⟩
      go_wp2_with fail
      go_ret
      have B5 := B4.trans (b5.mono B4.size)
      exact ⟨rfl, B5.trans (b6.mono B5.size)⟩
    · have hfx : fmtL x = textL x := by unfold fmtL; rw [hft, if_pos rfl]
      obtain ⟨rs, rf⟩ := read_fmt x hl hft
      have P2 := hide (fun W => Parse_three PA (ofL (textL x)) W)
      rw [ofL_data, rs, rf] at P2
      rw [hft] at F0
      rw [hfx] at F1
      simp only at P2
      generalize ofL (textL x) = T at *
      clear hft hfx rs rf
      refine (F1.out _ BW).mono ?_
      rintro e w4 ⟨rfl, b4⟩
      have B4 := BW.trans (b4.mono BW.size)
      have k4 := (b4.block w.heap.size hzW).trans KW.out
      have hz4 := (Array.getElem?_eq_some_iff.1 k4).1
      have K4 := hide k4
      clear m0 m1 m2 m3 m4
      obtain ⟨m0, m1, m2, m3, m4⟩ := seen5 k4
      clear k4
      go_wp2_with fail
      refine (F0.out _ B4).mono ?_
      rintro e w5 ⟨rfl, b5⟩
      have B5 := B4.trans (b5.mono B4.size)
      have k5 := (b5.block w.heap.size hz4).trans K4.out
      have hz5 := (Array.getElem?_eq_some_iff.1 k5).1
      have K5 := hide k5
      clear m0 m1 m2 m3 m4 k5
      go_wp2_with fail
      refine (P2.out _).mono ?_
      rintro e w6 ⟨b6, u2, rfl, hu2, _⟩
      have B6 := B5.trans (b6.mono B5.size)
      have k6 := (b6.block w.heap.size hz5).trans K5.out
      have hz6 := (Array.getElem?_eq_some_iff.1 k6).1
      have U2 := hide hu2.toAt
      obtain ⟨vp5, vb5, rfl, ⟨a5, c5, rfl, _⟩, ⟨a6, c6, rfl, _⟩, _, _⟩ := hu2
      obtain ⟨m0, m1, m2, m3, m4⟩ := seen5 k6
      have b7 := ((Below.refl w6.heap.size w6).alloc (Nat.le_refl _) (.cells #[.string (ofL x.maj), .string (ofL x.min), .string (ofL x.pat), .slice a5 x.pre.length c5, .slice a6 x.bld.length c6] 24)).alloc (by simp) (.cells #[.int .i64 0, .int .i64 0] 27)
      have B7 := B6.trans (b7.mono B6.size)
      clear k6
      go_wp2_with fail
      refine (Same_eq _ _ x _ (U2.out.below b7) (V0.out _ B7) sx).mono ?_
      rintro e w8 ⟨rfl, b8⟩
      have B8 := B7.trans (b8.mono B7.size)
      go_wp2_with fail
      refine (A1.out _).mono ?_
      rintro e w9 ⟨rfl, b9⟩
      go_wp2_with fail
      go_ret
      exact ⟨rfl, B8.trans (b9.mono B8.size)⟩

end Go.Proofs.Ytkngmgdcnplkgaa
