/-
  The document's answer: the version with one part raised.
-/
import Derived.Test.YtkngmgdcnplkgaaFf
namespace Go.Proofs.Ytkngmgdcnplkgaa
open Go.RowKit Go.Shelf
set_option linter.unusedVariables false

theorem fin20 {R : Ending → World → Prop} (tmps : Array Value) (W : World) (B : Nat) (x : SemL)
    (h2 : tmps.getD 4 undef = .pointer (some ⟨B, 0, none⟩)) (hp : x.pre = []) (hb : x.bld = []) (e1 : W.heap[B]? = some (.cells #[.string (ofL x.maj), .string (ofL x.min), .string (ofL x.pat), .slice none 0 0, .slice none 0 0] 24 (0, 0)))
    (hR : ∀ v, SemAt W v x → R (.returned v) W) :
    bodyPost Try.prog Try.f20 R .ret { tmps := tmps, defers := [] } W := by
  obtain ⟨r0, r1, r2, r3, r4⟩ := seen5 e1
  rw [Array.getD_eq_getD_getElem?] at h2
  refine ⟨rfl, _, ?_, hR _ ⟨.slice none 0 0, .slice none 0 0, rfl, by rw [hp]; exact txt_nil W, by rw [hb]; exact txt_nil W⟩⟩
  simp [results, Try.results20, go_sem, h2, r0, r1, r2, r3, r4]
  try rfl
theorem rnext_ofL (a : List UInt8) (w : World) (ha : a.length ≤ 9223372036854775805) :
    Calls Try.prog 44 #[.string (ofL a)] w fun e w' => e = .returned (.string (ofL (nextL a))) ∧ Below w.heap.size w w' := by
  have := RNext_any (ofL a) w (by rw [ofL_size]; exact ha)
  rw [ofL_data] at this
  exact this
theorem rais_len (x : SemL) (p : Int) (h : lenS x ≤ 64) : lenS (rais x p) ≤ 1048576 := by
  have n1 := nextL_len x.maj
  have n2 := nextL_len x.min
  have n3 := nextL_len x.pat
  unfold lenS at h
  unfold rais
  split
  · simp only [lenS, lenI, List.length_cons, List.length_nil]; omega
  · split
    · simp only [lenS, lenI, List.length_cons, List.length_nil]; omega
    · simp only [lenS, lenI]; omega

set_option maxRecDepth 100000 in
set_option maxHeartbeats 2000000 in
theorem rNextV_any (v : Value) (x : SemL) (p : Int) (w : World) (hv : SemAt w v x) (hl : lenS x ≤ 1048576) :
    Calls Try.prog 20 #[v, .int .i64 p] w fun e w' => Below w.heap.size w w' ∧ ∃ u, e = .returned u ∧ SemAt w' u (nextW x p) := by
  have F1 := hide (fun W (hW : Below w.heap.size w W) => rFit_any v x W (hv.below hW) hl)
  obtain ⟨p1, q1, rfl, t1, u1⟩ := hv
  obtain ⟨a1, c1, rfl, y1⟩ := t1
  obtain ⟨a2, c2, rfl, y2⟩ := u1
  clear y1 y2
  have HX : Hid (nextW x p = if fitW x then (if p = 0 ∨ p = 1 ∨ p = 2 then (if fitW (rais x p) then rais x p else semN) else semN) else semN) := rfl
  generalize nextW x p = X at *
  have b0 : Below w.heap.size w ((w.alloc (.cells #[.string (ofL x.maj), .string (ofL x.min), .string (ofL x.pat), .slice a1 x.pre.length c1, .slice a2 x.bld.length c2] 24)).alloc (.cells #[.string ⟨#[]⟩, .string ⟨#[]⟩, .string ⟨#[]⟩, .slice none 0 0, .slice none 0 0] 24)) := ((Below.refl _ w).alloc (Nat.le_refl _) _).alloc (by simp) _
  have k1 := World.alloc_heap_new w (.cells #[.string (ofL x.maj), .string (ofL x.min), .string (ofL x.pat), .slice a1 x.pre.length c1, .slice a2 x.bld.length c2] 24)
  have k2 := World.alloc_heap_new (w.alloc (.cells #[.string (ofL x.maj), .string (ofL x.min), .string (ofL x.pat), .slice a1 x.pre.length c1, .slice a2 x.bld.length c2] 24)) (.cells #[.string ⟨#[]⟩, .string ⟨#[]⟩, .string ⟨#[]⟩, .slice none 0 0, .slice none 0 0] 24)
  simp only [World.size_alloc] at k2
  have k1' := (Below.heap_alloc (w.alloc (.cells #[.string (ofL x.maj), .string (ofL x.min), .string (ofL x.pat), .slice a1 x.pre.length c1, .slice a2 x.bld.length c2] 24)) (.cells #[.string ⟨#[]⟩, .string ⟨#[]⟩, .string ⟨#[]⟩, .slice none 0 0, .slice none 0 0] 24) w.heap.size (by simp)).trans k1
  clear k1
  have L0 := hide (Lies.cons k1' (Lies.cons k2 (Lies.nil _)))
  clear k1' k2
  cases hf : fitW x
  · rw [hf] at F1
    have HR : Hid (X = semN) := by show _ = _; rw [HX.out, hf, if_neg (by simp)]
    clear hf
    go_enter Try.func20, Try.ntmps20
    go_wp2_with fail
    refine (F1.out _ b0).mono ?_
    rintro e w1 ⟨rfl, b1⟩
    simp only [World.size_alloc] at b1
    have B1 := b0.trans (b1.mono (by omega))
    have L1 := L0.out.below b1 (by intro q hq; simp only [List.mem_cons, List.not_mem_nil, or_false] at hq; rcases hq with rfl | rfl <;> simp only <;> omega)
    obtain ⟨r0, r1, r2, r3, r4⟩ := seen5 L1.tail.head
    have z0 := one_free 0 L1.tail.head
    have z1 := one_free 1 L1.tail.head
    have z2 := one_free 2 L1.tail.head
    have z3 := one_free 3 L1.tail.head
    have z4 := one_free 4 L1.tail.head
    have HE := hide L1.tail.head
    go_wp2_with fail
    obtain ⟨W9, hW9, g9, hb9⟩ := five_world (W := w1) (.string ⟨#[]⟩) (.string ⟨#[]⟩) (.string ⟨#[]⟩) (.slice none 0 0) (.slice none 0 0) HE.out
    rw [← hW9]
    refine fin20 _ W9 (w.heap.size + 1) semN rfl rfl rfl g9 ?_
    exact fun v hv => ⟨B1.trans (hb9 _ (by omega)), v, rfl, by rw [HR.out]; exact hv⟩

  · rw [hf] at F1
    have h64 : lenS x ≤ 64 := by
      have := (fit_parts hf).1
      rw [len_wrap x hl] at this
      omega
    have hX : X = if p = 0 ∨ p = 1 ∨ p = 2 then (if fitW (rais x p) then rais x p else semN) else semN := by rw [HX.out, hf, if_pos rfl]
    have FR := hide (fun W v (h : SemAt W v (rais x p)) => rFit_any v (rais x p) W h (rais_len x p h64))
    have hm : x.maj.length ≤ 64 ∧ x.min.length ≤ 64 ∧ x.pat.length ≤ 64 := by unfold lenS at h64; omega
    obtain ⟨s1, s2, s3⟩ := hm
    clear hf HX h64
    by_cases hr : p < 0 ∨ 2 < p
    · have HR : Hid (X = semN) := by show _ = _; rw [hX, if_neg (by omega)]
      rcases hr with hr | hr
      · go_enter Try.func20, Try.ntmps20
        go_wp2_with fail
        refine (F1.out _ b0).mono ?_
        rintro e w1 ⟨rfl, b1⟩
        simp only [World.size_alloc] at b1
        have B1 := b0.trans (b1.mono (by omega))
        have L1 := L0.out.below b1 (by intro q hq; simp only [List.mem_cons, List.not_mem_nil, or_false] at hq; rcases hq with rfl | rfl <;> simp only <;> omega)
        obtain ⟨r0, r1, r2, r3, r4⟩ := seen5 L1.tail.head
        have z0 := one_free 0 L1.tail.head
        have z1 := one_free 1 L1.tail.head
        have z2 := one_free 2 L1.tail.head
        have z3 := one_free 3 L1.tail.head
        have z4 := one_free 4 L1.tail.head
        have HE := hide L1.tail.head
        go_wp2_with fail
        obtain ⟨W9, hW9, g9, hb9⟩ := five_world (W := w1) (.string ⟨#[]⟩) (.string ⟨#[]⟩) (.string ⟨#[]⟩) (.slice none 0 0) (.slice none 0 0) HE.out
        rw [← hW9]
        refine fin20 _ W9 (w.heap.size + 1) semN rfl rfl rfl g9 ?_
        exact fun v hv => ⟨B1.trans (hb9 _ (by omega)), v, rfl, by rw [HR.out]; exact hv⟩

      · have hr' : ¬ p < 0 := by omega
        go_enter Try.func20, Try.ntmps20
        go_wp2_with fail
        refine (F1.out _ b0).mono ?_
        rintro e w1 ⟨rfl, b1⟩
        simp only [World.size_alloc] at b1
        have B1 := b0.trans (b1.mono (by omega))
        have L1 := L0.out.below b1 (by intro q hq; simp only [List.mem_cons, List.not_mem_nil, or_false] at hq; rcases hq with rfl | rfl <;> simp only <;> omega)
        obtain ⟨r0, r1, r2, r3, r4⟩ := seen5 L1.tail.head
        have z0 := one_free 0 L1.tail.head
        have z1 := one_free 1 L1.tail.head
        have z2 := one_free 2 L1.tail.head
        have z3 := one_free 3 L1.tail.head
        have z4 := one_free 4 L1.tail.head
        have HE := hide L1.tail.head
        go_wp2_with fail
        obtain ⟨W9, hW9, g9, hb9⟩ := five_world (W := w1) (.string ⟨#[]⟩) (.string ⟨#[]⟩) (.string ⟨#[]⟩) (.slice none 0 0) (.slice none 0 0) HE.out
        rw [← hW9]
        refine fin20 _ W9 (w.heap.size + 1) semN rfl rfl rfl g9 ?_
        exact fun v hv => ⟨B1.trans (hb9 _ (by omega)), v, rfl, by rw [HR.out]; exact hv⟩

    · have hp : p = 0 ∨ p = 1 ∨ p = 2 := by omega
      rw [if_pos hp] at hX
      clear hr
      rcases hp with rfl | rfl | rfl
      · have hra : rais x 0 = ⟨nextL x.maj, [48], [48], [], []⟩ := by unfold rais; simp
        have FR2 := hide (fun W => FR.out W (.agg #[.string (ofL (nextL x.maj)), .string ⟨#[48]⟩, .string ⟨#[48]⟩, .slice none 0 0, .slice none 0 0]) (by rw [hra]; exact ⟨_, _, rfl, txt_nil W, txt_nil W⟩))
        have HRA := hide hra
        clear FR hra
        go_enter Try.func20, Try.ntmps20
        go_wp2_with fail
        refine (F1.out _ b0).mono ?_
        rintro e w1 ⟨rfl, b1⟩
        simp only [World.size_alloc] at b1
        have B1 := b0.trans (b1.mono (by omega))
        have L1 := L0.out.below b1 (by intro q hq; simp only [List.mem_cons, List.not_mem_nil, or_false] at hq; rcases hq with rfl | rfl <;> simp only <;> omega)
        obtain ⟨m0, m1, m2, m3, m4⟩ := seen5 L1.head
        have hl0 := (Array.getElem?_eq_some_iff.1 L1.tail.head).1
        have hl1 : w.heap.size < w1.heap.size := by omega
        go_wp2_with fail
        refine (rnext_ofL x.maj _ (by omega)).mono ?_
        rintro e w2 ⟨rfl, b2⟩
        simp only [World.size_alloc] at b2
        have hN0 := (b2.block w1.heap.size (by omega)).trans (World.alloc_heap_new w1 (.cells #[.string (ofL x.maj), .string (ofL x.min), .string (ofL x.pat), .slice none 0 0, .slice none 0 0] 24))
        have hR0 := (b2.block (w.heap.size + 1) (by omega)).trans ((Below.heap_alloc _ _ _ (by omega)).trans L1.tail.head)
        obtain ⟨n0, n1, n2, n3, n4⟩ := seen5 hN0
        have y0 := one_free 0 hN0
        have y1 := one_free 1 hN0
        have y2 := one_free 2 hN0
        have C0 : Below w.heap.size w w2 := (B1.alloc (by omega) _).trans (b2.mono (by omega))
        have hl2 := (Array.getElem?_eq_some_iff.1 hN0).1
        clear m0 m1 m2 m3 m4
        go_wp2_with fail
        obtain ⟨V1, hV1, hN1, hO1, hB1, hS1⟩ := one_set 0 (.string (ofL (nextL x.maj))) hN0
        rw [← hV1]
        have C1 := C0.trans (hB1 _ (by omega))
        have hR1 := (hO1 _ (by omega)).trans hR0
        obtain ⟨V2, hV2, hN2, hO2, hB2, hS2⟩ := one_set 1 (.string ⟨#[48]⟩) hN1
        rw [← hV2]
        have C2 := C1.trans (hB2 _ (by omega))
        have hR2 := (hO2 _ (by omega)).trans hR1
        obtain ⟨V3, hV3, hN3, hO3, hB3, hS3⟩ := one_set 2 (.string ⟨#[48]⟩) hN2
        rw [← hV3]
        have C3 := C2.trans (hB3 _ (by omega))
        have hR3 := (hO3 _ (by omega)).trans hR2
        refine (FR2.out _).mono ?_
        rintro e w3 ⟨rfl, b3⟩
        have B3 := C3.trans (b3.mono (by rw [hS3, hS2, hS1]; omega))
        have hN9 := (b3.block w1.heap.size (by rw [hS3, hS2, hS1]; omega)).trans hN3
        have hR9 := (b3.block (w.heap.size + 1) (by rw [hS3, hS2, hS1]; omega)).trans hR3
        clear n0 n1 n2 n3 n4 y0 y1 y2
        obtain ⟨n0, n1, n2, n3, n4⟩ := seen5 hN9
        obtain ⟨r0, r1, r2, r3, r4⟩ := seen5 hR9
        have z0 := one_free 0 hR9
        have z1 := one_free 1 hR9
        have z2 := one_free 2 hR9
        have z3 := one_free 3 hR9
        have z4 := one_free 4 hR9
        have HE := hide hR9
        generalize hF : fitW (rais x 0) = F at *
        cases F
        · have HR : Hid (X = semN) := hX.trans (if_neg (by simp))
          go_wp2_with fail
          obtain ⟨W9, hW9, g9, hb9⟩ := five_world (W := w3) (.string ⟨#[]⟩) (.string ⟨#[]⟩) (.string ⟨#[]⟩) (.slice none 0 0) (.slice none 0 0) HE.out
          rw [← hW9]
          refine fin20 _ W9 (w.heap.size + 1) semN rfl rfl rfl g9 ?_
          exact fun v hv => ⟨B3.trans (hb9 _ (by omega)), v, rfl, by rw [HR.out]; exact hv⟩

        · have HR : Hid (X = ⟨nextL x.maj, [48], [48], [], []⟩) := by show _ = _; rw [hX, if_pos rfl, HRA.out]
          go_wp2_with fail
          obtain ⟨W9, hW9, g9, hb9⟩ := five_world (W := w3) (.string (ofL (nextL x.maj))) (.string ⟨#[48]⟩) (.string ⟨#[48]⟩) (.slice none 0 0) (.slice none 0 0) HE.out
          rw [← hW9]
          refine fin20 _ W9 (w.heap.size + 1) ⟨nextL x.maj, [48], [48], [], []⟩ rfl rfl rfl g9 ?_
          exact fun v hv => ⟨B3.trans (hb9 _ (by omega)), v, rfl, by rw [HR.out]; exact hv⟩

      · have hra : rais x 1 = ⟨x.maj, nextL x.min, [48], [], []⟩ := by unfold rais; simp
        have FR2 := hide (fun W => FR.out W (.agg #[.string (ofL x.maj), .string (ofL (nextL x.min)), .string ⟨#[48]⟩, .slice none 0 0, .slice none 0 0]) (by rw [hra]; exact ⟨_, _, rfl, txt_nil W, txt_nil W⟩))
        have HRA := hide hra
        clear FR hra
        go_enter Try.func20, Try.ntmps20
        go_wp2_with fail
        refine (F1.out _ b0).mono ?_
        rintro e w1 ⟨rfl, b1⟩
        simp only [World.size_alloc] at b1
        have B1 := b0.trans (b1.mono (by omega))
        have L1 := L0.out.below b1 (by intro q hq; simp only [List.mem_cons, List.not_mem_nil, or_false] at hq; rcases hq with rfl | rfl <;> simp only <;> omega)
        obtain ⟨m0, m1, m2, m3, m4⟩ := seen5 L1.head
        have hl0 := (Array.getElem?_eq_some_iff.1 L1.tail.head).1
        have hl1 : w.heap.size < w1.heap.size := by omega
        go_wp2_with fail
        refine (rnext_ofL x.min _ (by omega)).mono ?_
        rintro e w2 ⟨rfl, b2⟩
        simp only [World.size_alloc] at b2
        have hN0 := (b2.block w1.heap.size (by omega)).trans (World.alloc_heap_new w1 (.cells #[.string (ofL x.maj), .string (ofL x.min), .string (ofL x.pat), .slice none 0 0, .slice none 0 0] 24))
        have hR0 := (b2.block (w.heap.size + 1) (by omega)).trans ((Below.heap_alloc _ _ _ (by omega)).trans L1.tail.head)
        obtain ⟨n0, n1, n2, n3, n4⟩ := seen5 hN0
        have y0 := one_free 0 hN0
        have y1 := one_free 1 hN0
        have y2 := one_free 2 hN0
        have C0 : Below w.heap.size w w2 := (B1.alloc (by omega) _).trans (b2.mono (by omega))
        have hl2 := (Array.getElem?_eq_some_iff.1 hN0).1
        clear m0 m1 m2 m3 m4
        go_wp2_with fail
        obtain ⟨V1, hV1, hN1, hO1, hB1, hS1⟩ := one_set 1 (.string (ofL (nextL x.min))) hN0
        rw [← hV1]
        have C1 := C0.trans (hB1 _ (by omega))
        have hR1 := (hO1 _ (by omega)).trans hR0
        obtain ⟨V2, hV2, hN2, hO2, hB2, hS2⟩ := one_set 2 (.string ⟨#[48]⟩) hN1
        rw [← hV2]
        have C2 := C1.trans (hB2 _ (by omega))
        have hR2 := (hO2 _ (by omega)).trans hR1
        refine (FR2.out _).mono ?_
        rintro e w3 ⟨rfl, b3⟩
        have B3 := C2.trans (b3.mono (by rw [hS2, hS1]; omega))
        have hN9 := (b3.block w1.heap.size (by rw [hS2, hS1]; omega)).trans hN2
        have hR9 := (b3.block (w.heap.size + 1) (by rw [hS2, hS1]; omega)).trans hR2
        clear n0 n1 n2 n3 n4 y0 y1 y2
        obtain ⟨n0, n1, n2, n3, n4⟩ := seen5 hN9
        obtain ⟨r0, r1, r2, r3, r4⟩ := seen5 hR9
        have z0 := one_free 0 hR9
        have z1 := one_free 1 hR9
        have z2 := one_free 2 hR9
        have z3 := one_free 3 hR9
        have z4 := one_free 4 hR9
        have HE := hide hR9
        generalize hF : fitW (rais x 1) = F at *
        cases F
        · have HR : Hid (X = semN) := hX.trans (if_neg (by simp))
          go_wp2_with fail
          obtain ⟨W9, hW9, g9, hb9⟩ := five_world (W := w3) (.string ⟨#[]⟩) (.string ⟨#[]⟩) (.string ⟨#[]⟩) (.slice none 0 0) (.slice none 0 0) HE.out
          rw [← hW9]
          refine fin20 _ W9 (w.heap.size + 1) semN rfl rfl rfl g9 ?_
          exact fun v hv => ⟨B3.trans (hb9 _ (by omega)), v, rfl, by rw [HR.out]; exact hv⟩

        · have HR : Hid (X = ⟨x.maj, nextL x.min, [48], [], []⟩) := by show _ = _; rw [hX, if_pos rfl, HRA.out]
          go_wp2_with fail
          obtain ⟨W9, hW9, g9, hb9⟩ := five_world (W := w3) (.string (ofL x.maj)) (.string (ofL (nextL x.min))) (.string ⟨#[48]⟩) (.slice none 0 0) (.slice none 0 0) HE.out
          rw [← hW9]
          refine fin20 _ W9 (w.heap.size + 1) ⟨x.maj, nextL x.min, [48], [], []⟩ rfl rfl rfl g9 ?_
          exact fun v hv => ⟨B3.trans (hb9 _ (by omega)), v, rfl, by rw [HR.out]; exact hv⟩

      · have hra : rais x 2 = ⟨x.maj, x.min, nextL x.pat, [], []⟩ := by unfold rais; simp
        have FR2 := hide (fun W => FR.out W (.agg #[.string (ofL x.maj), .string (ofL x.min), .string (ofL (nextL x.pat)), .slice none 0 0, .slice none 0 0]) (by rw [hra]; exact ⟨_, _, rfl, txt_nil W, txt_nil W⟩))
        have HRA := hide hra
        clear FR hra
        go_enter Try.func20, Try.ntmps20
        go_wp2_with fail
        refine (F1.out _ b0).mono ?_
        rintro e w1 ⟨rfl, b1⟩
        simp only [World.size_alloc] at b1
        have B1 := b0.trans (b1.mono (by omega))
        have L1 := L0.out.below b1 (by intro q hq; simp only [List.mem_cons, List.not_mem_nil, or_false] at hq; rcases hq with rfl | rfl <;> simp only <;> omega)
        obtain ⟨m0, m1, m2, m3, m4⟩ := seen5 L1.head
        have hl0 := (Array.getElem?_eq_some_iff.1 L1.tail.head).1
        have hl1 : w.heap.size < w1.heap.size := by omega
        go_wp2_with fail
        refine (rnext_ofL x.pat _ (by omega)).mono ?_
        rintro e w2 ⟨rfl, b2⟩
        simp only [World.size_alloc] at b2
        have hN0 := (b2.block w1.heap.size (by omega)).trans (World.alloc_heap_new w1 (.cells #[.string (ofL x.maj), .string (ofL x.min), .string (ofL x.pat), .slice none 0 0, .slice none 0 0] 24))
        have hR0 := (b2.block (w.heap.size + 1) (by omega)).trans ((Below.heap_alloc _ _ _ (by omega)).trans L1.tail.head)
        obtain ⟨n0, n1, n2, n3, n4⟩ := seen5 hN0
        have y0 := one_free 0 hN0
        have y1 := one_free 1 hN0
        have y2 := one_free 2 hN0
        have C0 : Below w.heap.size w w2 := (B1.alloc (by omega) _).trans (b2.mono (by omega))
        have hl2 := (Array.getElem?_eq_some_iff.1 hN0).1
        clear m0 m1 m2 m3 m4
        go_wp2_with fail
        obtain ⟨V1, hV1, hN1, hO1, hB1, hS1⟩ := one_set 2 (.string (ofL (nextL x.pat))) hN0
        rw [← hV1]
        have C1 := C0.trans (hB1 _ (by omega))
        have hR1 := (hO1 _ (by omega)).trans hR0
        refine (FR2.out _).mono ?_
        rintro e w3 ⟨rfl, b3⟩
        have B3 := C1.trans (b3.mono (by rw [hS1]; omega))
        have hN9 := (b3.block w1.heap.size (by rw [hS1]; omega)).trans hN1
        have hR9 := (b3.block (w.heap.size + 1) (by rw [hS1]; omega)).trans hR1
        clear n0 n1 n2 n3 n4 y0 y1 y2
        obtain ⟨n0, n1, n2, n3, n4⟩ := seen5 hN9
        obtain ⟨r0, r1, r2, r3, r4⟩ := seen5 hR9
        have z0 := one_free 0 hR9
        have z1 := one_free 1 hR9
        have z2 := one_free 2 hR9
        have z3 := one_free 3 hR9
        have z4 := one_free 4 hR9
        have HE := hide hR9
        generalize hF : fitW (rais x 2) = F at *
        cases F
        · have HR : Hid (X = semN) := hX.trans (if_neg (by simp))
          go_wp2_with fail
          obtain ⟨W9, hW9, g9, hb9⟩ := five_world (W := w3) (.string ⟨#[]⟩) (.string ⟨#[]⟩) (.string ⟨#[]⟩) (.slice none 0 0) (.slice none 0 0) HE.out
          rw [← hW9]
          refine fin20 _ W9 (w.heap.size + 1) semN rfl rfl rfl g9 ?_
          exact fun v hv => ⟨B3.trans (hb9 _ (by omega)), v, rfl, by rw [HR.out]; exact hv⟩

        · have HR : Hid (X = ⟨x.maj, x.min, nextL x.pat, [], []⟩) := by show _ = _; rw [hX, if_pos rfl, HRA.out]
          go_wp2_with fail
          obtain ⟨W9, hW9, g9, hb9⟩ := five_world (W := w3) (.string (ofL x.maj)) (.string (ofL x.min)) (.string (ofL (nextL x.pat))) (.slice none 0 0) (.slice none 0 0) HE.out
          rw [← hW9]
          refine fin20 _ W9 (w.heap.size + 1) ⟨x.maj, x.min, nextL x.pat, [], []⟩ rfl rfl rfl g9 ?_
          exact fun v hv => ⟨B3.trans (hb9 _ (by omega)), v, rfl, by rw [HR.out]; exact hv⟩


end Go.Proofs.Ytkngmgdcnplkgaa
