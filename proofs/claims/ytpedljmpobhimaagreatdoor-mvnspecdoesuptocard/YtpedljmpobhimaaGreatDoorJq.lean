/-
  Walks: the document's word on which requirements are sound.
-/
import Derived.Test.YtpedljmpobhimaaGreatDoorJm
namespace Go.Proofs.YtpedljmpobhimaaGreatDoor
open Go.RowKit Go.Shelf
set_option linter.unusedVariables false

/-- A requirement and one of its ranges at work. -/
structure Sn (w : World) (t : List UInt8) (a : Option Addr) (n c : Nat) (x : Mr) (K : Nat) (W : World) : Prop where
  bel : Below w.heap.size w W
  box : W.heap[w.heap.size]? = some (.cells #[.string (ofL t), .slice a n c] 24 (0, 0))
  xb : W.heap[K]? = some (.cells #[.bool x.hasLo, .string (ofL x.lo), .bool x.loIn, .bool x.hasHi, .string (ofL x.hi), .bool x.hiIn] 54 (0, 0))
theorem Sn.next {w W W' : World} {t : List UInt8} {a : Option Addr} {n c : Nat} {x : Mr} {K : Nat} (h : Sn w t a n c x K W) (hb : Below W.heap.size W W') : Sn w t a n c x K W' :=
  ⟨h.bel.trans (hb.mono h.bel.size), (hb.block _ (Array.getElem?_eq_some_iff.1 h.box).1).trans h.box, (hb.block _ (Array.getElem?_eq_some_iff.1 h.xb).1).trans h.xb⟩
theorem Sn.start {w W : World} {t : List UInt8} {a : Option Addr} {n c : Nat} (x : Mr) (hb : Below w.heap.size w W) (h : W.heap[w.heap.size]? = some (.cells #[.string (ofL t), .slice a n c] 24 (0, 0))) : Sn w t a n c x W.heap.size (W.alloc (.cells #[.bool x.hasLo, .string (ofL x.lo), .bool x.loIn, .bool x.hasHi, .string (ofL x.hi), .bool x.hiIn] 54)) :=
  ⟨hb.alloc hb.size _, (Below.heap_alloc _ _ _ (Array.getElem?_eq_some_iff.1 h).1).trans h, World.alloc_heap_new W _⟩
theorem Sn.seen {w W : World} {t : List UInt8} {a : Option Addr} {n c : Nat} {x : Mr} {K : Nat} (h : Sn w t a n c x K W) : W.cell? ⟨w.heap.size, 0, none⟩ = some (.string (ofL t)) ∧ W.cell? ⟨w.heap.size, 1, none⟩ = some (.slice a n c) ∧
    W.cell? ⟨K, 0, none⟩ = some (.bool x.hasLo) ∧ W.cell? ⟨K, 1, none⟩ = some (.string (ofL x.lo)) ∧ W.cell? ⟨K, 2, none⟩ = some (.bool x.loIn) ∧ W.cell? ⟨K, 3, none⟩ = some (.bool x.hasHi) ∧ W.cell? ⟨K, 4, none⟩ = some (.string (ofL x.hi)) ∧ W.cell? ⟨K, 5, none⟩ = some (.bool x.hiIn) :=
  ⟨cell_at 0 h.box rfl, cell_at 1 h.box rfl, cell_at 0 h.xb rfl, cell_at 1 h.xb rfl, cell_at 2 h.xb rfl, cell_at 3 h.xb rfl, cell_at 4 h.xb rfl, cell_at 5 h.xb rfl⟩
theorem okQ_at (ms : List Mr) (i : Nat) (h : i < ms.length) : okQ (ms.take i) (ms.drop i) = (okR ms[i] && mayB (ms.take i) ms[i] && okQ (ms.take (i + 1)) (ms.drop (i + 1))) := by
  rw [List.drop_eq_getElem_cons h, List.take_succ_eq_append_getElem h]
  rfl
theorem may_take (ms : List Mr) (j : Nat) (h : j < ms.length) (x : Mr) : mayB (ms.take (j + 1)) x = partedL ms[j] x := by
  refine may_last (i := j) (by rw [List.length_take]; omega) ?_
  rw [List.getElem?_take_of_lt (by omega), List.getElem?_eq_getElem h]
theorem okR_of {hl : Bool} {lo : List UInt8} {li hh : Bool} {hi : List UInt8} {hin : Bool} {L1 L2 : Bool} {C : Int} (h1 : (if hl = true then isVer lo else decide (lo = [])) = L1) (h2 : (if hh = true then isVer hi else decide (hi = [])) = L2) (h3 : cmpT lo hi = C) :
    okR ⟨hl, lo, li, hh, hi, hin⟩ = (L1 && L2 && (!hl || !hh || (decide (C < 0) || (decide (C = 0) && (li && hin))))) := by
  subst h1 h2 h3
  rfl

set_option maxRecDepth 100000 in
set_option maxHeartbeats 16000000 in
theorem Rsound_any (t : List UInt8) (a : Option Addr) (n c : Nat) (ms : List Mr) (w : World) (hv : Mrs w (.slice a n c) ms) (hn : n ≤ 2000000) :
    Calls Tryz.prog 32 #[.agg #[.string (ofL t), .slice a n c]] w fun e w' => e = .returned (.bool (soundL t ms)) ∧ Below w.heap.size w w' := by
  have HN := hide (mrs_n hv)
  have HV := hide hv
  clear hv
  have B0 := hide ((Below.refl _ w).alloc (Nat.le_refl _) (.cells #[.string (ofL t), .slice a n c] 24))
  have N0 := hide (World.alloc_heap_new w (.cells #[.string (ofL t), .slice a n c] 24))
  by_cases hn0 : n = 0
  · have hms : ms = [] := List.length_eq_zero_iff.1 (by rw [HN.out]; exact hn0)
    have hS : soundL t ms = isVer t := by unfold soundL; rw [if_pos hms]
    rw [hS]
    have VV := hide (fun W => (by have := RVersion_any (ofL t) W; rw [ofL_data] at this; exact this : Calls Tryz.prog 19 #[.string (ofL t)] W fun r w' => r = .returned (.bool (isVer t)) ∧ Below W.heap.size W w'))
    clear hS hms
    subst hn0
    go_enter Tryz.func32, Tryz.ntmps32
    go_wp2_with fail
    refine (VV.out _).mono ?_
    rintro r w1 ⟨rfl, b1⟩
    go_wp2_with fail
    go_ret
    exact ⟨rfl, B0.out.trans (b1.mono B0.out.size)⟩
  · have hnb : ((n : Int) == 0) = false := by simp; omega
    have hms : ms ≠ [] := fun h => hn0 (by rw [← HN.out, h]; rfl)
    have hS : soundL t ms = (decide (t = []) && decide (n ≤ 32) && okQ [] ms) := by unfold soundL; rw [if_neg hms, HN.out]
    have hne := empty_at t
    have hTd : decide (t = []) = !decide (t ≠ []) := by cases t <;> rfl
    rw [hTd] at hS
    have HS0 := hide hS
    clear hS hms hn0 hTd
    generalize soundL t ms = S at *
    generalize hTT : decide (t ≠ []) = T at *
    cases T with
    | true =>
      have HS : Hid (S = false) := by show _ = _; rw [HS0.out]; rfl
      have hne' : ((ofL t).toList == []) = false := by simpa using hne
      clear hne
      go_enter Tryz.func32, Tryz.ntmps32
      go_wp2_with fail
      go_ret
      exact ⟨by rw [HS.out]; rfl, B0.out⟩
    | false =>
      have hne' : ((ofL t).toList == []) = true := by simpa using hne
      clear hne
      by_cases h32 : n ≤ 32
      · have h32' : ¬ (32 : Int) < (n : Int) := by omega
        have hS : S = okQ (ms.take 0) (ms.drop 0) := by rw [HS0.out, decide_eq_true h32]; rfl
        have HS := hide hS
        clear hS HS0
        go_enter Tryz.func32, Tryz.ntmps32
        go_wp2_with fail
        go_loopw [3] (fun y wr => ∃ i : Nat, i ≤ n ∧ y = .int .i64 i ∧ Hid (Below w.heap.size w wr) ∧ Hid (wr.heap[w.heap.size]? = some (.cells #[.string (ofL t), .slice a n c] 24 (0, 0))) ∧ Hid (S = okQ (ms.take i) (ms.drop i))) (fun y _ => n - (intOf y).toNat)
        case atStart => exact ⟨0, by omega, rfl, B0, N0, HS⟩
        case round =>
          clear B0 N0 HS
          obtain ⟨i, hin0, rfl, HB, HX, HS⟩ := hrel
          have s1 : wr.cell? ⟨w.heap.size, 1, none⟩ = some (.slice a n c) := cell_at 1 HX.out rfl
          by_cases hlt : i < n
          · have hlt' : (i : Int) < (n : Int) := by omega
            have i1 : i < ms.length := by rw [HN.out]; exact hlt
            have hst := okQ_at ms i i1
            obtain ⟨b1, o1, rfl, q1, d1⟩ := mrs_at HV.out (by omega)
            obtain ⟨e0, e1, e2, e3, e4, e5⟩ := d1.six i _ (List.getElem?_eq_getElem i1)
            replace e0 := cell_on e0 HB.out
            replace e1 := cell_on e1 HB.out
            replace e2 := cell_on e2 HB.out
            replace e3 := cell_on e3 HB.out
            replace e4 := cell_on e4 HB.out
            replace e5 := cell_on e5 HB.out
            have hms2 : ∀ j, i = j + 1 → ∃ y : Mr, mayB (ms.take i) ms[i] = partedL y ms[i] ∧ w.cell? ⟨b1, o1 + j * 6, none⟩ = some (.bool y.hasLo) ∧ w.cell? ⟨b1, o1 + j * 6 + 1, none⟩ = some (.string (ofL y.lo)) ∧ w.cell? ⟨b1, o1 + j * 6 + 2, none⟩ = some (.bool y.loIn) ∧ w.cell? ⟨b1, o1 + j * 6 + 3, none⟩ = some (.bool y.hasHi) ∧ w.cell? ⟨b1, o1 + j * 6 + 4, none⟩ = some (.string (ofL y.hi)) ∧ w.cell? ⟨b1, o1 + j * 6 + 5, none⟩ = some (.bool y.hiIn) := by
              intro j hj
              have j1 : j < ms.length := by omega
              refine ⟨ms[j], ?_, d1.six j _ (List.getElem?_eq_getElem j1)⟩
              have := may_take ms j j1 ms[i]
              rw [← hj] at this
              exact this
            have hm0 : i = 0 → true = mayB (ms.take i) ms[i] := by intro h; subst h; rfl
            rw [← HS.out] at hst
            have HS1 := hide hst
            have MAY := hide hms2
            have HM0 := hide hm0
            clear hst hms2 hm0 HS d1
            have hmsl : n ≤ 32 := h32
            generalize mayB (ms.take i) ms[i] = M1 at *
            generalize ms[i] = x at *
            obtain ⟨hl, lo, li, hh, hi, hin⟩ := x
            dsimp only at e0 e1 e2 e3 e4 e5
            have VLO := hide (fun W => (by have := RVersion_any (ofL lo) W; rw [ofL_data] at this; exact this : Calls Tryz.prog 19 #[.string (ofL lo)] W fun r w' => r = .returned (.bool (isVer lo)) ∧ Below W.heap.size W w'))
            have VHI := hide (fun W => (by have := RVersion_any (ofL hi) W; rw [ofL_data] at this; exact this : Calls Tryz.prog 19 #[.string (ofL hi)] W fun r w' => r = .returned (.bool (isVer hi)) ∧ Below W.heap.size W w'))
            have CMP := hide (fun W => RCmp lo hi W)
            clear i1
            cases hl
            · cases hh
              · skip
                have HOK := hide (okR_of (li := li) (hin := hin) (hl := false) (hh := false) (lo := lo) (hi := hi) (if_neg (by simp)) (if_neg (by simp)) rfl)
                by_cases hlo : lo = []
                · have hlob : ((ofL lo).toList == []) = true := by rw [empty_at]; simp [hlo]
                  have hdl : decide (lo = []) = true := by simpa using hlo
                  rw [hdl] at HOK
                  clear hlo hdl
                  by_cases hhi : hi = []
                  · have hhib : ((ofL hi).toList == []) = true := by rw [empty_at]; simp [hhi]
                    have hdh : decide (hi = []) = true := by simpa using hhi
                    rw [hdh] at HOK
                    clear hhi hdh
                    by_cases hi0 : i = 0
                    · have hM1 := HM0.out hi0
                      subst hM1
                      have hposd : decide (0 < i) = false := by simp; omega
                      have hpos0 : ¬ (0 : Int) < (i : Int) := by omega
                      have HSX : Hid (S = okQ (ms.take (i + 1)) (ms.drop (i + 1))) := by show _ = _; rw [HS1.out, HOK.out]; simp
                      clear hi0
                      have Q0 := hide (Sn.start (t := t) (a := some ⟨b1, o1, none⟩) (n := n) (c := c) ⟨false, lo, li, false, hi, hin⟩ HB.out HX.out)
                      obtain ⟨s0, s1, x0, x1, x2, x3, x4, x5⟩ := Q0.out.seen
                      dsimp only at x0 x1 x2 x3 x4 x5
                      go_wp2_with fail
                      generalize wr.alloc (.cells #[.bool false, .string (ofL lo), .bool li, .bool false, .string (ofL hi), .bool hin] 54) = W0 at *
                      generalize wr.heap.size = KX at *
                      go_quiet (fail)
                      have QF := hide (Q0.out.next (below_drewN _ _ nq))
                      clear s0 s1 x0 x1 x2 x3 x4 x5
                      go_wp2_with fail
                      go_roundw
                      case rel => exact ⟨i + 1, by omega, by go_num, QF.out.bel, QF.out.box, HSX⟩
                      case measure => simp [intOf]; omega
                    · obtain ⟨j, hj⟩ : ∃ j, i = j + 1 := ⟨i - 1, by omega⟩
                      obtain ⟨y, hmay, y0, y1, y2, y3, y4, y5⟩ := MAY.out j hj
                      have hw1 : IntKind.i64.wrap ((i : Int) - 1) = (j : Int) := by rw [show (i : Int) - 1 = (j : Int) by omega]; exact wrap_nat j (by omega)
                      have hj0 : (0 : Int) ≤ (j : Int) := Int.natCast_nonneg _
                      have hj1 : (j : Int) < (n : Int) := by omega
                      have hposd : decide (0 < i) = true := by simp; omega
                      have hpn : 0 < i := by omega
                      have BEH := fun W => Rbehind_any y ⟨false, lo, li, false, hi, hin⟩ W
                      unfold mV at BEH
                      dsimp only at BEH
                      rw [← hmay] at BEH
                      replace BEH := hide BEH
                      clear hj hi0 hmay
                      cases M1 with
                      | true =>
                        have HSX : Hid (S = okQ (ms.take (i + 1)) (ms.drop (i + 1))) := by show _ = _; rw [HS1.out, HOK.out]; simp
                        have Q0 := hide (Sn.start (t := t) (a := some ⟨b1, o1, none⟩) (n := n) (c := c) ⟨false, lo, li, false, hi, hin⟩ HB.out HX.out)
                        obtain ⟨s0, s1, x0, x1, x2, x3, x4, x5⟩ := Q0.out.seen
                        dsimp only at x0 x1 x2 x3 x4 x5
                        go_wp2_with fail
                        generalize wr.alloc (.cells #[.bool false, .string (ofL lo), .bool li, .bool false, .string (ofL hi), .bool hin] 54) = W0 at *
                        generalize wr.heap.size = KX at *
                        replace y0 := cell_on y0 Q0.out.bel
                        replace y1 := cell_on y1 Q0.out.bel
                        replace y2 := cell_on y2 Q0.out.bel
                        replace y3 := cell_on y3 Q0.out.bel
                        replace y4 := cell_on y4 Q0.out.bel
                        replace y5 := cell_on y5 Q0.out.bel
                        go_region_held3 (fun W' => W'.cell? ⟨w.heap.size, 1, none⟩ = some (.slice (some ⟨b1, o1, none⟩) n c) ∧ W'.cell? ⟨b1, o1 + j * 6, none⟩ = some (.bool y.hasLo) ∧ W'.cell? ⟨b1, o1 + j * 6 + 1, none⟩ = some (.string (ofL y.lo)) ∧ W'.cell? ⟨b1, o1 + j * 6 + 2, none⟩ = some (.bool y.loIn) ∧ W'.cell? ⟨b1, o1 + j * 6 + 3, none⟩ = some (.bool y.hasHi) ∧ W'.cell? ⟨b1, o1 + j * 6 + 4, none⟩ = some (.string (ofL y.hi)) ∧ W'.cell? ⟨b1, o1 + j * 6 + 5, none⟩ = some (.bool y.hiIn) ∧ W'.cell? ⟨KX, 0, none⟩ = some (.bool false) ∧ W'.cell? ⟨KX, 1, none⟩ = some (.string (ofL lo)) ∧ W'.cell? ⟨KX, 2, none⟩ = some (.bool li) ∧ W'.cell? ⟨KX, 3, none⟩ = some (.bool false) ∧ W'.cell? ⟨KX, 4, none⟩ = some (.string (ofL hi)) ∧ W'.cell? ⟨KX, 5, none⟩ = some (.bool hin)) (go_keep) ((go_at_call 54; refine (BEH.out _).mono ?_; rintro r WY ⟨rfl, b7⟩; have s1' := cell_on (W := W0.drew) s1 b7; have y0' := cell_on (W := W0.drew) y0 b7; have y1' := cell_on (W := W0.drew) y1 b7; have y2' := cell_on (W := W0.drew) y2 b7; have y3' := cell_on (W := W0.drew) y3 b7; have y4' := cell_on (W := W0.drew) y4 b7; have y5' := cell_on (W := W0.drew) y5 b7; have x0' := cell_on (W := W0.drew) x0 b7; have x1' := cell_on (W := W0.drew) x1 b7; have x2' := cell_on (W := W0.drew) x2 b7; have x3' := cell_on (W := W0.drew) x3 b7; have x4' := cell_on (W := W0.drew) x4 b7; have x5' := cell_on (W := W0.drew) x5 b7))
                        have QF := hide ((Q0.out.next (drew_below _ _)).next b7)
                        clear b7 s0 s1 x0 x1 x2 x3 x4 x5 y0 y1 y2 y3 y4 y5 s1' y0' y1' y2' y3' y4' y5' x0' x1' x2' x3' x4' x5' Q0
                        go_wp2_with fail
                        go_roundw
                        case rel => exact ⟨i + 1, by omega, by go_num, QF.out.bel, QF.out.box, HSX⟩
                        case measure => simp [intOf]; omega
                      | false =>
                        have HSX : Hid (S = false) := by show _ = _; rw [HS1.out, HOK.out]; simp
                        have Q0 := hide (Sn.start (t := t) (a := some ⟨b1, o1, none⟩) (n := n) (c := c) ⟨false, lo, li, false, hi, hin⟩ HB.out HX.out)
                        obtain ⟨s0, s1, x0, x1, x2, x3, x4, x5⟩ := Q0.out.seen
                        dsimp only at x0 x1 x2 x3 x4 x5
                        go_wp2_with fail
                        generalize wr.alloc (.cells #[.bool false, .string (ofL lo), .bool li, .bool false, .string (ofL hi), .bool hin] 54) = W0 at *
                        generalize wr.heap.size = KX at *
                        replace y0 := cell_on y0 Q0.out.bel
                        replace y1 := cell_on y1 Q0.out.bel
                        replace y2 := cell_on y2 Q0.out.bel
                        replace y3 := cell_on y3 Q0.out.bel
                        replace y4 := cell_on y4 Q0.out.bel
                        replace y5 := cell_on y5 Q0.out.bel
                        go_region_held3 (fun W' => W'.cell? ⟨w.heap.size, 1, none⟩ = some (.slice (some ⟨b1, o1, none⟩) n c) ∧ W'.cell? ⟨b1, o1 + j * 6, none⟩ = some (.bool y.hasLo) ∧ W'.cell? ⟨b1, o1 + j * 6 + 1, none⟩ = some (.string (ofL y.lo)) ∧ W'.cell? ⟨b1, o1 + j * 6 + 2, none⟩ = some (.bool y.loIn) ∧ W'.cell? ⟨b1, o1 + j * 6 + 3, none⟩ = some (.bool y.hasHi) ∧ W'.cell? ⟨b1, o1 + j * 6 + 4, none⟩ = some (.string (ofL y.hi)) ∧ W'.cell? ⟨b1, o1 + j * 6 + 5, none⟩ = some (.bool y.hiIn) ∧ W'.cell? ⟨KX, 0, none⟩ = some (.bool false) ∧ W'.cell? ⟨KX, 1, none⟩ = some (.string (ofL lo)) ∧ W'.cell? ⟨KX, 2, none⟩ = some (.bool li) ∧ W'.cell? ⟨KX, 3, none⟩ = some (.bool false) ∧ W'.cell? ⟨KX, 4, none⟩ = some (.string (ofL hi)) ∧ W'.cell? ⟨KX, 5, none⟩ = some (.bool hin)) (go_keep) ((go_at_call 54; refine (BEH.out _).mono ?_; rintro r WY ⟨rfl, b7⟩; have s1' := cell_on (W := W0.drew) s1 b7; have y0' := cell_on (W := W0.drew) y0 b7; have y1' := cell_on (W := W0.drew) y1 b7; have y2' := cell_on (W := W0.drew) y2 b7; have y3' := cell_on (W := W0.drew) y3 b7; have y4' := cell_on (W := W0.drew) y4 b7; have y5' := cell_on (W := W0.drew) y5 b7; have x0' := cell_on (W := W0.drew) x0 b7; have x1' := cell_on (W := W0.drew) x1 b7; have x2' := cell_on (W := W0.drew) x2 b7; have x3' := cell_on (W := W0.drew) x3 b7; have x4' := cell_on (W := W0.drew) x4 b7; have x5' := cell_on (W := W0.drew) x5 b7))
                        have QF := hide ((Q0.out.next (drew_below _ _)).next b7)
                        clear b7 s0 s1 x0 x1 x2 x3 x4 x5 y0 y1 y2 y3 y4 y5 s1' y0' y1' y2' y3' y4' y5' x0' x1' x2' x3' x4' x5' Q0
                        go_wp2_with fail
                        go_ret
                        exact ⟨by rw [HSX.out]; rfl, QF.out.bel⟩
                  · have hhib : ((ofL hi).toList == []) = false := by rw [empty_at]; simp [hhi]
                    have hdh : decide (hi = []) = false := by simpa using hhi
                    rw [hdh] at HOK
                    clear hhi hdh
                    have HSX : Hid (S = false) := by show _ = _; rw [HS1.out, HOK.out]; simp
                    have Q0 := hide (Sn.start (t := t) (a := some ⟨b1, o1, none⟩) (n := n) (c := c) ⟨false, lo, li, false, hi, hin⟩ HB.out HX.out)
                    obtain ⟨s0, s1, x0, x1, x2, x3, x4, x5⟩ := Q0.out.seen
                    dsimp only at x0 x1 x2 x3 x4 x5
                    go_wp2_with fail
                    go_ret
                    exact ⟨by rw [HSX.out]; rfl, Q0.out.bel⟩
                · have hlob : ((ofL lo).toList == []) = false := by rw [empty_at]; simp [hlo]
                  have hdl : decide (lo = []) = false := by simpa using hlo
                  rw [hdl] at HOK
                  clear hlo hdl
                  have HSX : Hid (S = false) := by show _ = _; rw [HS1.out, HOK.out]; simp
                  have Q0 := hide (Sn.start (t := t) (a := some ⟨b1, o1, none⟩) (n := n) (c := c) ⟨false, lo, li, false, hi, hin⟩ HB.out HX.out)
                  obtain ⟨s0, s1, x0, x1, x2, x3, x4, x5⟩ := Q0.out.seen
                  dsimp only at x0 x1 x2 x3 x4 x5
                  go_wp2_with fail
                  go_ret
                  exact ⟨by rw [HSX.out]; rfl, Q0.out.bel⟩
              · skip
                have HOK := hide (okR_of (li := li) (hin := hin) (hl := false) (hh := true) (lo := lo) (hi := hi) (if_neg (by simp)) (if_pos rfl) rfl)
                by_cases hlo : lo = []
                · have hlob : ((ofL lo).toList == []) = true := by rw [empty_at]; simp [hlo]
                  have hdl : decide (lo = []) = true := by simpa using hlo
                  rw [hdl] at HOK
                  clear hlo hdl
                  generalize hv2 : isVer hi = v2 at *
                  clear hv2
                  cases v2 with
                  | false =>
                    have HSX : Hid (S = false) := by show _ = _; rw [HS1.out, HOK.out]; simp
                    have Q0 := hide (Sn.start (t := t) (a := some ⟨b1, o1, none⟩) (n := n) (c := c) ⟨false, lo, li, true, hi, hin⟩ HB.out HX.out)
                    obtain ⟨s0, s1, x0, x1, x2, x3, x4, x5⟩ := Q0.out.seen
                    dsimp only at x0 x1 x2 x3 x4 x5
                    go_wp2_with fail
                    generalize wr.alloc (.cells #[.bool false, .string (ofL lo), .bool li, .bool true, .string (ofL hi), .bool hin] 54) = W0 at *
                    generalize wr.heap.size = KX at *
                    refine (VHI.out _).mono ?_
                    rintro r W1 ⟨rfl, bb⟩
                    have Q1 := hide (Q0.out.next bb)
                    clear bb Q0 s0 s1 x0 x1 x2 x3 x4 x5
                    dsimp only
                    obtain ⟨s0, s1, x0, x1, x2, x3, x4, x5⟩ := Q1.out.seen
                    dsimp only at x0 x1 x2 x3 x4 x5
                    go_wp2_with fail
                    go_ret
                    exact ⟨by rw [HSX.out]; rfl, Q1.out.bel⟩
                  | true =>
                    by_cases hi0 : i = 0
                    · have hM1 := HM0.out hi0
                      subst hM1
                      have hposd : decide (0 < i) = false := by simp; omega
                      have hpos0 : ¬ (0 : Int) < (i : Int) := by omega
                      have HSX : Hid (S = okQ (ms.take (i + 1)) (ms.drop (i + 1))) := by show _ = _; rw [HS1.out, HOK.out]; simp
                      clear hi0
                      have Q0 := hide (Sn.start (t := t) (a := some ⟨b1, o1, none⟩) (n := n) (c := c) ⟨false, lo, li, true, hi, hin⟩ HB.out HX.out)
                      obtain ⟨s0, s1, x0, x1, x2, x3, x4, x5⟩ := Q0.out.seen
                      dsimp only at x0 x1 x2 x3 x4 x5
                      go_wp2_with fail
                      generalize wr.alloc (.cells #[.bool false, .string (ofL lo), .bool li, .bool true, .string (ofL hi), .bool hin] 54) = W0 at *
                      generalize wr.heap.size = KX at *
                      refine (VHI.out _).mono ?_
                      rintro r W1 ⟨rfl, bb⟩
                      have Q1 := hide (Q0.out.next bb)
                      clear bb Q0 s0 s1 x0 x1 x2 x3 x4 x5
                      dsimp only
                      obtain ⟨s0, s1, x0, x1, x2, x3, x4, x5⟩ := Q1.out.seen
                      dsimp only at x0 x1 x2 x3 x4 x5
                      go_wp2_with fail
                      go_quiet (fail)
                      have QF := hide (Q1.out.next (below_drewN _ _ nq))
                      clear s0 s1 x0 x1 x2 x3 x4 x5
                      go_wp2_with fail
                      go_roundw
                      case rel => exact ⟨i + 1, by omega, by go_num, QF.out.bel, QF.out.box, HSX⟩
                      case measure => simp [intOf]; omega
                    · obtain ⟨j, hj⟩ : ∃ j, i = j + 1 := ⟨i - 1, by omega⟩
                      obtain ⟨y, hmay, y0, y1, y2, y3, y4, y5⟩ := MAY.out j hj
                      have hw1 : IntKind.i64.wrap ((i : Int) - 1) = (j : Int) := by rw [show (i : Int) - 1 = (j : Int) by omega]; exact wrap_nat j (by omega)
                      have hj0 : (0 : Int) ≤ (j : Int) := Int.natCast_nonneg _
                      have hj1 : (j : Int) < (n : Int) := by omega
                      have hposd : decide (0 < i) = true := by simp; omega
                      have hpn : 0 < i := by omega
                      have BEH := fun W => Rbehind_any y ⟨false, lo, li, true, hi, hin⟩ W
                      unfold mV at BEH
                      dsimp only at BEH
                      rw [← hmay] at BEH
                      replace BEH := hide BEH
                      clear hj hi0 hmay
                      cases M1 with
                      | true =>
                        have HSX : Hid (S = okQ (ms.take (i + 1)) (ms.drop (i + 1))) := by show _ = _; rw [HS1.out, HOK.out]; simp
                        have Q0 := hide (Sn.start (t := t) (a := some ⟨b1, o1, none⟩) (n := n) (c := c) ⟨false, lo, li, true, hi, hin⟩ HB.out HX.out)
                        obtain ⟨s0, s1, x0, x1, x2, x3, x4, x5⟩ := Q0.out.seen
                        dsimp only at x0 x1 x2 x3 x4 x5
                        go_wp2_with fail
                        generalize wr.alloc (.cells #[.bool false, .string (ofL lo), .bool li, .bool true, .string (ofL hi), .bool hin] 54) = W0 at *
                        generalize wr.heap.size = KX at *
                        refine (VHI.out _).mono ?_
                        rintro r W1 ⟨rfl, bb⟩
                        have Q1 := hide (Q0.out.next bb)
                        clear bb Q0 s0 s1 x0 x1 x2 x3 x4 x5
                        dsimp only
                        obtain ⟨s0, s1, x0, x1, x2, x3, x4, x5⟩ := Q1.out.seen
                        dsimp only at x0 x1 x2 x3 x4 x5
                        go_wp2_with fail
                        replace y0 := cell_on y0 Q1.out.bel
                        replace y1 := cell_on y1 Q1.out.bel
                        replace y2 := cell_on y2 Q1.out.bel
                        replace y3 := cell_on y3 Q1.out.bel
                        replace y4 := cell_on y4 Q1.out.bel
                        replace y5 := cell_on y5 Q1.out.bel
                        go_region_held3 (fun W' => W'.cell? ⟨w.heap.size, 1, none⟩ = some (.slice (some ⟨b1, o1, none⟩) n c) ∧ W'.cell? ⟨b1, o1 + j * 6, none⟩ = some (.bool y.hasLo) ∧ W'.cell? ⟨b1, o1 + j * 6 + 1, none⟩ = some (.string (ofL y.lo)) ∧ W'.cell? ⟨b1, o1 + j * 6 + 2, none⟩ = some (.bool y.loIn) ∧ W'.cell? ⟨b1, o1 + j * 6 + 3, none⟩ = some (.bool y.hasHi) ∧ W'.cell? ⟨b1, o1 + j * 6 + 4, none⟩ = some (.string (ofL y.hi)) ∧ W'.cell? ⟨b1, o1 + j * 6 + 5, none⟩ = some (.bool y.hiIn) ∧ W'.cell? ⟨KX, 0, none⟩ = some (.bool false) ∧ W'.cell? ⟨KX, 1, none⟩ = some (.string (ofL lo)) ∧ W'.cell? ⟨KX, 2, none⟩ = some (.bool li) ∧ W'.cell? ⟨KX, 3, none⟩ = some (.bool true) ∧ W'.cell? ⟨KX, 4, none⟩ = some (.string (ofL hi)) ∧ W'.cell? ⟨KX, 5, none⟩ = some (.bool hin)) (go_keep) ((go_at_call 54; refine (BEH.out _).mono ?_; rintro r WY ⟨rfl, b7⟩; have s1' := cell_on (W := W1.drew) s1 b7; have y0' := cell_on (W := W1.drew) y0 b7; have y1' := cell_on (W := W1.drew) y1 b7; have y2' := cell_on (W := W1.drew) y2 b7; have y3' := cell_on (W := W1.drew) y3 b7; have y4' := cell_on (W := W1.drew) y4 b7; have y5' := cell_on (W := W1.drew) y5 b7; have x0' := cell_on (W := W1.drew) x0 b7; have x1' := cell_on (W := W1.drew) x1 b7; have x2' := cell_on (W := W1.drew) x2 b7; have x3' := cell_on (W := W1.drew) x3 b7; have x4' := cell_on (W := W1.drew) x4 b7; have x5' := cell_on (W := W1.drew) x5 b7))
                        have QF := hide ((Q1.out.next (drew_below _ _)).next b7)
                        clear b7 s0 s1 x0 x1 x2 x3 x4 x5 y0 y1 y2 y3 y4 y5 s1' y0' y1' y2' y3' y4' y5' x0' x1' x2' x3' x4' x5' Q1
                        go_wp2_with fail
                        go_roundw
                        case rel => exact ⟨i + 1, by omega, by go_num, QF.out.bel, QF.out.box, HSX⟩
                        case measure => simp [intOf]; omega
                      | false =>
                        have HSX : Hid (S = false) := by show _ = _; rw [HS1.out, HOK.out]; simp
                        have Q0 := hide (Sn.start (t := t) (a := some ⟨b1, o1, none⟩) (n := n) (c := c) ⟨false, lo, li, true, hi, hin⟩ HB.out HX.out)
                        obtain ⟨s0, s1, x0, x1, x2, x3, x4, x5⟩ := Q0.out.seen
                        dsimp only at x0 x1 x2 x3 x4 x5
                        go_wp2_with fail
                        generalize wr.alloc (.cells #[.bool false, .string (ofL lo), .bool li, .bool true, .string (ofL hi), .bool hin] 54) = W0 at *
                        generalize wr.heap.size = KX at *
                        refine (VHI.out _).mono ?_
                        rintro r W1 ⟨rfl, bb⟩
                        have Q1 := hide (Q0.out.next bb)
                        clear bb Q0 s0 s1 x0 x1 x2 x3 x4 x5
                        dsimp only
                        obtain ⟨s0, s1, x0, x1, x2, x3, x4, x5⟩ := Q1.out.seen
                        dsimp only at x0 x1 x2 x3 x4 x5
                        go_wp2_with fail
                        replace y0 := cell_on y0 Q1.out.bel
                        replace y1 := cell_on y1 Q1.out.bel
                        replace y2 := cell_on y2 Q1.out.bel
                        replace y3 := cell_on y3 Q1.out.bel
                        replace y4 := cell_on y4 Q1.out.bel
                        replace y5 := cell_on y5 Q1.out.bel
                        go_region_held3 (fun W' => W'.cell? ⟨w.heap.size, 1, none⟩ = some (.slice (some ⟨b1, o1, none⟩) n c) ∧ W'.cell? ⟨b1, o1 + j * 6, none⟩ = some (.bool y.hasLo) ∧ W'.cell? ⟨b1, o1 + j * 6 + 1, none⟩ = some (.string (ofL y.lo)) ∧ W'.cell? ⟨b1, o1 + j * 6 + 2, none⟩ = some (.bool y.loIn) ∧ W'.cell? ⟨b1, o1 + j * 6 + 3, none⟩ = some (.bool y.hasHi) ∧ W'.cell? ⟨b1, o1 + j * 6 + 4, none⟩ = some (.string (ofL y.hi)) ∧ W'.cell? ⟨b1, o1 + j * 6 + 5, none⟩ = some (.bool y.hiIn) ∧ W'.cell? ⟨KX, 0, none⟩ = some (.bool false) ∧ W'.cell? ⟨KX, 1, none⟩ = some (.string (ofL lo)) ∧ W'.cell? ⟨KX, 2, none⟩ = some (.bool li) ∧ W'.cell? ⟨KX, 3, none⟩ = some (.bool true) ∧ W'.cell? ⟨KX, 4, none⟩ = some (.string (ofL hi)) ∧ W'.cell? ⟨KX, 5, none⟩ = some (.bool hin)) (go_keep) ((go_at_call 54; refine (BEH.out _).mono ?_; rintro r WY ⟨rfl, b7⟩; have s1' := cell_on (W := W1.drew) s1 b7; have y0' := cell_on (W := W1.drew) y0 b7; have y1' := cell_on (W := W1.drew) y1 b7; have y2' := cell_on (W := W1.drew) y2 b7; have y3' := cell_on (W := W1.drew) y3 b7; have y4' := cell_on (W := W1.drew) y4 b7; have y5' := cell_on (W := W1.drew) y5 b7; have x0' := cell_on (W := W1.drew) x0 b7; have x1' := cell_on (W := W1.drew) x1 b7; have x2' := cell_on (W := W1.drew) x2 b7; have x3' := cell_on (W := W1.drew) x3 b7; have x4' := cell_on (W := W1.drew) x4 b7; have x5' := cell_on (W := W1.drew) x5 b7))
                        have QF := hide ((Q1.out.next (drew_below _ _)).next b7)
                        clear b7 s0 s1 x0 x1 x2 x3 x4 x5 y0 y1 y2 y3 y4 y5 s1' y0' y1' y2' y3' y4' y5' x0' x1' x2' x3' x4' x5' Q1
                        go_wp2_with fail
                        go_ret
                        exact ⟨by rw [HSX.out]; rfl, QF.out.bel⟩
                · have hlob : ((ofL lo).toList == []) = false := by rw [empty_at]; simp [hlo]
                  have hdl : decide (lo = []) = false := by simpa using hlo
                  rw [hdl] at HOK
                  clear hlo hdl
                  have HSX : Hid (S = false) := by show _ = _; rw [HS1.out, HOK.out]; simp
                  have Q0 := hide (Sn.start (t := t) (a := some ⟨b1, o1, none⟩) (n := n) (c := c) ⟨false, lo, li, true, hi, hin⟩ HB.out HX.out)
                  obtain ⟨s0, s1, x0, x1, x2, x3, x4, x5⟩ := Q0.out.seen
                  dsimp only at x0 x1 x2 x3 x4 x5
                  go_wp2_with fail
                  go_ret
                  exact ⟨by rw [HSX.out]; rfl, Q0.out.bel⟩
            · cases hh
              · skip
                have HOK := hide (okR_of (li := li) (hin := hin) (hl := true) (hh := false) (lo := lo) (hi := hi) (if_pos rfl) (if_neg (by simp)) rfl)
                generalize hv1 : isVer lo = v1 at *
                clear hv1
                cases v1 with
                | false =>
                  have HSX : Hid (S = false) := by show _ = _; rw [HS1.out, HOK.out]; simp
                  have Q0 := hide (Sn.start (t := t) (a := some ⟨b1, o1, none⟩) (n := n) (c := c) ⟨true, lo, li, false, hi, hin⟩ HB.out HX.out)
                  obtain ⟨s0, s1, x0, x1, x2, x3, x4, x5⟩ := Q0.out.seen
                  dsimp only at x0 x1 x2 x3 x4 x5
                  go_wp2_with fail
                  generalize wr.alloc (.cells #[.bool true, .string (ofL lo), .bool li, .bool false, .string (ofL hi), .bool hin] 54) = W0 at *
                  generalize wr.heap.size = KX at *
                  refine (VLO.out _).mono ?_
                  rintro r W1 ⟨rfl, bb⟩
                  have Q1 := hide (Q0.out.next bb)
                  clear bb Q0 s0 s1 x0 x1 x2 x3 x4 x5
                  dsimp only
                  obtain ⟨s0, s1, x0, x1, x2, x3, x4, x5⟩ := Q1.out.seen
                  dsimp only at x0 x1 x2 x3 x4 x5
                  go_wp2_with fail
                  go_ret
                  exact ⟨by rw [HSX.out]; rfl, Q1.out.bel⟩
                | true =>
                  by_cases hhi : hi = []
                  · have hhib : ((ofL hi).toList == []) = true := by rw [empty_at]; simp [hhi]
                    have hdh : decide (hi = []) = true := by simpa using hhi
                    rw [hdh] at HOK
                    clear hhi hdh
                    by_cases hi0 : i = 0
                    · have hM1 := HM0.out hi0
                      subst hM1
                      have hposd : decide (0 < i) = false := by simp; omega
                      have hpos0 : ¬ (0 : Int) < (i : Int) := by omega
                      have HSX : Hid (S = okQ (ms.take (i + 1)) (ms.drop (i + 1))) := by show _ = _; rw [HS1.out, HOK.out]; simp
                      clear hi0
                      have Q0 := hide (Sn.start (t := t) (a := some ⟨b1, o1, none⟩) (n := n) (c := c) ⟨true, lo, li, false, hi, hin⟩ HB.out HX.out)
                      obtain ⟨s0, s1, x0, x1, x2, x3, x4, x5⟩ := Q0.out.seen
                      dsimp only at x0 x1 x2 x3 x4 x5
                      go_wp2_with fail
                      generalize wr.alloc (.cells #[.bool true, .string (ofL lo), .bool li, .bool false, .string (ofL hi), .bool hin] 54) = W0 at *
                      generalize wr.heap.size = KX at *
                      refine (VLO.out _).mono ?_
                      rintro r W1 ⟨rfl, bb⟩
                      have Q1 := hide (Q0.out.next bb)
                      clear bb Q0 s0 s1 x0 x1 x2 x3 x4 x5
                      dsimp only
                      obtain ⟨s0, s1, x0, x1, x2, x3, x4, x5⟩ := Q1.out.seen
                      dsimp only at x0 x1 x2 x3 x4 x5
                      go_wp2_with fail
                      go_quiet (fail)
                      have QF := hide (Q1.out.next (below_drewN _ _ nq))
                      clear s0 s1 x0 x1 x2 x3 x4 x5
                      go_wp2_with fail
                      go_roundw
                      case rel => exact ⟨i + 1, by omega, by go_num, QF.out.bel, QF.out.box, HSX⟩
                      case measure => simp [intOf]; omega
                    · obtain ⟨j, hj⟩ : ∃ j, i = j + 1 := ⟨i - 1, by omega⟩
                      obtain ⟨y, hmay, y0, y1, y2, y3, y4, y5⟩ := MAY.out j hj
                      have hw1 : IntKind.i64.wrap ((i : Int) - 1) = (j : Int) := by rw [show (i : Int) - 1 = (j : Int) by omega]; exact wrap_nat j (by omega)
                      have hj0 : (0 : Int) ≤ (j : Int) := Int.natCast_nonneg _
                      have hj1 : (j : Int) < (n : Int) := by omega
                      have hposd : decide (0 < i) = true := by simp; omega
                      have hpn : 0 < i := by omega
                      have BEH := fun W => Rbehind_any y ⟨true, lo, li, false, hi, hin⟩ W
                      unfold mV at BEH
                      dsimp only at BEH
                      rw [← hmay] at BEH
                      replace BEH := hide BEH
                      clear hj hi0 hmay
                      cases M1 with
                      | true =>
                        have HSX : Hid (S = okQ (ms.take (i + 1)) (ms.drop (i + 1))) := by show _ = _; rw [HS1.out, HOK.out]; simp
                        have Q0 := hide (Sn.start (t := t) (a := some ⟨b1, o1, none⟩) (n := n) (c := c) ⟨true, lo, li, false, hi, hin⟩ HB.out HX.out)
                        obtain ⟨s0, s1, x0, x1, x2, x3, x4, x5⟩ := Q0.out.seen
                        dsimp only at x0 x1 x2 x3 x4 x5
                        go_wp2_with fail
                        generalize wr.alloc (.cells #[.bool true, .string (ofL lo), .bool li, .bool false, .string (ofL hi), .bool hin] 54) = W0 at *
                        generalize wr.heap.size = KX at *
                        refine (VLO.out _).mono ?_
                        rintro r W1 ⟨rfl, bb⟩
                        have Q1 := hide (Q0.out.next bb)
                        clear bb Q0 s0 s1 x0 x1 x2 x3 x4 x5
                        dsimp only
                        obtain ⟨s0, s1, x0, x1, x2, x3, x4, x5⟩ := Q1.out.seen
                        dsimp only at x0 x1 x2 x3 x4 x5
                        go_wp2_with fail
                        replace y0 := cell_on y0 Q1.out.bel
                        replace y1 := cell_on y1 Q1.out.bel
                        replace y2 := cell_on y2 Q1.out.bel
                        replace y3 := cell_on y3 Q1.out.bel
                        replace y4 := cell_on y4 Q1.out.bel
                        replace y5 := cell_on y5 Q1.out.bel
                        go_region_held3 (fun W' => W'.cell? ⟨w.heap.size, 1, none⟩ = some (.slice (some ⟨b1, o1, none⟩) n c) ∧ W'.cell? ⟨b1, o1 + j * 6, none⟩ = some (.bool y.hasLo) ∧ W'.cell? ⟨b1, o1 + j * 6 + 1, none⟩ = some (.string (ofL y.lo)) ∧ W'.cell? ⟨b1, o1 + j * 6 + 2, none⟩ = some (.bool y.loIn) ∧ W'.cell? ⟨b1, o1 + j * 6 + 3, none⟩ = some (.bool y.hasHi) ∧ W'.cell? ⟨b1, o1 + j * 6 + 4, none⟩ = some (.string (ofL y.hi)) ∧ W'.cell? ⟨b1, o1 + j * 6 + 5, none⟩ = some (.bool y.hiIn) ∧ W'.cell? ⟨KX, 0, none⟩ = some (.bool true) ∧ W'.cell? ⟨KX, 1, none⟩ = some (.string (ofL lo)) ∧ W'.cell? ⟨KX, 2, none⟩ = some (.bool li) ∧ W'.cell? ⟨KX, 3, none⟩ = some (.bool false) ∧ W'.cell? ⟨KX, 4, none⟩ = some (.string (ofL hi)) ∧ W'.cell? ⟨KX, 5, none⟩ = some (.bool hin)) (go_keep) ((go_at_call 54; refine (BEH.out _).mono ?_; rintro r WY ⟨rfl, b7⟩; have s1' := cell_on (W := W1.drew) s1 b7; have y0' := cell_on (W := W1.drew) y0 b7; have y1' := cell_on (W := W1.drew) y1 b7; have y2' := cell_on (W := W1.drew) y2 b7; have y3' := cell_on (W := W1.drew) y3 b7; have y4' := cell_on (W := W1.drew) y4 b7; have y5' := cell_on (W := W1.drew) y5 b7; have x0' := cell_on (W := W1.drew) x0 b7; have x1' := cell_on (W := W1.drew) x1 b7; have x2' := cell_on (W := W1.drew) x2 b7; have x3' := cell_on (W := W1.drew) x3 b7; have x4' := cell_on (W := W1.drew) x4 b7; have x5' := cell_on (W := W1.drew) x5 b7))
                        have QF := hide ((Q1.out.next (drew_below _ _)).next b7)
                        clear b7 s0 s1 x0 x1 x2 x3 x4 x5 y0 y1 y2 y3 y4 y5 s1' y0' y1' y2' y3' y4' y5' x0' x1' x2' x3' x4' x5' Q1
                        go_wp2_with fail
                        go_roundw
                        case rel => exact ⟨i + 1, by omega, by go_num, QF.out.bel, QF.out.box, HSX⟩
                        case measure => simp [intOf]; omega
                      | false =>
                        have HSX : Hid (S = false) := by show _ = _; rw [HS1.out, HOK.out]; simp
                        have Q0 := hide (Sn.start (t := t) (a := some ⟨b1, o1, none⟩) (n := n) (c := c) ⟨true, lo, li, false, hi, hin⟩ HB.out HX.out)
                        obtain ⟨s0, s1, x0, x1, x2, x3, x4, x5⟩ := Q0.out.seen
                        dsimp only at x0 x1 x2 x3 x4 x5
                        go_wp2_with fail
                        generalize wr.alloc (.cells #[.bool true, .string (ofL lo), .bool li, .bool false, .string (ofL hi), .bool hin] 54) = W0 at *
                        generalize wr.heap.size = KX at *
                        refine (VLO.out _).mono ?_
                        rintro r W1 ⟨rfl, bb⟩
                        have Q1 := hide (Q0.out.next bb)
                        clear bb Q0 s0 s1 x0 x1 x2 x3 x4 x5
                        dsimp only
                        obtain ⟨s0, s1, x0, x1, x2, x3, x4, x5⟩ := Q1.out.seen
                        dsimp only at x0 x1 x2 x3 x4 x5
                        go_wp2_with fail
                        replace y0 := cell_on y0 Q1.out.bel
                        replace y1 := cell_on y1 Q1.out.bel
                        replace y2 := cell_on y2 Q1.out.bel
                        replace y3 := cell_on y3 Q1.out.bel
                        replace y4 := cell_on y4 Q1.out.bel
                        replace y5 := cell_on y5 Q1.out.bel
                        go_region_held3 (fun W' => W'.cell? ⟨w.heap.size, 1, none⟩ = some (.slice (some ⟨b1, o1, none⟩) n c) ∧ W'.cell? ⟨b1, o1 + j * 6, none⟩ = some (.bool y.hasLo) ∧ W'.cell? ⟨b1, o1 + j * 6 + 1, none⟩ = some (.string (ofL y.lo)) ∧ W'.cell? ⟨b1, o1 + j * 6 + 2, none⟩ = some (.bool y.loIn) ∧ W'.cell? ⟨b1, o1 + j * 6 + 3, none⟩ = some (.bool y.hasHi) ∧ W'.cell? ⟨b1, o1 + j * 6 + 4, none⟩ = some (.string (ofL y.hi)) ∧ W'.cell? ⟨b1, o1 + j * 6 + 5, none⟩ = some (.bool y.hiIn) ∧ W'.cell? ⟨KX, 0, none⟩ = some (.bool true) ∧ W'.cell? ⟨KX, 1, none⟩ = some (.string (ofL lo)) ∧ W'.cell? ⟨KX, 2, none⟩ = some (.bool li) ∧ W'.cell? ⟨KX, 3, none⟩ = some (.bool false) ∧ W'.cell? ⟨KX, 4, none⟩ = some (.string (ofL hi)) ∧ W'.cell? ⟨KX, 5, none⟩ = some (.bool hin)) (go_keep) ((go_at_call 54; refine (BEH.out _).mono ?_; rintro r WY ⟨rfl, b7⟩; have s1' := cell_on (W := W1.drew) s1 b7; have y0' := cell_on (W := W1.drew) y0 b7; have y1' := cell_on (W := W1.drew) y1 b7; have y2' := cell_on (W := W1.drew) y2 b7; have y3' := cell_on (W := W1.drew) y3 b7; have y4' := cell_on (W := W1.drew) y4 b7; have y5' := cell_on (W := W1.drew) y5 b7; have x0' := cell_on (W := W1.drew) x0 b7; have x1' := cell_on (W := W1.drew) x1 b7; have x2' := cell_on (W := W1.drew) x2 b7; have x3' := cell_on (W := W1.drew) x3 b7; have x4' := cell_on (W := W1.drew) x4 b7; have x5' := cell_on (W := W1.drew) x5 b7))
                        have QF := hide ((Q1.out.next (drew_below _ _)).next b7)
                        clear b7 s0 s1 x0 x1 x2 x3 x4 x5 y0 y1 y2 y3 y4 y5 s1' y0' y1' y2' y3' y4' y5' x0' x1' x2' x3' x4' x5' Q1
                        go_wp2_with fail
                        go_ret
                        exact ⟨by rw [HSX.out]; rfl, QF.out.bel⟩
                  · have hhib : ((ofL hi).toList == []) = false := by rw [empty_at]; simp [hhi]
                    have hdh : decide (hi = []) = false := by simpa using hhi
                    rw [hdh] at HOK
                    clear hhi hdh
                    have HSX : Hid (S = false) := by show _ = _; rw [HS1.out, HOK.out]; simp
                    have Q0 := hide (Sn.start (t := t) (a := some ⟨b1, o1, none⟩) (n := n) (c := c) ⟨true, lo, li, false, hi, hin⟩ HB.out HX.out)
                    obtain ⟨s0, s1, x0, x1, x2, x3, x4, x5⟩ := Q0.out.seen
                    dsimp only at x0 x1 x2 x3 x4 x5
                    go_wp2_with fail
                    generalize wr.alloc (.cells #[.bool true, .string (ofL lo), .bool li, .bool false, .string (ofL hi), .bool hin] 54) = W0 at *
                    generalize wr.heap.size = KX at *
                    refine (VLO.out _).mono ?_
                    rintro r W1 ⟨rfl, bb⟩
                    have Q1 := hide (Q0.out.next bb)
                    clear bb Q0 s0 s1 x0 x1 x2 x3 x4 x5
                    dsimp only
                    obtain ⟨s0, s1, x0, x1, x2, x3, x4, x5⟩ := Q1.out.seen
                    dsimp only at x0 x1 x2 x3 x4 x5
                    go_wp2_with fail
                    go_ret
                    exact ⟨by rw [HSX.out]; rfl, Q1.out.bel⟩
              · skip
                have HOK := hide (okR_of (li := li) (hin := hin) (hl := true) (hh := true) (lo := lo) (hi := hi) (if_pos rfl) (if_pos rfl) rfl)
                generalize hv1 : isVer lo = v1 at *
                clear hv1
                cases v1 with
                | false =>
                  have HSX : Hid (S = false) := by show _ = _; rw [HS1.out, HOK.out]; simp
                  have Q0 := hide (Sn.start (t := t) (a := some ⟨b1, o1, none⟩) (n := n) (c := c) ⟨true, lo, li, true, hi, hin⟩ HB.out HX.out)
                  obtain ⟨s0, s1, x0, x1, x2, x3, x4, x5⟩ := Q0.out.seen
                  dsimp only at x0 x1 x2 x3 x4 x5
                  go_wp2_with fail
                  generalize wr.alloc (.cells #[.bool true, .string (ofL lo), .bool li, .bool true, .string (ofL hi), .bool hin] 54) = W0 at *
                  generalize wr.heap.size = KX at *
                  refine (VLO.out _).mono ?_
                  rintro r W1 ⟨rfl, bb⟩
                  have Q1 := hide (Q0.out.next bb)
                  clear bb Q0 s0 s1 x0 x1 x2 x3 x4 x5
                  dsimp only
                  obtain ⟨s0, s1, x0, x1, x2, x3, x4, x5⟩ := Q1.out.seen
                  dsimp only at x0 x1 x2 x3 x4 x5
                  go_wp2_with fail
                  go_ret
                  exact ⟨by rw [HSX.out]; rfl, Q1.out.bel⟩
                | true =>
                  generalize hv2 : isVer hi = v2 at *
                  clear hv2
                  cases v2 with
                  | false =>
                    have HSX : Hid (S = false) := by show _ = _; rw [HS1.out, HOK.out]; simp
                    have Q0 := hide (Sn.start (t := t) (a := some ⟨b1, o1, none⟩) (n := n) (c := c) ⟨true, lo, li, true, hi, hin⟩ HB.out HX.out)
                    obtain ⟨s0, s1, x0, x1, x2, x3, x4, x5⟩ := Q0.out.seen
                    dsimp only at x0 x1 x2 x3 x4 x5
                    go_wp2_with fail
                    generalize wr.alloc (.cells #[.bool true, .string (ofL lo), .bool li, .bool true, .string (ofL hi), .bool hin] 54) = W0 at *
                    generalize wr.heap.size = KX at *
                    refine (VLO.out _).mono ?_
                    rintro r W1 ⟨rfl, bb⟩
                    have Q1 := hide (Q0.out.next bb)
                    clear bb Q0 s0 s1 x0 x1 x2 x3 x4 x5
                    dsimp only
                    obtain ⟨s0, s1, x0, x1, x2, x3, x4, x5⟩ := Q1.out.seen
                    dsimp only at x0 x1 x2 x3 x4 x5
                    go_wp2_with fail
                    refine (VHI.out _).mono ?_
                    rintro r W2 ⟨rfl, bb⟩
                    have Q2 := hide (Q1.out.next bb)
                    clear bb Q1 s0 s1 x0 x1 x2 x3 x4 x5
                    dsimp only
                    obtain ⟨s0, s1, x0, x1, x2, x3, x4, x5⟩ := Q2.out.seen
                    dsimp only at x0 x1 x2 x3 x4 x5
                    go_wp2_with fail
                    go_ret
                    exact ⟨by rw [HSX.out]; rfl, Q2.out.bel⟩
                  | true =>
                    generalize hC : cmpT lo hi = C at *
                    clear hC
                    rcases Int.lt_trichotomy C 0 with hc | hc | hc
                    · have hc1 : ¬ 0 < C := by omega
                      have hc2 : (C == 0) = false := by simp; omega
                      have hcd : decide (C < 0) = true := by simpa using hc
                      rw [hcd] at HOK
                      clear hcd
                      by_cases hi0 : i = 0
                      · have hM1 := HM0.out hi0
                        subst hM1
                        have hposd : decide (0 < i) = false := by simp; omega
                        have hpos0 : ¬ (0 : Int) < (i : Int) := by omega
                        have HSX : Hid (S = okQ (ms.take (i + 1)) (ms.drop (i + 1))) := by show _ = _; rw [HS1.out, HOK.out]; simp
                        clear hi0
                        have Q0 := hide (Sn.start (t := t) (a := some ⟨b1, o1, none⟩) (n := n) (c := c) ⟨true, lo, li, true, hi, hin⟩ HB.out HX.out)
                        obtain ⟨s0, s1, x0, x1, x2, x3, x4, x5⟩ := Q0.out.seen
                        dsimp only at x0 x1 x2 x3 x4 x5
                        go_wp2_with fail
                        generalize wr.alloc (.cells #[.bool true, .string (ofL lo), .bool li, .bool true, .string (ofL hi), .bool hin] 54) = W0 at *
                        generalize wr.heap.size = KX at *
                        refine (VLO.out _).mono ?_
                        rintro r W1 ⟨rfl, bb⟩
                        have Q1 := hide (Q0.out.next bb)
                        clear bb Q0 s0 s1 x0 x1 x2 x3 x4 x5
                        dsimp only
                        obtain ⟨s0, s1, x0, x1, x2, x3, x4, x5⟩ := Q1.out.seen
                        dsimp only at x0 x1 x2 x3 x4 x5
                        go_wp2_with fail
                        refine (VHI.out _).mono ?_
                        rintro r W2 ⟨rfl, bb⟩
                        have Q2 := hide (Q1.out.next bb)
                        clear bb Q1 s0 s1 x0 x1 x2 x3 x4 x5
                        dsimp only
                        obtain ⟨s0, s1, x0, x1, x2, x3, x4, x5⟩ := Q2.out.seen
                        dsimp only at x0 x1 x2 x3 x4 x5
                        go_wp2_with fail
                        refine (CMP.out _).mono ?_
                        rintro r W3 ⟨rfl, bb⟩
                        have Q3 := hide (Q2.out.next bb)
                        clear bb Q2 s0 s1 x0 x1 x2 x3 x4 x5
                        dsimp only
                        obtain ⟨s0, s1, x0, x1, x2, x3, x4, x5⟩ := Q3.out.seen
                        dsimp only at x0 x1 x2 x3 x4 x5
                        go_wp2_with fail
                        go_quiet (fail)
                        have QF := hide (Q3.out.next (below_drewN _ _ nq))
                        clear s0 s1 x0 x1 x2 x3 x4 x5
                        go_wp2_with fail
                        go_roundw
                        case rel => exact ⟨i + 1, by omega, by go_num, QF.out.bel, QF.out.box, HSX⟩
                        case measure => simp [intOf]; omega
                      · obtain ⟨j, hj⟩ : ∃ j, i = j + 1 := ⟨i - 1, by omega⟩
                        obtain ⟨y, hmay, y0, y1, y2, y3, y4, y5⟩ := MAY.out j hj
                        have hw1 : IntKind.i64.wrap ((i : Int) - 1) = (j : Int) := by rw [show (i : Int) - 1 = (j : Int) by omega]; exact wrap_nat j (by omega)
                        have hj0 : (0 : Int) ≤ (j : Int) := Int.natCast_nonneg _
                        have hj1 : (j : Int) < (n : Int) := by omega
                        have hposd : decide (0 < i) = true := by simp; omega
                        have hpn : 0 < i := by omega
                        have BEH := fun W => Rbehind_any y ⟨true, lo, li, true, hi, hin⟩ W
                        unfold mV at BEH
                        dsimp only at BEH
                        rw [← hmay] at BEH
                        replace BEH := hide BEH
                        clear hj hi0 hmay
                        cases M1 with
                        | true =>
                          have HSX : Hid (S = okQ (ms.take (i + 1)) (ms.drop (i + 1))) := by show _ = _; rw [HS1.out, HOK.out]; simp
                          have Q0 := hide (Sn.start (t := t) (a := some ⟨b1, o1, none⟩) (n := n) (c := c) ⟨true, lo, li, true, hi, hin⟩ HB.out HX.out)
                          obtain ⟨s0, s1, x0, x1, x2, x3, x4, x5⟩ := Q0.out.seen
                          dsimp only at x0 x1 x2 x3 x4 x5
                          go_wp2_with fail
                          generalize wr.alloc (.cells #[.bool true, .string (ofL lo), .bool li, .bool true, .string (ofL hi), .bool hin] 54) = W0 at *
                          generalize wr.heap.size = KX at *
                          refine (VLO.out _).mono ?_
                          rintro r W1 ⟨rfl, bb⟩
                          have Q1 := hide (Q0.out.next bb)
                          clear bb Q0 s0 s1 x0 x1 x2 x3 x4 x5
                          dsimp only
                          obtain ⟨s0, s1, x0, x1, x2, x3, x4, x5⟩ := Q1.out.seen
                          dsimp only at x0 x1 x2 x3 x4 x5
                          go_wp2_with fail
                          refine (VHI.out _).mono ?_
                          rintro r W2 ⟨rfl, bb⟩
                          have Q2 := hide (Q1.out.next bb)
                          clear bb Q1 s0 s1 x0 x1 x2 x3 x4 x5
                          dsimp only
                          obtain ⟨s0, s1, x0, x1, x2, x3, x4, x5⟩ := Q2.out.seen
                          dsimp only at x0 x1 x2 x3 x4 x5
                          go_wp2_with fail
                          refine (CMP.out _).mono ?_
                          rintro r W3 ⟨rfl, bb⟩
                          have Q3 := hide (Q2.out.next bb)
                          clear bb Q2 s0 s1 x0 x1 x2 x3 x4 x5
                          dsimp only
                          obtain ⟨s0, s1, x0, x1, x2, x3, x4, x5⟩ := Q3.out.seen
                          dsimp only at x0 x1 x2 x3 x4 x5
                          go_wp2_with fail
                          replace y0 := cell_on y0 Q3.out.bel
                          replace y1 := cell_on y1 Q3.out.bel
                          replace y2 := cell_on y2 Q3.out.bel
                          replace y3 := cell_on y3 Q3.out.bel
                          replace y4 := cell_on y4 Q3.out.bel
                          replace y5 := cell_on y5 Q3.out.bel
                          go_region_held3 (fun W' => W'.cell? ⟨w.heap.size, 1, none⟩ = some (.slice (some ⟨b1, o1, none⟩) n c) ∧ W'.cell? ⟨b1, o1 + j * 6, none⟩ = some (.bool y.hasLo) ∧ W'.cell? ⟨b1, o1 + j * 6 + 1, none⟩ = some (.string (ofL y.lo)) ∧ W'.cell? ⟨b1, o1 + j * 6 + 2, none⟩ = some (.bool y.loIn) ∧ W'.cell? ⟨b1, o1 + j * 6 + 3, none⟩ = some (.bool y.hasHi) ∧ W'.cell? ⟨b1, o1 + j * 6 + 4, none⟩ = some (.string (ofL y.hi)) ∧ W'.cell? ⟨b1, o1 + j * 6 + 5, none⟩ = some (.bool y.hiIn) ∧ W'.cell? ⟨KX, 0, none⟩ = some (.bool true) ∧ W'.cell? ⟨KX, 1, none⟩ = some (.string (ofL lo)) ∧ W'.cell? ⟨KX, 2, none⟩ = some (.bool li) ∧ W'.cell? ⟨KX, 3, none⟩ = some (.bool true) ∧ W'.cell? ⟨KX, 4, none⟩ = some (.string (ofL hi)) ∧ W'.cell? ⟨KX, 5, none⟩ = some (.bool hin)) (go_keep) ((go_at_call 54; refine (BEH.out _).mono ?_; rintro r WY ⟨rfl, b7⟩; have s1' := cell_on (W := W3.drew) s1 b7; have y0' := cell_on (W := W3.drew) y0 b7; have y1' := cell_on (W := W3.drew) y1 b7; have y2' := cell_on (W := W3.drew) y2 b7; have y3' := cell_on (W := W3.drew) y3 b7; have y4' := cell_on (W := W3.drew) y4 b7; have y5' := cell_on (W := W3.drew) y5 b7; have x0' := cell_on (W := W3.drew) x0 b7; have x1' := cell_on (W := W3.drew) x1 b7; have x2' := cell_on (W := W3.drew) x2 b7; have x3' := cell_on (W := W3.drew) x3 b7; have x4' := cell_on (W := W3.drew) x4 b7; have x5' := cell_on (W := W3.drew) x5 b7))
                          have QF := hide ((Q3.out.next (drew_below _ _)).next b7)
                          clear b7 s0 s1 x0 x1 x2 x3 x4 x5 y0 y1 y2 y3 y4 y5 s1' y0' y1' y2' y3' y4' y5' x0' x1' x2' x3' x4' x5' Q3
                          go_wp2_with fail
                          go_roundw
                          case rel => exact ⟨i + 1, by omega, by go_num, QF.out.bel, QF.out.box, HSX⟩
                          case measure => simp [intOf]; omega
                        | false =>
                          have HSX : Hid (S = false) := by show _ = _; rw [HS1.out, HOK.out]; simp
                          have Q0 := hide (Sn.start (t := t) (a := some ⟨b1, o1, none⟩) (n := n) (c := c) ⟨true, lo, li, true, hi, hin⟩ HB.out HX.out)
                          obtain ⟨s0, s1, x0, x1, x2, x3, x4, x5⟩ := Q0.out.seen
                          dsimp only at x0 x1 x2 x3 x4 x5
                          go_wp2_with fail
                          generalize wr.alloc (.cells #[.bool true, .string (ofL lo), .bool li, .bool true, .string (ofL hi), .bool hin] 54) = W0 at *
                          generalize wr.heap.size = KX at *
                          refine (VLO.out _).mono ?_
                          rintro r W1 ⟨rfl, bb⟩
                          have Q1 := hide (Q0.out.next bb)
                          clear bb Q0 s0 s1 x0 x1 x2 x3 x4 x5
                          dsimp only
                          obtain ⟨s0, s1, x0, x1, x2, x3, x4, x5⟩ := Q1.out.seen
                          dsimp only at x0 x1 x2 x3 x4 x5
                          go_wp2_with fail
                          refine (VHI.out _).mono ?_
                          rintro r W2 ⟨rfl, bb⟩
                          have Q2 := hide (Q1.out.next bb)
                          clear bb Q1 s0 s1 x0 x1 x2 x3 x4 x5
                          dsimp only
                          obtain ⟨s0, s1, x0, x1, x2, x3, x4, x5⟩ := Q2.out.seen
                          dsimp only at x0 x1 x2 x3 x4 x5
                          go_wp2_with fail
                          refine (CMP.out _).mono ?_
                          rintro r W3 ⟨rfl, bb⟩
                          have Q3 := hide (Q2.out.next bb)
                          clear bb Q2 s0 s1 x0 x1 x2 x3 x4 x5
                          dsimp only
                          obtain ⟨s0, s1, x0, x1, x2, x3, x4, x5⟩ := Q3.out.seen
                          dsimp only at x0 x1 x2 x3 x4 x5
                          go_wp2_with fail
                          replace y0 := cell_on y0 Q3.out.bel
                          replace y1 := cell_on y1 Q3.out.bel
                          replace y2 := cell_on y2 Q3.out.bel
                          replace y3 := cell_on y3 Q3.out.bel
                          replace y4 := cell_on y4 Q3.out.bel
                          replace y5 := cell_on y5 Q3.out.bel
                          go_region_held3 (fun W' => W'.cell? ⟨w.heap.size, 1, none⟩ = some (.slice (some ⟨b1, o1, none⟩) n c) ∧ W'.cell? ⟨b1, o1 + j * 6, none⟩ = some (.bool y.hasLo) ∧ W'.cell? ⟨b1, o1 + j * 6 + 1, none⟩ = some (.string (ofL y.lo)) ∧ W'.cell? ⟨b1, o1 + j * 6 + 2, none⟩ = some (.bool y.loIn) ∧ W'.cell? ⟨b1, o1 + j * 6 + 3, none⟩ = some (.bool y.hasHi) ∧ W'.cell? ⟨b1, o1 + j * 6 + 4, none⟩ = some (.string (ofL y.hi)) ∧ W'.cell? ⟨b1, o1 + j * 6 + 5, none⟩ = some (.bool y.hiIn) ∧ W'.cell? ⟨KX, 0, none⟩ = some (.bool true) ∧ W'.cell? ⟨KX, 1, none⟩ = some (.string (ofL lo)) ∧ W'.cell? ⟨KX, 2, none⟩ = some (.bool li) ∧ W'.cell? ⟨KX, 3, none⟩ = some (.bool true) ∧ W'.cell? ⟨KX, 4, none⟩ = some (.string (ofL hi)) ∧ W'.cell? ⟨KX, 5, none⟩ = some (.bool hin)) (go_keep) ((go_at_call 54; refine (BEH.out _).mono ?_; rintro r WY ⟨rfl, b7⟩; have s1' := cell_on (W := W3.drew) s1 b7; have y0' := cell_on (W := W3.drew) y0 b7; have y1' := cell_on (W := W3.drew) y1 b7; have y2' := cell_on (W := W3.drew) y2 b7; have y3' := cell_on (W := W3.drew) y3 b7; have y4' := cell_on (W := W3.drew) y4 b7; have y5' := cell_on (W := W3.drew) y5 b7; have x0' := cell_on (W := W3.drew) x0 b7; have x1' := cell_on (W := W3.drew) x1 b7; have x2' := cell_on (W := W3.drew) x2 b7; have x3' := cell_on (W := W3.drew) x3 b7; have x4' := cell_on (W := W3.drew) x4 b7; have x5' := cell_on (W := W3.drew) x5 b7))
                          have QF := hide ((Q3.out.next (drew_below _ _)).next b7)
                          clear b7 s0 s1 x0 x1 x2 x3 x4 x5 y0 y1 y2 y3 y4 y5 s1' y0' y1' y2' y3' y4' y5' x0' x1' x2' x3' x4' x5' Q3
                          go_wp2_with fail
                          go_ret
                          exact ⟨by rw [HSX.out]; rfl, QF.out.bel⟩
                    · subst hc
                      cases li <;> cases hin
                      · skip
                        have HSX : Hid (S = false) := by show _ = _; rw [HS1.out, HOK.out]; simp
                        have Q0 := hide (Sn.start (t := t) (a := some ⟨b1, o1, none⟩) (n := n) (c := c) ⟨true, lo, false, true, hi, false⟩ HB.out HX.out)
                        obtain ⟨s0, s1, x0, x1, x2, x3, x4, x5⟩ := Q0.out.seen
                        dsimp only at x0 x1 x2 x3 x4 x5
                        go_wp2_with fail
                        generalize wr.alloc (.cells #[.bool true, .string (ofL lo), .bool false, .bool true, .string (ofL hi), .bool false] 54) = W0 at *
                        generalize wr.heap.size = KX at *
                        refine (VLO.out _).mono ?_
                        rintro r W1 ⟨rfl, bb⟩
                        have Q1 := hide (Q0.out.next bb)
                        clear bb Q0 s0 s1 x0 x1 x2 x3 x4 x5
                        dsimp only
                        obtain ⟨s0, s1, x0, x1, x2, x3, x4, x5⟩ := Q1.out.seen
                        dsimp only at x0 x1 x2 x3 x4 x5
                        go_wp2_with fail
                        refine (VHI.out _).mono ?_
                        rintro r W2 ⟨rfl, bb⟩
                        have Q2 := hide (Q1.out.next bb)
                        clear bb Q1 s0 s1 x0 x1 x2 x3 x4 x5
                        dsimp only
                        obtain ⟨s0, s1, x0, x1, x2, x3, x4, x5⟩ := Q2.out.seen
                        dsimp only at x0 x1 x2 x3 x4 x5
                        go_wp2_with fail
                        refine (CMP.out _).mono ?_
                        rintro r W3 ⟨rfl, bb⟩
                        have Q3 := hide (Q2.out.next bb)
                        clear bb Q2 s0 s1 x0 x1 x2 x3 x4 x5
                        dsimp only
                        obtain ⟨s0, s1, x0, x1, x2, x3, x4, x5⟩ := Q3.out.seen
                        dsimp only at x0 x1 x2 x3 x4 x5
                        go_wp2_with fail
                        go_ret
                        exact ⟨by rw [HSX.out]; rfl, Q3.out.bel⟩
                      · skip
                        have HSX : Hid (S = false) := by show _ = _; rw [HS1.out, HOK.out]; simp
                        have Q0 := hide (Sn.start (t := t) (a := some ⟨b1, o1, none⟩) (n := n) (c := c) ⟨true, lo, false, true, hi, true⟩ HB.out HX.out)
                        obtain ⟨s0, s1, x0, x1, x2, x3, x4, x5⟩ := Q0.out.seen
                        dsimp only at x0 x1 x2 x3 x4 x5
                        go_wp2_with fail
                        generalize wr.alloc (.cells #[.bool true, .string (ofL lo), .bool false, .bool true, .string (ofL hi), .bool true] 54) = W0 at *
                        generalize wr.heap.size = KX at *
                        refine (VLO.out _).mono ?_
                        rintro r W1 ⟨rfl, bb⟩
                        have Q1 := hide (Q0.out.next bb)
                        clear bb Q0 s0 s1 x0 x1 x2 x3 x4 x5
                        dsimp only
                        obtain ⟨s0, s1, x0, x1, x2, x3, x4, x5⟩ := Q1.out.seen
                        dsimp only at x0 x1 x2 x3 x4 x5
                        go_wp2_with fail
                        refine (VHI.out _).mono ?_
                        rintro r W2 ⟨rfl, bb⟩
                        have Q2 := hide (Q1.out.next bb)
                        clear bb Q1 s0 s1 x0 x1 x2 x3 x4 x5
                        dsimp only
                        obtain ⟨s0, s1, x0, x1, x2, x3, x4, x5⟩ := Q2.out.seen
                        dsimp only at x0 x1 x2 x3 x4 x5
                        go_wp2_with fail
                        refine (CMP.out _).mono ?_
                        rintro r W3 ⟨rfl, bb⟩
                        have Q3 := hide (Q2.out.next bb)
                        clear bb Q2 s0 s1 x0 x1 x2 x3 x4 x5
                        dsimp only
                        obtain ⟨s0, s1, x0, x1, x2, x3, x4, x5⟩ := Q3.out.seen
                        dsimp only at x0 x1 x2 x3 x4 x5
                        go_wp2_with fail
                        go_ret
                        exact ⟨by rw [HSX.out]; rfl, Q3.out.bel⟩
                      · skip
                        have HSX : Hid (S = false) := by show _ = _; rw [HS1.out, HOK.out]; simp
                        have Q0 := hide (Sn.start (t := t) (a := some ⟨b1, o1, none⟩) (n := n) (c := c) ⟨true, lo, true, true, hi, false⟩ HB.out HX.out)
                        obtain ⟨s0, s1, x0, x1, x2, x3, x4, x5⟩ := Q0.out.seen
                        dsimp only at x0 x1 x2 x3 x4 x5
                        go_wp2_with fail
                        generalize wr.alloc (.cells #[.bool true, .string (ofL lo), .bool true, .bool true, .string (ofL hi), .bool false] 54) = W0 at *
                        generalize wr.heap.size = KX at *
                        refine (VLO.out _).mono ?_
                        rintro r W1 ⟨rfl, bb⟩
                        have Q1 := hide (Q0.out.next bb)
                        clear bb Q0 s0 s1 x0 x1 x2 x3 x4 x5
                        dsimp only
                        obtain ⟨s0, s1, x0, x1, x2, x3, x4, x5⟩ := Q1.out.seen
                        dsimp only at x0 x1 x2 x3 x4 x5
                        go_wp2_with fail
                        refine (VHI.out _).mono ?_
                        rintro r W2 ⟨rfl, bb⟩
                        have Q2 := hide (Q1.out.next bb)
                        clear bb Q1 s0 s1 x0 x1 x2 x3 x4 x5
                        dsimp only
                        obtain ⟨s0, s1, x0, x1, x2, x3, x4, x5⟩ := Q2.out.seen
                        dsimp only at x0 x1 x2 x3 x4 x5
                        go_wp2_with fail
                        refine (CMP.out _).mono ?_
                        rintro r W3 ⟨rfl, bb⟩
                        have Q3 := hide (Q2.out.next bb)
                        clear bb Q2 s0 s1 x0 x1 x2 x3 x4 x5
                        dsimp only
                        obtain ⟨s0, s1, x0, x1, x2, x3, x4, x5⟩ := Q3.out.seen
                        dsimp only at x0 x1 x2 x3 x4 x5
                        go_wp2_with fail
                        go_ret
                        exact ⟨by rw [HSX.out]; rfl, Q3.out.bel⟩
                      · skip
                        by_cases hi0 : i = 0
                        · have hM1 := HM0.out hi0
                          subst hM1
                          have hposd : decide (0 < i) = false := by simp; omega
                          have hpos0 : ¬ (0 : Int) < (i : Int) := by omega
                          have HSX : Hid (S = okQ (ms.take (i + 1)) (ms.drop (i + 1))) := by show _ = _; rw [HS1.out, HOK.out]; simp
                          clear hi0
                          have Q0 := hide (Sn.start (t := t) (a := some ⟨b1, o1, none⟩) (n := n) (c := c) ⟨true, lo, true, true, hi, true⟩ HB.out HX.out)
                          obtain ⟨s0, s1, x0, x1, x2, x3, x4, x5⟩ := Q0.out.seen
                          dsimp only at x0 x1 x2 x3 x4 x5
                          go_wp2_with fail
                          generalize wr.alloc (.cells #[.bool true, .string (ofL lo), .bool true, .bool true, .string (ofL hi), .bool true] 54) = W0 at *
                          generalize wr.heap.size = KX at *
                          refine (VLO.out _).mono ?_
                          rintro r W1 ⟨rfl, bb⟩
                          have Q1 := hide (Q0.out.next bb)
                          clear bb Q0 s0 s1 x0 x1 x2 x3 x4 x5
                          dsimp only
                          obtain ⟨s0, s1, x0, x1, x2, x3, x4, x5⟩ := Q1.out.seen
                          dsimp only at x0 x1 x2 x3 x4 x5
                          go_wp2_with fail
                          refine (VHI.out _).mono ?_
                          rintro r W2 ⟨rfl, bb⟩
                          have Q2 := hide (Q1.out.next bb)
                          clear bb Q1 s0 s1 x0 x1 x2 x3 x4 x5
                          dsimp only
                          obtain ⟨s0, s1, x0, x1, x2, x3, x4, x5⟩ := Q2.out.seen
                          dsimp only at x0 x1 x2 x3 x4 x5
                          go_wp2_with fail
                          refine (CMP.out _).mono ?_
                          rintro r W3 ⟨rfl, bb⟩
                          have Q3 := hide (Q2.out.next bb)
                          clear bb Q2 s0 s1 x0 x1 x2 x3 x4 x5
                          dsimp only
                          obtain ⟨s0, s1, x0, x1, x2, x3, x4, x5⟩ := Q3.out.seen
                          dsimp only at x0 x1 x2 x3 x4 x5
                          go_wp2_with fail
                          go_quiet (fail)
                          have QF := hide (Q3.out.next (below_drewN _ _ nq))
                          clear s0 s1 x0 x1 x2 x3 x4 x5
                          go_wp2_with fail
                          go_roundw
                          case rel => exact ⟨i + 1, by omega, by go_num, QF.out.bel, QF.out.box, HSX⟩
                          case measure => simp [intOf]; omega
                        · obtain ⟨j, hj⟩ : ∃ j, i = j + 1 := ⟨i - 1, by omega⟩
                          obtain ⟨y, hmay, y0, y1, y2, y3, y4, y5⟩ := MAY.out j hj
                          have hw1 : IntKind.i64.wrap ((i : Int) - 1) = (j : Int) := by rw [show (i : Int) - 1 = (j : Int) by omega]; exact wrap_nat j (by omega)
                          have hj0 : (0 : Int) ≤ (j : Int) := Int.natCast_nonneg _
                          have hj1 : (j : Int) < (n : Int) := by omega
                          have hposd : decide (0 < i) = true := by simp; omega
                          have hpn : 0 < i := by omega
                          have BEH := fun W => Rbehind_any y ⟨true, lo, true, true, hi, true⟩ W
                          unfold mV at BEH
                          dsimp only at BEH
                          rw [← hmay] at BEH
                          replace BEH := hide BEH
                          clear hj hi0 hmay
                          cases M1 with
                          | true =>
                            have HSX : Hid (S = okQ (ms.take (i + 1)) (ms.drop (i + 1))) := by show _ = _; rw [HS1.out, HOK.out]; simp
                            have Q0 := hide (Sn.start (t := t) (a := some ⟨b1, o1, none⟩) (n := n) (c := c) ⟨true, lo, true, true, hi, true⟩ HB.out HX.out)
                            obtain ⟨s0, s1, x0, x1, x2, x3, x4, x5⟩ := Q0.out.seen
                            dsimp only at x0 x1 x2 x3 x4 x5
                            go_wp2_with fail
                            generalize wr.alloc (.cells #[.bool true, .string (ofL lo), .bool true, .bool true, .string (ofL hi), .bool true] 54) = W0 at *
                            generalize wr.heap.size = KX at *
                            refine (VLO.out _).mono ?_
                            rintro r W1 ⟨rfl, bb⟩
                            have Q1 := hide (Q0.out.next bb)
                            clear bb Q0 s0 s1 x0 x1 x2 x3 x4 x5
                            dsimp only
                            obtain ⟨s0, s1, x0, x1, x2, x3, x4, x5⟩ := Q1.out.seen
                            dsimp only at x0 x1 x2 x3 x4 x5
                            go_wp2_with fail
                            refine (VHI.out _).mono ?_
                            rintro r W2 ⟨rfl, bb⟩
                            have Q2 := hide (Q1.out.next bb)
                            clear bb Q1 s0 s1 x0 x1 x2 x3 x4 x5
                            dsimp only
                            obtain ⟨s0, s1, x0, x1, x2, x3, x4, x5⟩ := Q2.out.seen
                            dsimp only at x0 x1 x2 x3 x4 x5
                            go_wp2_with fail
                            refine (CMP.out _).mono ?_
                            rintro r W3 ⟨rfl, bb⟩
                            have Q3 := hide (Q2.out.next bb)
                            clear bb Q2 s0 s1 x0 x1 x2 x3 x4 x5
                            dsimp only
                            obtain ⟨s0, s1, x0, x1, x2, x3, x4, x5⟩ := Q3.out.seen
                            dsimp only at x0 x1 x2 x3 x4 x5
                            go_wp2_with fail
                            replace y0 := cell_on y0 Q3.out.bel
                            replace y1 := cell_on y1 Q3.out.bel
                            replace y2 := cell_on y2 Q3.out.bel
                            replace y3 := cell_on y3 Q3.out.bel
                            replace y4 := cell_on y4 Q3.out.bel
                            replace y5 := cell_on y5 Q3.out.bel
                            go_region_held3 (fun W' => W'.cell? ⟨w.heap.size, 1, none⟩ = some (.slice (some ⟨b1, o1, none⟩) n c) ∧ W'.cell? ⟨b1, o1 + j * 6, none⟩ = some (.bool y.hasLo) ∧ W'.cell? ⟨b1, o1 + j * 6 + 1, none⟩ = some (.string (ofL y.lo)) ∧ W'.cell? ⟨b1, o1 + j * 6 + 2, none⟩ = some (.bool y.loIn) ∧ W'.cell? ⟨b1, o1 + j * 6 + 3, none⟩ = some (.bool y.hasHi) ∧ W'.cell? ⟨b1, o1 + j * 6 + 4, none⟩ = some (.string (ofL y.hi)) ∧ W'.cell? ⟨b1, o1 + j * 6 + 5, none⟩ = some (.bool y.hiIn) ∧ W'.cell? ⟨KX, 0, none⟩ = some (.bool true) ∧ W'.cell? ⟨KX, 1, none⟩ = some (.string (ofL lo)) ∧ W'.cell? ⟨KX, 2, none⟩ = some (.bool true) ∧ W'.cell? ⟨KX, 3, none⟩ = some (.bool true) ∧ W'.cell? ⟨KX, 4, none⟩ = some (.string (ofL hi)) ∧ W'.cell? ⟨KX, 5, none⟩ = some (.bool true)) (go_keep) ((go_at_call 54; refine (BEH.out _).mono ?_; rintro r WY ⟨rfl, b7⟩; have s1' := cell_on (W := W3.drew) s1 b7; have y0' := cell_on (W := W3.drew) y0 b7; have y1' := cell_on (W := W3.drew) y1 b7; have y2' := cell_on (W := W3.drew) y2 b7; have y3' := cell_on (W := W3.drew) y3 b7; have y4' := cell_on (W := W3.drew) y4 b7; have y5' := cell_on (W := W3.drew) y5 b7; have x0' := cell_on (W := W3.drew) x0 b7; have x1' := cell_on (W := W3.drew) x1 b7; have x2' := cell_on (W := W3.drew) x2 b7; have x3' := cell_on (W := W3.drew) x3 b7; have x4' := cell_on (W := W3.drew) x4 b7; have x5' := cell_on (W := W3.drew) x5 b7))
                            have QF := hide ((Q3.out.next (drew_below _ _)).next b7)
                            clear b7 s0 s1 x0 x1 x2 x3 x4 x5 y0 y1 y2 y3 y4 y5 s1' y0' y1' y2' y3' y4' y5' x0' x1' x2' x3' x4' x5' Q3
                            go_wp2_with fail
                            go_roundw
                            case rel => exact ⟨i + 1, by omega, by go_num, QF.out.bel, QF.out.box, HSX⟩
                            case measure => simp [intOf]; omega
                          | false =>
                            have HSX : Hid (S = false) := by show _ = _; rw [HS1.out, HOK.out]; simp
                            have Q0 := hide (Sn.start (t := t) (a := some ⟨b1, o1, none⟩) (n := n) (c := c) ⟨true, lo, true, true, hi, true⟩ HB.out HX.out)
                            obtain ⟨s0, s1, x0, x1, x2, x3, x4, x5⟩ := Q0.out.seen
                            dsimp only at x0 x1 x2 x3 x4 x5
                            go_wp2_with fail
                            generalize wr.alloc (.cells #[.bool true, .string (ofL lo), .bool true, .bool true, .string (ofL hi), .bool true] 54) = W0 at *
                            generalize wr.heap.size = KX at *
                            refine (VLO.out _).mono ?_
                            rintro r W1 ⟨rfl, bb⟩
                            have Q1 := hide (Q0.out.next bb)
                            clear bb Q0 s0 s1 x0 x1 x2 x3 x4 x5
                            dsimp only
                            obtain ⟨s0, s1, x0, x1, x2, x3, x4, x5⟩ := Q1.out.seen
                            dsimp only at x0 x1 x2 x3 x4 x5
                            go_wp2_with fail
                            refine (VHI.out _).mono ?_
                            rintro r W2 ⟨rfl, bb⟩
                            have Q2 := hide (Q1.out.next bb)
                            clear bb Q1 s0 s1 x0 x1 x2 x3 x4 x5
                            dsimp only
                            obtain ⟨s0, s1, x0, x1, x2, x3, x4, x5⟩ := Q2.out.seen
                            dsimp only at x0 x1 x2 x3 x4 x5
                            go_wp2_with fail
                            refine (CMP.out _).mono ?_
                            rintro r W3 ⟨rfl, bb⟩
                            have Q3 := hide (Q2.out.next bb)
                            clear bb Q2 s0 s1 x0 x1 x2 x3 x4 x5
                            dsimp only
                            obtain ⟨s0, s1, x0, x1, x2, x3, x4, x5⟩ := Q3.out.seen
                            dsimp only at x0 x1 x2 x3 x4 x5
                            go_wp2_with fail
                            replace y0 := cell_on y0 Q3.out.bel
                            replace y1 := cell_on y1 Q3.out.bel
                            replace y2 := cell_on y2 Q3.out.bel
                            replace y3 := cell_on y3 Q3.out.bel
                            replace y4 := cell_on y4 Q3.out.bel
                            replace y5 := cell_on y5 Q3.out.bel
                            go_region_held3 (fun W' => W'.cell? ⟨w.heap.size, 1, none⟩ = some (.slice (some ⟨b1, o1, none⟩) n c) ∧ W'.cell? ⟨b1, o1 + j * 6, none⟩ = some (.bool y.hasLo) ∧ W'.cell? ⟨b1, o1 + j * 6 + 1, none⟩ = some (.string (ofL y.lo)) ∧ W'.cell? ⟨b1, o1 + j * 6 + 2, none⟩ = some (.bool y.loIn) ∧ W'.cell? ⟨b1, o1 + j * 6 + 3, none⟩ = some (.bool y.hasHi) ∧ W'.cell? ⟨b1, o1 + j * 6 + 4, none⟩ = some (.string (ofL y.hi)) ∧ W'.cell? ⟨b1, o1 + j * 6 + 5, none⟩ = some (.bool y.hiIn) ∧ W'.cell? ⟨KX, 0, none⟩ = some (.bool true) ∧ W'.cell? ⟨KX, 1, none⟩ = some (.string (ofL lo)) ∧ W'.cell? ⟨KX, 2, none⟩ = some (.bool true) ∧ W'.cell? ⟨KX, 3, none⟩ = some (.bool true) ∧ W'.cell? ⟨KX, 4, none⟩ = some (.string (ofL hi)) ∧ W'.cell? ⟨KX, 5, none⟩ = some (.bool true)) (go_keep) ((go_at_call 54; refine (BEH.out _).mono ?_; rintro r WY ⟨rfl, b7⟩; have s1' := cell_on (W := W3.drew) s1 b7; have y0' := cell_on (W := W3.drew) y0 b7; have y1' := cell_on (W := W3.drew) y1 b7; have y2' := cell_on (W := W3.drew) y2 b7; have y3' := cell_on (W := W3.drew) y3 b7; have y4' := cell_on (W := W3.drew) y4 b7; have y5' := cell_on (W := W3.drew) y5 b7; have x0' := cell_on (W := W3.drew) x0 b7; have x1' := cell_on (W := W3.drew) x1 b7; have x2' := cell_on (W := W3.drew) x2 b7; have x3' := cell_on (W := W3.drew) x3 b7; have x4' := cell_on (W := W3.drew) x4 b7; have x5' := cell_on (W := W3.drew) x5 b7))
                            have QF := hide ((Q3.out.next (drew_below _ _)).next b7)
                            clear b7 s0 s1 x0 x1 x2 x3 x4 x5 y0 y1 y2 y3 y4 y5 s1' y0' y1' y2' y3' y4' y5' x0' x1' x2' x3' x4' x5' Q3
                            go_wp2_with fail
                            go_ret
                            exact ⟨by rw [HSX.out]; rfl, QF.out.bel⟩
                    · have hc2 : (C == 0) = false := by simp; omega
                      have hcd : decide (C < 0) = false := by simp; omega
                      have hcd2 : decide (C = 0) = false := by simp; omega
                      rw [hcd, hcd2] at HOK
                      clear hcd hcd2
                      have HSX : Hid (S = false) := by show _ = _; rw [HS1.out, HOK.out]; simp
                      have Q0 := hide (Sn.start (t := t) (a := some ⟨b1, o1, none⟩) (n := n) (c := c) ⟨true, lo, li, true, hi, hin⟩ HB.out HX.out)
                      obtain ⟨s0, s1, x0, x1, x2, x3, x4, x5⟩ := Q0.out.seen
                      dsimp only at x0 x1 x2 x3 x4 x5
                      go_wp2_with fail
                      generalize wr.alloc (.cells #[.bool true, .string (ofL lo), .bool li, .bool true, .string (ofL hi), .bool hin] 54) = W0 at *
                      generalize wr.heap.size = KX at *
                      refine (VLO.out _).mono ?_
                      rintro r W1 ⟨rfl, bb⟩
                      have Q1 := hide (Q0.out.next bb)
                      clear bb Q0 s0 s1 x0 x1 x2 x3 x4 x5
                      dsimp only
                      obtain ⟨s0, s1, x0, x1, x2, x3, x4, x5⟩ := Q1.out.seen
                      dsimp only at x0 x1 x2 x3 x4 x5
                      go_wp2_with fail
                      refine (VHI.out _).mono ?_
                      rintro r W2 ⟨rfl, bb⟩
                      have Q2 := hide (Q1.out.next bb)
                      clear bb Q1 s0 s1 x0 x1 x2 x3 x4 x5
                      dsimp only
                      obtain ⟨s0, s1, x0, x1, x2, x3, x4, x5⟩ := Q2.out.seen
                      dsimp only at x0 x1 x2 x3 x4 x5
                      go_wp2_with fail
                      refine (CMP.out _).mono ?_
                      rintro r W3 ⟨rfl, bb⟩
                      have Q3 := hide (Q2.out.next bb)
                      clear bb Q2 s0 s1 x0 x1 x2 x3 x4 x5
                      dsimp only
                      obtain ⟨s0, s1, x0, x1, x2, x3, x4, x5⟩ := Q3.out.seen
                      dsimp only at x0 x1 x2 x3 x4 x5
                      go_wp2_with fail
                      go_ret
                      exact ⟨by rw [HSX.out]; rfl, Q3.out.bel⟩
          · have hlt' : ¬ (i : Int) < (n : Int) := by omega
            have hS : S = true := by
              rw [HS.out, List.drop_eq_nil_of_le (by rw [HN.out]; omega)]
              rfl
            have HS2 := hide hS
            clear hS
            go_wp2_with fail
            go_ret
            exact ⟨by rw [HS2.out]; rfl, HB.out⟩
      · have h32' : (32 : Int) < (n : Int) := by omega
        have HS : Hid (S = false) := by show _ = _; rw [HS0.out, decide_eq_false h32]; rfl
        go_enter Tryz.func32, Tryz.ntmps32
        go_wp2_with fail
        go_ret
        exact ⟨by rw [HS.out]; rfl, B0.out⟩

end Go.Proofs.YtpedljmpobhimaaGreatDoor

/-
  Walks: the document's text of a requirement.
-/
namespace Go.Proofs.YtpedljmpobhimaaGreatDoor
open Go.RowKit Go.Shelf
set_option linter.unusedVariables false

theorem wrJ_snoc : ∀ (ms : List Mr) (m : Mr), wrJ (ms ++ [m]) = if ms = [] then wrR m else wrJ ms ++ 44 :: wrR m
  | [], m => rfl
  | [x], m => by simp [wrJ]
  | x :: y :: r, m => by
    have ih := wrJ_snoc (y :: r) m
    show wrR x ++ 44 :: wrJ ((y :: r) ++ [m]) = _
    rw [ih, if_neg (by simp), if_neg (by simp)]
    simp [wrJ]
theorem wrJ_take (ms : List Mr) (i : Nat) (h : i < ms.length) : wrJ (ms.take (i + 1)) = if i = 0 then wrR ms[i] else wrJ (ms.take i) ++ 44 :: wrR ms[i] := by
  rw [List.take_succ_eq_append_getElem h, wrJ_snoc]
  by_cases h0 : i = 0
  · subst h0
    rfl
  · rw [if_neg h0, if_neg]
    intro e
    have := congrArg List.length e
    rw [List.length_take, List.length_nil] at this
    omega
theorem Rbr (k : Bool) (x y : UInt8) : ∃ B : ByteArray, (∀ W, Calls Tryz.prog 57 #[.bool k, .string ⟨#[x]⟩, .string ⟨#[y]⟩] W fun e w' => e = .returned (.string B) ∧ w' = W) ∧ B.size = 1 ∧ B.data.toList = [if k then x else y] := by
  cases k
  · exact ⟨⟨#[y]⟩, fun W => Rbracket_any false ⟨#[x]⟩ ⟨#[y]⟩ W, rfl, rfl⟩
  · exact ⟨⟨#[x]⟩, fun W => Rbracket_any true ⟨#[x]⟩ ⟨#[y]⟩ W, rfl, rfl⟩

set_option maxRecDepth 100000 in
set_option maxHeartbeats 16000000 in
theorem Rraw_any (t : List UInt8) (a : Option Addr) (n c : Nat) (ms : List Mr) (w : World) (hv : Mrs w (.slice a n c) ms) (hs : Small ms) :
    Calls Tryz.prog 33 #[.agg #[.string (ofL t), .slice a n c]] w fun e w' => e = .returned (.string (ofL (rawL t ms))) ∧ Below w.heap.size w w' := by
  have HN := hide (mrs_n hv)
  have hn : n ≤ 2000000 := by rw [← mrs_n hv]; exact hs.1
  have HV := hide hv
  have HSM := hide hs
  clear hv hs
  have B0 := hide ((Below.refl _ w).alloc (Nat.le_refl _) (.cells #[.string (ofL t), .slice a n c] 24))
  have N0 := hide (World.alloc_heap_new w (.cells #[.string (ofL t), .slice a n c] 24))
  by_cases hn0 : n = 0
  · have hms : ms = [] := List.length_eq_zero_iff.1 (by rw [HN.out]; exact hn0)
    have hS : rawL t ms = t := by unfold rawL; rw [if_pos hms]
    rw [hS]
    clear hS hms
    subst hn0
    go_enter Tryz.func33, Tryz.ntmps33
    go_wp2_with fail
    go_ret
    exact ⟨rfl, B0.out⟩
  · have hnb : ((n : Int) == 0) = false := by simp; omega
    have hms : ms ≠ [] := fun h => hn0 (by rw [← HN.out, h]; rfl)
    have hS : rawL t ms = wrJ ms := by unfold rawL; rw [if_neg hms]
    rw [hS]
    clear hS hms hn0
    go_enter Tryz.func33, Tryz.ntmps33
    go_wp2_with fail
    go_loopw [3, 4] (fun y z wr => ∃ (i : Nat) (T : ByteArray), i ≤ n ∧ y = .string T ∧ z = .int .i64 i ∧ T.size ≤ i * 20000004 ∧ Hid (T.data.toList = wrJ (ms.take i)) ∧ Hid (Below w.heap.size w wr) ∧ Hid (wr.heap[w.heap.size]? = some (.cells #[.string (ofL t), .slice a n c] 24 (0, 0)))) (fun _ z _ => n - (intOf z).toNat)
    case atStart => exact ⟨0, ⟨#[]⟩, by omega, rfl, rfl, Nat.zero_le _, rfl, B0, N0⟩
    case round =>
      clear B0 N0
      obtain ⟨i, T, hin0, rfl, rfl, hTs, HT, HB, HX⟩ := hrel
      have s1 : wr.cell? ⟨w.heap.size, 1, none⟩ = some (.slice a n c) := cell_at 1 HX.out rfl
      by_cases hlt : i < n
      · have hlt' : (i : Int) < (n : Int) := by omega
        have i1 : i < ms.length := by rw [HN.out]; exact hlt
        have hst := wrJ_take ms i i1
        rw [← HT.out] at hst
        have hsm := HSM.out.2 ms[i] (List.getElem_mem i1)
        obtain ⟨b1, o1, rfl, q1, d1⟩ := mrs_at HV.out (by omega)
        obtain ⟨e0, e1, e2, e3, e4, e5⟩ := d1.six i _ (List.getElem?_eq_getElem i1)
        replace e0 := cell_on e0 HB.out
        replace e1 := cell_on e1 HB.out
        replace e2 := cell_on e2 HB.out
        replace e3 := cell_on e3 HB.out
        replace e4 := cell_on e4 HB.out
        replace e5 := cell_on e5 HB.out
        have HST := hide hst
        clear hst d1
        generalize ms[i] = x at *
        clear i1
        obtain ⟨hl, lo, li, hh, hi, hin⟩ := x
        dsimp only at e0 e1 e2 e3 e4 e5 hsm
        obtain ⟨hlo, hhi⟩ := hsm
        have z1 := ofL_size lo
        have z2 := ofL_size hi
        obtain ⟨p1, BR1, zp1, dp1⟩ := Rbr li 91 40
        obtain ⟨p2, BR2, zp2, dp2⟩ := Rbr hin 93 41
        replace BR1 := hide BR1
        replace BR2 := hide BR2
        have DP1 := hide dp1
        have DP2 := hide dp2
        clear dp1 dp2
        have heq : ((ofL lo).toList == (ofL hi).toList) = (lo == hi) := by rw [toL, toL, ofL_data, ofL_data]
        have Q0 := hide (Sn.start (t := t) (a := some ⟨b1, o1, none⟩) (n := n) (c := c) ⟨hl, lo, li, hh, hi, hin⟩ HB.out HX.out)
        generalize hE : (lo == hi) = E at *
        have HE := hide hE
        clear hE
        obtain ⟨s0, s1, x0, x1, x2, x3, x4, x5⟩ := Q0.out.seen
        dsimp only at x0 x1 x2 x3 x4 x5
        by_cases hz0 : i = 0
        · have hpz : ¬ (0 : Int) < (i : Int) := by omega
          have hpn : ¬ 0 < i := by omega
          have HT0 : Hid (T.data.toList = []) := by show _ = _; rw [HT.out, hz0]; rfl
          cases hl with
          | false =>
            obtain ⟨c1, hc1, zc1, dc1⟩ := cat_step T p1
            have Dc1 := hide dc1
            clear dc1
            obtain ⟨c2, hc2, zc2, dc2⟩ := cat_step c1 (ofL lo)
            have Dc2 := hide dc2
            clear dc2
            obtain ⟨c3, hc3, zc3, dc3⟩ := cat_step c2 ⟨#[44]⟩
            have Dc3 := hide dc3
            clear dc3
            obtain ⟨c4, hc4, zc4, dc4⟩ := cat_step c3 (ofL hi)
            have Dc4 := hide dc4
            clear dc4
            obtain ⟨c5, hc5, zc5, dc5⟩ := cat_step c4 p2
            have Dc5 := hide dc5
            clear dc5
            have zl : (⟨#[44]⟩ : ByteArray).size = 1 := rfl
            have hcs : c5.size ≤ (i + 1) * 20000004 := by omega
            have dl : (⟨#[44]⟩ : ByteArray).data.toList = [44] := rfl
            have HC : Hid (c5.data.toList = wrJ (ms.take (i + 1))) := by
              show _ = _
              rw [HST.out]
              rw [Dc5.out, Dc4.out, Dc3.out, Dc2.out, Dc1.out, ofL_data, ofL_data, DP1.out, DP2.out, dl]
              rw [if_pos hz0, HT0.out]
              unfold wrR
              dsimp only
              rw [HE.out]
              simp
            have bc1 : c1.size ≤ 100000000000000 := by omega
            have bc2 : c2.size ≤ 100000000000000 := by omega
            have bc3 : c3.size ≤ 100000000000000 := by omega
            have bc4 : c4.size ≤ 100000000000000 := by omega
            have bc5 : c5.size ≤ 100000000000000 := by omega
            clear Dc1 Dc2 Dc3 Dc4 Dc5 hz0 dl
            go_wp2_with fail
            generalize wr.alloc (.cells #[.bool false, .string (ofL lo), .bool li, .bool hh, .string (ofL hi), .bool hin] 54) = W0 at *
            generalize wr.heap.size = KX at *
            go_quiet (first | (go_at_call 57; exact Calls.quiet_of_same (BR1.out _)) | fail)
            have Q1 := hide (Q0.out.next (below_drewN _ _ nq))
            clear Q0 s0 s1 x0 x1 x2 x3 x4 x5
            generalize W0.drewN nq = W1 at *
            obtain ⟨s0, s1, x0, x1, x2, x3, x4, x5⟩ := Q1.out.seen
            dsimp only at x0 x1 x2 x3 x4 x5
            go_wp2_with fail
            refine (BR2.out _).mono ?_
            rintro r W2 ⟨rfl, hw⟩
            rw [hw]
            clear hw W2
            go_wp2_with fail
            go_roundw
            case rel => exact ⟨i + 1, c5, by omega, rfl, by go_num, hcs, HC, Q1.out.bel, Q1.out.box⟩
            case measure => simp [intOf]; omega
          | true =>
            cases hh with
            | false =>
              obtain ⟨c1, hc1, zc1, dc1⟩ := cat_step T p1
              have Dc1 := hide dc1
              clear dc1
              obtain ⟨c2, hc2, zc2, dc2⟩ := cat_step c1 (ofL lo)
              have Dc2 := hide dc2
              clear dc2
              obtain ⟨c3, hc3, zc3, dc3⟩ := cat_step c2 ⟨#[44]⟩
              have Dc3 := hide dc3
              clear dc3
              obtain ⟨c4, hc4, zc4, dc4⟩ := cat_step c3 (ofL hi)
              have Dc4 := hide dc4
              clear dc4
              obtain ⟨c5, hc5, zc5, dc5⟩ := cat_step c4 p2
              have Dc5 := hide dc5
              clear dc5
              have zl : (⟨#[44]⟩ : ByteArray).size = 1 := rfl
              have hcs : c5.size ≤ (i + 1) * 20000004 := by omega
              have dl : (⟨#[44]⟩ : ByteArray).data.toList = [44] := rfl
              have HC : Hid (c5.data.toList = wrJ (ms.take (i + 1))) := by
                show _ = _
                rw [HST.out]
                rw [Dc5.out, Dc4.out, Dc3.out, Dc2.out, Dc1.out, ofL_data, ofL_data, DP1.out, DP2.out, dl]
                rw [if_pos hz0, HT0.out]
                unfold wrR
                dsimp only
                rw [HE.out]
                simp
              have bc1 : c1.size ≤ 100000000000000 := by omega
              have bc2 : c2.size ≤ 100000000000000 := by omega
              have bc3 : c3.size ≤ 100000000000000 := by omega
              have bc4 : c4.size ≤ 100000000000000 := by omega
              have bc5 : c5.size ≤ 100000000000000 := by omega
              clear Dc1 Dc2 Dc3 Dc4 Dc5 hz0 dl
              go_wp2_with fail
              generalize wr.alloc (.cells #[.bool true, .string (ofL lo), .bool li, .bool false, .string (ofL hi), .bool hin] 54) = W0 at *
              generalize wr.heap.size = KX at *
              go_quiet (first | (go_at_call 57; exact Calls.quiet_of_same (BR1.out _)) | fail)
              have Q1 := hide (Q0.out.next (below_drewN _ _ nq))
              clear Q0 s0 s1 x0 x1 x2 x3 x4 x5
              generalize W0.drewN nq = W1 at *
              obtain ⟨s0, s1, x0, x1, x2, x3, x4, x5⟩ := Q1.out.seen
              dsimp only at x0 x1 x2 x3 x4 x5
              go_wp2_with fail
              refine (BR2.out _).mono ?_
              rintro r W2 ⟨rfl, hw⟩
              rw [hw]
              clear hw W2
              go_wp2_with fail
              go_roundw
              case rel => exact ⟨i + 1, c5, by omega, rfl, by go_num, hcs, HC, Q1.out.bel, Q1.out.box⟩
              case measure => simp [intOf]; omega
            | true =>
              cases li with
              | false =>
                obtain ⟨c1, hc1, zc1, dc1⟩ := cat_step T p1
                have Dc1 := hide dc1
                clear dc1
                obtain ⟨c2, hc2, zc2, dc2⟩ := cat_step c1 (ofL lo)
                have Dc2 := hide dc2
                clear dc2
                obtain ⟨c3, hc3, zc3, dc3⟩ := cat_step c2 ⟨#[44]⟩
                have Dc3 := hide dc3
                clear dc3
                obtain ⟨c4, hc4, zc4, dc4⟩ := cat_step c3 (ofL hi)
                have Dc4 := hide dc4
                clear dc4
                obtain ⟨c5, hc5, zc5, dc5⟩ := cat_step c4 p2
                have Dc5 := hide dc5
                clear dc5
                have zl : (⟨#[44]⟩ : ByteArray).size = 1 := rfl
                have hcs : c5.size ≤ (i + 1) * 20000004 := by omega
                have dl : (⟨#[44]⟩ : ByteArray).data.toList = [44] := rfl
                have HC : Hid (c5.data.toList = wrJ (ms.take (i + 1))) := by
                  show _ = _
                  rw [HST.out]
                  rw [Dc5.out, Dc4.out, Dc3.out, Dc2.out, Dc1.out, ofL_data, ofL_data, DP1.out, DP2.out, dl]
                  rw [if_pos hz0, HT0.out]
                  unfold wrR
                  dsimp only
                  rw [HE.out]
                  simp
                have bc1 : c1.size ≤ 100000000000000 := by omega
                have bc2 : c2.size ≤ 100000000000000 := by omega
                have bc3 : c3.size ≤ 100000000000000 := by omega
                have bc4 : c4.size ≤ 100000000000000 := by omega
                have bc5 : c5.size ≤ 100000000000000 := by omega
                clear Dc1 Dc2 Dc3 Dc4 Dc5 hz0 dl
                go_wp2_with fail
                generalize wr.alloc (.cells #[.bool true, .string (ofL lo), .bool false, .bool true, .string (ofL hi), .bool hin] 54) = W0 at *
                generalize wr.heap.size = KX at *
                go_quiet (first | (go_at_call 57; exact Calls.quiet_of_same (BR1.out _)) | fail)
                have Q1 := hide (Q0.out.next (below_drewN _ _ nq))
                clear Q0 s0 s1 x0 x1 x2 x3 x4 x5
                generalize W0.drewN nq = W1 at *
                obtain ⟨s0, s1, x0, x1, x2, x3, x4, x5⟩ := Q1.out.seen
                dsimp only at x0 x1 x2 x3 x4 x5
                go_wp2_with fail
                refine (BR2.out _).mono ?_
                rintro r W2 ⟨rfl, hw⟩
                rw [hw]
                clear hw W2
                go_wp2_with fail
                go_roundw
                case rel => exact ⟨i + 1, c5, by omega, rfl, by go_num, hcs, HC, Q1.out.bel, Q1.out.box⟩
                case measure => simp [intOf]; omega
              | true =>
                cases hin with
                | false =>
                  obtain ⟨c1, hc1, zc1, dc1⟩ := cat_step T p1
                  have Dc1 := hide dc1
                  clear dc1
                  obtain ⟨c2, hc2, zc2, dc2⟩ := cat_step c1 (ofL lo)
                  have Dc2 := hide dc2
                  clear dc2
                  obtain ⟨c3, hc3, zc3, dc3⟩ := cat_step c2 ⟨#[44]⟩
                  have Dc3 := hide dc3
                  clear dc3
                  obtain ⟨c4, hc4, zc4, dc4⟩ := cat_step c3 (ofL hi)
                  have Dc4 := hide dc4
                  clear dc4
                  obtain ⟨c5, hc5, zc5, dc5⟩ := cat_step c4 p2
                  have Dc5 := hide dc5
                  clear dc5
                  have zl : (⟨#[44]⟩ : ByteArray).size = 1 := rfl
                  have hcs : c5.size ≤ (i + 1) * 20000004 := by omega
                  have dl : (⟨#[44]⟩ : ByteArray).data.toList = [44] := rfl
                  have HC : Hid (c5.data.toList = wrJ (ms.take (i + 1))) := by
                    show _ = _
                    rw [HST.out]
                    rw [Dc5.out, Dc4.out, Dc3.out, Dc2.out, Dc1.out, ofL_data, ofL_data, DP1.out, DP2.out, dl]
                    rw [if_pos hz0, HT0.out]
                    unfold wrR
                    dsimp only
                    rw [HE.out]
                    simp
                  have bc1 : c1.size ≤ 100000000000000 := by omega
                  have bc2 : c2.size ≤ 100000000000000 := by omega
                  have bc3 : c3.size ≤ 100000000000000 := by omega
                  have bc4 : c4.size ≤ 100000000000000 := by omega
                  have bc5 : c5.size ≤ 100000000000000 := by omega
                  clear Dc1 Dc2 Dc3 Dc4 Dc5 hz0 dl
                  go_wp2_with fail
                  generalize wr.alloc (.cells #[.bool true, .string (ofL lo), .bool true, .bool true, .string (ofL hi), .bool false] 54) = W0 at *
                  generalize wr.heap.size = KX at *
                  go_quiet (first | (go_at_call 57; exact Calls.quiet_of_same (BR1.out _)) | fail)
                  have Q1 := hide (Q0.out.next (below_drewN _ _ nq))
                  clear Q0 s0 s1 x0 x1 x2 x3 x4 x5
                  generalize W0.drewN nq = W1 at *
                  obtain ⟨s0, s1, x0, x1, x2, x3, x4, x5⟩ := Q1.out.seen
                  dsimp only at x0 x1 x2 x3 x4 x5
                  go_wp2_with fail
                  refine (BR2.out _).mono ?_
                  rintro r W2 ⟨rfl, hw⟩
                  rw [hw]
                  clear hw W2
                  go_wp2_with fail
                  go_roundw
                  case rel => exact ⟨i + 1, c5, by omega, rfl, by go_num, hcs, HC, Q1.out.bel, Q1.out.box⟩
                  case measure => simp [intOf]; omega
                | true =>
                  cases E with
                  | false =>
                    obtain ⟨c1, hc1, zc1, dc1⟩ := cat_step T p1
                    have Dc1 := hide dc1
                    clear dc1
                    obtain ⟨c2, hc2, zc2, dc2⟩ := cat_step c1 (ofL lo)
                    have Dc2 := hide dc2
                    clear dc2
                    obtain ⟨c3, hc3, zc3, dc3⟩ := cat_step c2 ⟨#[44]⟩
                    have Dc3 := hide dc3
                    clear dc3
                    obtain ⟨c4, hc4, zc4, dc4⟩ := cat_step c3 (ofL hi)
                    have Dc4 := hide dc4
                    clear dc4
                    obtain ⟨c5, hc5, zc5, dc5⟩ := cat_step c4 p2
                    have Dc5 := hide dc5
                    clear dc5
                    have zl : (⟨#[44]⟩ : ByteArray).size = 1 := rfl
                    have hcs : c5.size ≤ (i + 1) * 20000004 := by omega
                    have dl : (⟨#[44]⟩ : ByteArray).data.toList = [44] := rfl
                    have HC : Hid (c5.data.toList = wrJ (ms.take (i + 1))) := by
                      show _ = _
                      rw [HST.out]
                      rw [Dc5.out, Dc4.out, Dc3.out, Dc2.out, Dc1.out, ofL_data, ofL_data, DP1.out, DP2.out, dl]
                      rw [if_pos hz0, HT0.out]
                      unfold wrR
                      dsimp only
                      rw [HE.out]
                      simp
                    have bc1 : c1.size ≤ 100000000000000 := by omega
                    have bc2 : c2.size ≤ 100000000000000 := by omega
                    have bc3 : c3.size ≤ 100000000000000 := by omega
                    have bc4 : c4.size ≤ 100000000000000 := by omega
                    have bc5 : c5.size ≤ 100000000000000 := by omega
                    clear Dc1 Dc2 Dc3 Dc4 Dc5 hz0 dl
                    go_wp2_with fail
                    generalize wr.alloc (.cells #[.bool true, .string (ofL lo), .bool true, .bool true, .string (ofL hi), .bool true] 54) = W0 at *
                    generalize wr.heap.size = KX at *
                    go_quiet (first | (go_at_call 57; exact Calls.quiet_of_same (BR1.out _)) | fail)
                    have Q1 := hide (Q0.out.next (below_drewN _ _ nq))
                    clear Q0 s0 s1 x0 x1 x2 x3 x4 x5
                    generalize W0.drewN nq = W1 at *
                    obtain ⟨s0, s1, x0, x1, x2, x3, x4, x5⟩ := Q1.out.seen
                    dsimp only at x0 x1 x2 x3 x4 x5
                    go_wp2_with fail
                    refine (BR2.out _).mono ?_
                    rintro r W2 ⟨rfl, hw⟩
                    rw [hw]
                    clear hw W2
                    go_wp2_with fail
                    go_roundw
                    case rel => exact ⟨i + 1, c5, by omega, rfl, by go_num, hcs, HC, Q1.out.bel, Q1.out.box⟩
                    case measure => simp [intOf]; omega
                  | true =>
                    obtain ⟨c1, hc1, zc1, dc1⟩ := cat_step T p1
                    have Dc1 := hide dc1
                    clear dc1
                    obtain ⟨c2, hc2, zc2, dc2⟩ := cat_step c1 (ofL lo)
                    have Dc2 := hide dc2
                    clear dc2
                    obtain ⟨c5, hc5, zc5, dc5⟩ := cat_step c2 p2
                    have Dc5 := hide dc5
                    clear dc5
                    have zl : (⟨#[44]⟩ : ByteArray).size = 1 := rfl
                    have hcs : c5.size ≤ (i + 1) * 20000004 := by omega
                    have dl : (⟨#[44]⟩ : ByteArray).data.toList = [44] := rfl
                    have HC : Hid (c5.data.toList = wrJ (ms.take (i + 1))) := by
                      show _ = _
                      rw [HST.out]
                      rw [Dc5.out, Dc2.out, Dc1.out, ofL_data, DP1.out, DP2.out]
                      rw [if_pos hz0, HT0.out]
                      unfold wrR
                      dsimp only
                      rw [HE.out]
                      simp
                    have bc1 : c1.size ≤ 100000000000000 := by omega
                    have bc2 : c2.size ≤ 100000000000000 := by omega
                    have bc5 : c5.size ≤ 100000000000000 := by omega
                    clear Dc1 Dc2 Dc5 hz0 dl
                    go_wp2_with fail
                    generalize wr.alloc (.cells #[.bool true, .string (ofL lo), .bool true, .bool true, .string (ofL hi), .bool true] 54) = W0 at *
                    generalize wr.heap.size = KX at *
                    go_quiet (first | (go_at_call 57; exact Calls.quiet_of_same (BR1.out _)) | fail)
                    have Q1 := hide (Q0.out.next (below_drewN _ _ nq))
                    clear Q0 s0 s1 x0 x1 x2 x3 x4 x5
                    generalize W0.drewN nq = W1 at *
                    obtain ⟨s0, s1, x0, x1, x2, x3, x4, x5⟩ := Q1.out.seen
                    dsimp only at x0 x1 x2 x3 x4 x5
                    go_wp2_with fail
                    refine (BR2.out _).mono ?_
                    rintro r W2 ⟨rfl, hw⟩
                    rw [hw]
                    clear hw W2
                    go_wp2_with fail
                    go_roundw
                    case rel => exact ⟨i + 1, c5, by omega, rfl, by go_num, hcs, HC, Q1.out.bel, Q1.out.box⟩
                    case measure => simp [intOf]; omega
        · have hpz : (0 : Int) < (i : Int) := by omega
          have hpn : 0 < i := by omega
          cases hl with
          | false =>
            obtain ⟨c0, hc0, zc0, dc0⟩ := cat_step T ⟨#[44]⟩
            have Dc0 := hide dc0
            clear dc0
            obtain ⟨c1, hc1, zc1, dc1⟩ := cat_step c0 p1
            have Dc1 := hide dc1
            clear dc1
            obtain ⟨c2, hc2, zc2, dc2⟩ := cat_step c1 (ofL lo)
            have Dc2 := hide dc2
            clear dc2
            obtain ⟨c3, hc3, zc3, dc3⟩ := cat_step c2 ⟨#[44]⟩
            have Dc3 := hide dc3
            clear dc3
            obtain ⟨c4, hc4, zc4, dc4⟩ := cat_step c3 (ofL hi)
            have Dc4 := hide dc4
            clear dc4
            obtain ⟨c5, hc5, zc5, dc5⟩ := cat_step c4 p2
            have Dc5 := hide dc5
            clear dc5
            have zl : (⟨#[44]⟩ : ByteArray).size = 1 := rfl
            have hcs : c5.size ≤ (i + 1) * 20000004 := by omega
            have dl : (⟨#[44]⟩ : ByteArray).data.toList = [44] := rfl
            have HC : Hid (c5.data.toList = wrJ (ms.take (i + 1))) := by
              show _ = _
              rw [HST.out]
              rw [Dc5.out, Dc4.out, Dc3.out, Dc2.out, Dc1.out, Dc0.out, ofL_data, ofL_data, DP1.out, DP2.out, dl]
              rw [if_neg hz0]
              unfold wrR
              dsimp only
              rw [HE.out]
              simp
            have bc0 : c0.size ≤ 100000000000000 := by omega
            have bc1 : c1.size ≤ 100000000000000 := by omega
            have bc2 : c2.size ≤ 100000000000000 := by omega
            have bc3 : c3.size ≤ 100000000000000 := by omega
            have bc4 : c4.size ≤ 100000000000000 := by omega
            have bc5 : c5.size ≤ 100000000000000 := by omega
            clear Dc0 Dc1 Dc2 Dc3 Dc4 Dc5 hz0 dl
            go_wp2_with fail
            generalize wr.alloc (.cells #[.bool false, .string (ofL lo), .bool li, .bool hh, .string (ofL hi), .bool hin] 54) = W0 at *
            generalize wr.heap.size = KX at *
            go_quiet (first | (go_at_call 57; exact Calls.quiet_of_same (BR1.out _)) | fail)
            have Q1 := hide (Q0.out.next (below_drewN _ _ nq))
            clear Q0 s0 s1 x0 x1 x2 x3 x4 x5
            generalize W0.drewN nq = W1 at *
            obtain ⟨s0, s1, x0, x1, x2, x3, x4, x5⟩ := Q1.out.seen
            dsimp only at x0 x1 x2 x3 x4 x5
            go_wp2_with fail
            refine (BR2.out _).mono ?_
            rintro r W2 ⟨rfl, hw⟩
            rw [hw]
            clear hw W2
            go_wp2_with fail
            go_roundw
            case rel => exact ⟨i + 1, c5, by omega, rfl, by go_num, hcs, HC, Q1.out.bel, Q1.out.box⟩
            case measure => simp [intOf]; omega
          | true =>
            cases hh with
            | false =>
              obtain ⟨c0, hc0, zc0, dc0⟩ := cat_step T ⟨#[44]⟩
              have Dc0 := hide dc0
              clear dc0
              obtain ⟨c1, hc1, zc1, dc1⟩ := cat_step c0 p1
              have Dc1 := hide dc1
              clear dc1
              obtain ⟨c2, hc2, zc2, dc2⟩ := cat_step c1 (ofL lo)
              have Dc2 := hide dc2
              clear dc2
              obtain ⟨c3, hc3, zc3, dc3⟩ := cat_step c2 ⟨#[44]⟩
              have Dc3 := hide dc3
              clear dc3
              obtain ⟨c4, hc4, zc4, dc4⟩ := cat_step c3 (ofL hi)
              have Dc4 := hide dc4
              clear dc4
              obtain ⟨c5, hc5, zc5, dc5⟩ := cat_step c4 p2
              have Dc5 := hide dc5
              clear dc5
              have zl : (⟨#[44]⟩ : ByteArray).size = 1 := rfl
              have hcs : c5.size ≤ (i + 1) * 20000004 := by omega
              have dl : (⟨#[44]⟩ : ByteArray).data.toList = [44] := rfl
              have HC : Hid (c5.data.toList = wrJ (ms.take (i + 1))) := by
                show _ = _
                rw [HST.out]
                rw [Dc5.out, Dc4.out, Dc3.out, Dc2.out, Dc1.out, Dc0.out, ofL_data, ofL_data, DP1.out, DP2.out, dl]
                rw [if_neg hz0]
                unfold wrR
                dsimp only
                rw [HE.out]
                simp
              have bc0 : c0.size ≤ 100000000000000 := by omega
              have bc1 : c1.size ≤ 100000000000000 := by omega
              have bc2 : c2.size ≤ 100000000000000 := by omega
              have bc3 : c3.size ≤ 100000000000000 := by omega
              have bc4 : c4.size ≤ 100000000000000 := by omega
              have bc5 : c5.size ≤ 100000000000000 := by omega
              clear Dc0 Dc1 Dc2 Dc3 Dc4 Dc5 hz0 dl
              go_wp2_with fail
              generalize wr.alloc (.cells #[.bool true, .string (ofL lo), .bool li, .bool false, .string (ofL hi), .bool hin] 54) = W0 at *
              generalize wr.heap.size = KX at *
              go_quiet (first | (go_at_call 57; exact Calls.quiet_of_same (BR1.out _)) | fail)
              have Q1 := hide (Q0.out.next (below_drewN _ _ nq))
              clear Q0 s0 s1 x0 x1 x2 x3 x4 x5
              generalize W0.drewN nq = W1 at *
              obtain ⟨s0, s1, x0, x1, x2, x3, x4, x5⟩ := Q1.out.seen
              dsimp only at x0 x1 x2 x3 x4 x5
              go_wp2_with fail
              refine (BR2.out _).mono ?_
              rintro r W2 ⟨rfl, hw⟩
              rw [hw]
              clear hw W2
              go_wp2_with fail
              go_roundw
              case rel => exact ⟨i + 1, c5, by omega, rfl, by go_num, hcs, HC, Q1.out.bel, Q1.out.box⟩
              case measure => simp [intOf]; omega
            | true =>
              cases li with
              | false =>
                obtain ⟨c0, hc0, zc0, dc0⟩ := cat_step T ⟨#[44]⟩
                have Dc0 := hide dc0
                clear dc0
                obtain ⟨c1, hc1, zc1, dc1⟩ := cat_step c0 p1
                have Dc1 := hide dc1
                clear dc1
                obtain ⟨c2, hc2, zc2, dc2⟩ := cat_step c1 (ofL lo)
                have Dc2 := hide dc2
                clear dc2
                obtain ⟨c3, hc3, zc3, dc3⟩ := cat_step c2 ⟨#[44]⟩
                have Dc3 := hide dc3
                clear dc3
                obtain ⟨c4, hc4, zc4, dc4⟩ := cat_step c3 (ofL hi)
                have Dc4 := hide dc4
                clear dc4
                obtain ⟨c5, hc5, zc5, dc5⟩ := cat_step c4 p2
                have Dc5 := hide dc5
                clear dc5
                have zl : (⟨#[44]⟩ : ByteArray).size = 1 := rfl
                have hcs : c5.size ≤ (i + 1) * 20000004 := by omega
                have dl : (⟨#[44]⟩ : ByteArray).data.toList = [44] := rfl
                have HC : Hid (c5.data.toList = wrJ (ms.take (i + 1))) := by
                  show _ = _
                  rw [HST.out]
                  rw [Dc5.out, Dc4.out, Dc3.out, Dc2.out, Dc1.out, Dc0.out, ofL_data, ofL_data, DP1.out, DP2.out, dl]
                  rw [if_neg hz0]
                  unfold wrR
                  dsimp only
                  rw [HE.out]
                  simp
                have bc0 : c0.size ≤ 100000000000000 := by omega
                have bc1 : c1.size ≤ 100000000000000 := by omega
                have bc2 : c2.size ≤ 100000000000000 := by omega
                have bc3 : c3.size ≤ 100000000000000 := by omega
                have bc4 : c4.size ≤ 100000000000000 := by omega
                have bc5 : c5.size ≤ 100000000000000 := by omega
                clear Dc0 Dc1 Dc2 Dc3 Dc4 Dc5 hz0 dl
                go_wp2_with fail
                generalize wr.alloc (.cells #[.bool true, .string (ofL lo), .bool false, .bool true, .string (ofL hi), .bool hin] 54) = W0 at *
                generalize wr.heap.size = KX at *
                go_quiet (first | (go_at_call 57; exact Calls.quiet_of_same (BR1.out _)) | fail)
                have Q1 := hide (Q0.out.next (below_drewN _ _ nq))
                clear Q0 s0 s1 x0 x1 x2 x3 x4 x5
                generalize W0.drewN nq = W1 at *
                obtain ⟨s0, s1, x0, x1, x2, x3, x4, x5⟩ := Q1.out.seen
                dsimp only at x0 x1 x2 x3 x4 x5
                go_wp2_with fail
                refine (BR2.out _).mono ?_
                rintro r W2 ⟨rfl, hw⟩
                rw [hw]
                clear hw W2
                go_wp2_with fail
                go_roundw
                case rel => exact ⟨i + 1, c5, by omega, rfl, by go_num, hcs, HC, Q1.out.bel, Q1.out.box⟩
                case measure => simp [intOf]; omega
              | true =>
                cases hin with
                | false =>
                  obtain ⟨c0, hc0, zc0, dc0⟩ := cat_step T ⟨#[44]⟩
                  have Dc0 := hide dc0
                  clear dc0
                  obtain ⟨c1, hc1, zc1, dc1⟩ := cat_step c0 p1
                  have Dc1 := hide dc1
                  clear dc1
                  obtain ⟨c2, hc2, zc2, dc2⟩ := cat_step c1 (ofL lo)
                  have Dc2 := hide dc2
                  clear dc2
                  obtain ⟨c3, hc3, zc3, dc3⟩ := cat_step c2 ⟨#[44]⟩
                  have Dc3 := hide dc3
                  clear dc3
                  obtain ⟨c4, hc4, zc4, dc4⟩ := cat_step c3 (ofL hi)
                  have Dc4 := hide dc4
                  clear dc4
                  obtain ⟨c5, hc5, zc5, dc5⟩ := cat_step c4 p2
                  have Dc5 := hide dc5
                  clear dc5
                  have zl : (⟨#[44]⟩ : ByteArray).size = 1 := rfl
                  have hcs : c5.size ≤ (i + 1) * 20000004 := by omega
                  have dl : (⟨#[44]⟩ : ByteArray).data.toList = [44] := rfl
                  have HC : Hid (c5.data.toList = wrJ (ms.take (i + 1))) := by
                    show _ = _
                    rw [HST.out]
                    rw [Dc5.out, Dc4.out, Dc3.out, Dc2.out, Dc1.out, Dc0.out, ofL_data, ofL_data, DP1.out, DP2.out, dl]
                    rw [if_neg hz0]
                    unfold wrR
                    dsimp only
                    rw [HE.out]
                    simp
                  have bc0 : c0.size ≤ 100000000000000 := by omega
                  have bc1 : c1.size ≤ 100000000000000 := by omega
                  have bc2 : c2.size ≤ 100000000000000 := by omega
                  have bc3 : c3.size ≤ 100000000000000 := by omega
                  have bc4 : c4.size ≤ 100000000000000 := by omega
                  have bc5 : c5.size ≤ 100000000000000 := by omega
                  clear Dc0 Dc1 Dc2 Dc3 Dc4 Dc5 hz0 dl
                  go_wp2_with fail
                  generalize wr.alloc (.cells #[.bool true, .string (ofL lo), .bool true, .bool true, .string (ofL hi), .bool false] 54) = W0 at *
                  generalize wr.heap.size = KX at *
                  go_quiet (first | (go_at_call 57; exact Calls.quiet_of_same (BR1.out _)) | fail)
                  have Q1 := hide (Q0.out.next (below_drewN _ _ nq))
                  clear Q0 s0 s1 x0 x1 x2 x3 x4 x5
                  generalize W0.drewN nq = W1 at *
                  obtain ⟨s0, s1, x0, x1, x2, x3, x4, x5⟩ := Q1.out.seen
                  dsimp only at x0 x1 x2 x3 x4 x5
                  go_wp2_with fail
                  refine (BR2.out _).mono ?_
                  rintro r W2 ⟨rfl, hw⟩
                  rw [hw]
                  clear hw W2
                  go_wp2_with fail
                  go_roundw
                  case rel => exact ⟨i + 1, c5, by omega, rfl, by go_num, hcs, HC, Q1.out.bel, Q1.out.box⟩
                  case measure => simp [intOf]; omega
                | true =>
                  cases E with
                  | false =>
                    obtain ⟨c0, hc0, zc0, dc0⟩ := cat_step T ⟨#[44]⟩
                    have Dc0 := hide dc0
                    clear dc0
                    obtain ⟨c1, hc1, zc1, dc1⟩ := cat_step c0 p1
                    have Dc1 := hide dc1
                    clear dc1
                    obtain ⟨c2, hc2, zc2, dc2⟩ := cat_step c1 (ofL lo)
                    have Dc2 := hide dc2
                    clear dc2
                    obtain ⟨c3, hc3, zc3, dc3⟩ := cat_step c2 ⟨#[44]⟩
                    have Dc3 := hide dc3
                    clear dc3
                    obtain ⟨c4, hc4, zc4, dc4⟩ := cat_step c3 (ofL hi)
                    have Dc4 := hide dc4
                    clear dc4
                    obtain ⟨c5, hc5, zc5, dc5⟩ := cat_step c4 p2
                    have Dc5 := hide dc5
                    clear dc5
                    have zl : (⟨#[44]⟩ : ByteArray).size = 1 := rfl
                    have hcs : c5.size ≤ (i + 1) * 20000004 := by omega
                    have dl : (⟨#[44]⟩ : ByteArray).data.toList = [44] := rfl
                    have HC : Hid (c5.data.toList = wrJ (ms.take (i + 1))) := by
                      show _ = _
                      rw [HST.out]
                      rw [Dc5.out, Dc4.out, Dc3.out, Dc2.out, Dc1.out, Dc0.out, ofL_data, ofL_data, DP1.out, DP2.out, dl]
                      rw [if_neg hz0]
                      unfold wrR
                      dsimp only
                      rw [HE.out]
                      simp
                    have bc0 : c0.size ≤ 100000000000000 := by omega
                    have bc1 : c1.size ≤ 100000000000000 := by omega
                    have bc2 : c2.size ≤ 100000000000000 := by omega
                    have bc3 : c3.size ≤ 100000000000000 := by omega
                    have bc4 : c4.size ≤ 100000000000000 := by omega
                    have bc5 : c5.size ≤ 100000000000000 := by omega
                    clear Dc0 Dc1 Dc2 Dc3 Dc4 Dc5 hz0 dl
                    go_wp2_with fail
                    generalize wr.alloc (.cells #[.bool true, .string (ofL lo), .bool true, .bool true, .string (ofL hi), .bool true] 54) = W0 at *
                    generalize wr.heap.size = KX at *
                    go_quiet (first | (go_at_call 57; exact Calls.quiet_of_same (BR1.out _)) | fail)
                    have Q1 := hide (Q0.out.next (below_drewN _ _ nq))
                    clear Q0 s0 s1 x0 x1 x2 x3 x4 x5
                    generalize W0.drewN nq = W1 at *
                    obtain ⟨s0, s1, x0, x1, x2, x3, x4, x5⟩ := Q1.out.seen
                    dsimp only at x0 x1 x2 x3 x4 x5
                    go_wp2_with fail
                    refine (BR2.out _).mono ?_
                    rintro r W2 ⟨rfl, hw⟩
                    rw [hw]
                    clear hw W2
                    go_wp2_with fail
                    go_roundw
                    case rel => exact ⟨i + 1, c5, by omega, rfl, by go_num, hcs, HC, Q1.out.bel, Q1.out.box⟩
                    case measure => simp [intOf]; omega
                  | true =>
                    obtain ⟨c0, hc0, zc0, dc0⟩ := cat_step T ⟨#[44]⟩
                    have Dc0 := hide dc0
                    clear dc0
                    obtain ⟨c1, hc1, zc1, dc1⟩ := cat_step c0 p1
                    have Dc1 := hide dc1
                    clear dc1
                    obtain ⟨c2, hc2, zc2, dc2⟩ := cat_step c1 (ofL lo)
                    have Dc2 := hide dc2
                    clear dc2
                    obtain ⟨c5, hc5, zc5, dc5⟩ := cat_step c2 p2
                    have Dc5 := hide dc5
                    clear dc5
                    have zl : (⟨#[44]⟩ : ByteArray).size = 1 := rfl
                    have hcs : c5.size ≤ (i + 1) * 20000004 := by omega
                    have dl : (⟨#[44]⟩ : ByteArray).data.toList = [44] := rfl
                    have HC : Hid (c5.data.toList = wrJ (ms.take (i + 1))) := by
                      show _ = _
                      rw [HST.out]
                      rw [Dc5.out, Dc2.out, Dc1.out, Dc0.out, ofL_data, DP1.out, DP2.out, dl]
                      rw [if_neg hz0]
                      unfold wrR
                      dsimp only
                      rw [HE.out]
                      simp
                    have bc0 : c0.size ≤ 100000000000000 := by omega
                    have bc1 : c1.size ≤ 100000000000000 := by omega
                    have bc2 : c2.size ≤ 100000000000000 := by omega
                    have bc5 : c5.size ≤ 100000000000000 := by omega
                    clear Dc0 Dc1 Dc2 Dc5 hz0 dl
                    go_wp2_with fail
                    generalize wr.alloc (.cells #[.bool true, .string (ofL lo), .bool true, .bool true, .string (ofL hi), .bool true] 54) = W0 at *
                    generalize wr.heap.size = KX at *
                    go_quiet (first | (go_at_call 57; exact Calls.quiet_of_same (BR1.out _)) | fail)
                    have Q1 := hide (Q0.out.next (below_drewN _ _ nq))
                    clear Q0 s0 s1 x0 x1 x2 x3 x4 x5
                    generalize W0.drewN nq = W1 at *
                    obtain ⟨s0, s1, x0, x1, x2, x3, x4, x5⟩ := Q1.out.seen
                    dsimp only at x0 x1 x2 x3 x4 x5
                    go_wp2_with fail
                    refine (BR2.out _).mono ?_
                    rintro r W2 ⟨rfl, hw⟩
                    rw [hw]
                    clear hw W2
                    go_wp2_with fail
                    go_roundw
                    case rel => exact ⟨i + 1, c5, by omega, rfl, by go_num, hcs, HC, Q1.out.bel, Q1.out.box⟩
                    case measure => simp [intOf]; omega
      · have hlt' : ¬ (i : Int) < (n : Int) := by omega
        have hT : T.data.toList = wrJ ms := by
          rw [HT.out, List.take_of_length_le (by rw [HN.out]; omega)]
        have HT2 := hide hT
        clear hT
        go_wp2_with fail
        go_ret
        exact ⟨by rw [← HT2.out, ofL_self]; rfl, HB.out⟩

end Go.Proofs.YtpedljmpobhimaaGreatDoor

/-
  Walks: the document's Fit, Text, Wants, Match; its Same at equal requirements; the program's Text.
-/
namespace Go.Proofs.YtpedljmpobhimaaGreatDoor
open Go.RowKit Go.Shelf
set_option linter.unusedVariables false

/-- A requirement in its box. -/
structure Fb (w : World) (t : List UInt8) (a : Option Addr) (n c : Nat) (ms : List Mr) (W : World) : Prop where
  bel : Below w.heap.size w W
  box : W.heap[w.heap.size]? = some (.cells #[.string (ofL t), .slice a n c] 24 (0, 0))
  mrs : Mrs W (.slice a n c) ms
theorem Fb.start {w : World} {t : List UInt8} {a : Option Addr} {n c : Nat} {ms : List Mr} (h : Mrs w (.slice a n c) ms) : Fb w t a n c ms (w.alloc (.cells #[.string (ofL t), .slice a n c] 24)) := by
  have hb := (Below.refl _ w).alloc (Nat.le_refl _) (.cells #[.string (ofL t), .slice a n c] 24)
  exact ⟨hb, World.alloc_heap_new w _, h.below hb⟩
theorem Fb.next {w W W' : World} {t : List UInt8} {a : Option Addr} {n c : Nat} {ms : List Mr} (h : Fb w t a n c ms W) (hb : Below W.heap.size W W') : Fb w t a n c ms W' :=
  ⟨h.bel.trans (hb.mono h.bel.size), (hb.block _ (Array.getElem?_eq_some_iff.1 h.box).1).trans h.box, h.mrs.below hb⟩
theorem Fb.seen {w W : World} {t : List UInt8} {a : Option Addr} {n c : Nat} {ms : List Mr} (h : Fb w t a n c ms W) : W.cell? ⟨w.heap.size, 0, none⟩ = some (.string (ofL t)) ∧ W.cell? ⟨w.heap.size, 1, none⟩ = some (.slice a n c) :=
  ⟨cell_at 0 h.box rfl, cell_at 1 h.box rfl⟩

set_option maxRecDepth 100000 in
set_option maxHeartbeats 4000000 in
theorem RFitM_any (t : List UInt8) (a : Option Addr) (n c : Nat) (ms : List Mr) (w : World) (hv : Mrs w (.slice a n c) ms) (hs : Small ms) (ht : t.length ≤ 10000000) :
    Calls Tryz.prog 14 #[.agg #[.string (ofL t), .slice a n c]] w fun e w' => e = .returned (.bool (fitL t ms)) ∧ Below w.heap.size w w' := by
  have hn : n ≤ 2000000 := by rw [← mrs_n hv]; exact hs.1
  have SO := hide (fun W (q : Fb w t a n c ms W) => Rsound_any t a n c ms W q.mrs hn)
  have RA := hide (fun W (q : Fb w t a n c ms W) => Rraw_any t a n c ms W q.mrs hs)
  have hX := fit_sound t ms
  have hsz := ofL_size (rawL t ms)
  generalize fitL t ms = X at *
  generalize soundL t ms = S at *
  have HX := hide hX
  have Q0 := hide (Fb.start (t := t) hv)
  obtain ⟨s0, s1⟩ := Q0.out.seen
  clear hX hv hs
  generalize rawL t ms = R at *
  go_enter Tryz.func14, Tryz.ntmps14
  go_wp2_with fail
  generalize w.alloc (.cells #[.string (ofL t), .slice a n c] 24) = W0 at *
  refine (SO.out _ Q0.out).mono ?_
  rintro r W1 ⟨rfl, b1⟩
  have Q1 := hide (Q0.out.next b1)
  clear b1 Q0 s0 s1 SO
  obtain ⟨s0, s1⟩ := Q1.out.seen
  cases S with
  | false =>
    go_wp2_with fail
    go_ret
    exact ⟨by rw [HX.out]; rfl, Q1.out.bel⟩
  | true =>
    go_wp2_with fail
    refine (RA.out _ Q1.out).mono ?_
    rintro r W2 ⟨rfl, b2⟩
    have Q2 := hide (Q1.out.next b2)
    clear b2 Q1 s0 s1 RA
    have HSZ := hide hsz
    clear hsz
    go_wp2_with fail
    go_ret
    refine ⟨?_, Q2.out.bel⟩
    rw [HX.out, ← HSZ.out]
    simp
    omega

theorem fit_raw {t : List UInt8} {ms : List Mr} (h : fitL t ms = true) : wrL t ms = rawL t ms ∧ (ms = [] → t ≠ []) ∧ (ms ≠ [] → t = []) := by
  rw [fit_sound] at h
  simp only [Bool.and_eq_true] at h
  have h1 := h.1
  unfold soundL at h1
  unfold wrL rawL
  by_cases h0 : ms = []
  · rw [if_pos h0] at h1 ⊢
    have := (ver_parts h1).1
    rw [if_pos this]
    exact ⟨rfl, fun _ => this, fun h => absurd h0 h⟩
  · rw [if_neg h0] at h1 ⊢
    simp only [Bool.and_eq_true, decide_eq_true_eq] at h1
    rw [h1.1.1, if_neg (by simp)]
    exact ⟨rfl, fun h => absurd h h0, fun _ => rfl⟩
/-- A requirement's text, or none. -/
def txtL (t : List UInt8) (ms : List Mr) : List UInt8 := if fitL t ms = true then rawL t ms else []

set_option maxHeartbeats 2000000 in
theorem RTextM_any (t : List UInt8) (a : Option Addr) (n c : Nat) (ms : List Mr) (w : World) (hv : Mrs w (.slice a n c) ms) (hs : Small ms) (ht : t.length ≤ 10000000) :
    Calls Tryz.prog 16 #[.agg #[.string (ofL t), .slice a n c]] w fun e w' => e = .returned (.string (ofL (txtL t ms))) ∧ Below w.heap.size w w' := by
  have FI := hide (fun W (q : Fb w t a n c ms W) => RFitM_any t a n c ms W q.mrs hs ht)
  have RA := hide (fun W (q : Fb w t a n c ms W) => Rraw_any t a n c ms W q.mrs hs)
  have hX : txtL t ms = if fitL t ms = true then rawL t ms else [] := rfl
  generalize txtL t ms = X at *
  generalize fitL t ms = F at *
  generalize rawL t ms = R at *
  have HX := hide hX
  have Q0 := hide (Fb.start (t := t) hv)
  obtain ⟨s0, s1⟩ := Q0.out.seen
  clear hX hv hs
  go_enter Tryz.func16, Tryz.ntmps16
  go_wp2_with fail
  generalize w.alloc (.cells #[.string (ofL t), .slice a n c] 24) = W0 at *
  refine (FI.out _ Q0.out).mono ?_
  rintro r W1 ⟨rfl, b1⟩
  have Q1 := hide (Q0.out.next b1)
  clear b1 Q0 s0 s1 FI
  obtain ⟨s0, s1⟩ := Q1.out.seen
  cases F with
  | false =>
    go_wp2_with fail
    go_ret
    exact ⟨by rw [HX.out]; rfl, Q1.out.bel⟩
  | true =>
    go_wp2_with fail
    refine (RA.out _ Q1.out).mono ?_
    rintro r W2 ⟨rfl, b2⟩
    have Q2 := hide (Q1.out.next b2)
    clear b2 Q1 s0 s1 RA
    go_wp2_with fail
    go_ret
    exact ⟨by rw [HX.out]; rfl, Q2.out.bel⟩

set_option maxHeartbeats 2000000 in
theorem TextM_any (t : List UInt8) (a : Option Addr) (n c : Nat) (ms : List Mr) (w : World) (hv : Mrs w (.slice a n c) ms) (hs : Small ms) (hk : Kn w) :
    Calls Tryz.prog 15 #[.agg #[.string (ofL t), .slice a n c]] w fun e w' => e = .returned (.string (ofL (txtL t ms))) ∧ Below w.heap.size w w' := by
  have FI := hide (fun W (q : Fb w t a n c ms W) => Fit_any t (.slice a n c) ms W q.mrs hs (hk.below hk.pos q.bel))
  have RA := hide (fun W (q : Fb w t a n c ms W) => write_any t (.slice a n c) ms W q.mrs hs)
  have hX : txtL t ms = if fitL t ms = true then wrL t ms else [] := by
    unfold txtL
    by_cases h : fitL t ms = true
    · rw [if_pos h, if_pos h, (fit_raw h).1]
    · rw [if_neg h, if_neg h]
  generalize txtL t ms = X at *
  generalize fitL t ms = F at *
  generalize wrL t ms = R at *
  have HX := hide hX
  have Q0 := hide (Fb.start (t := t) hv)
  obtain ⟨s0, s1⟩ := Q0.out.seen
  clear hX hv hs
  go_enter Tryz.func15, Tryz.ntmps15
  go_wp2_with fail
  generalize w.alloc (.cells #[.string (ofL t), .slice a n c] 24) = W0 at *
  refine (FI.out _ Q0.out).mono ?_
  rintro r W1 ⟨rfl, b1⟩
  have Q1 := hide (Q0.out.next b1)
  clear b1 Q0 s0 s1 FI
  obtain ⟨s0, s1⟩ := Q1.out.seen
  cases F with
  | false =>
    go_wp2_with fail
    go_ret
    exact ⟨by rw [HX.out]; rfl, Q1.out.bel⟩
  | true =>
    go_wp2_with fail
    refine (RA.out _ Q1.out).mono ?_
    rintro r W2 ⟨rfl, b2⟩
    have Q2 := hide (Q1.out.next b2)
    clear b2 Q1 s0 s1 RA
    go_wp2_with fail
    go_ret
    exact ⟨by rw [HX.out]; rfl, Q2.out.bel⟩

theorem any_take {f : Mr → Bool} (ms : List Mr) (i : Nat) (h : i < ms.length) (hF : (ms.take i).any f = false) : (ms.take (i + 1)).any f = f ms[i] := by
  rw [List.take_succ_eq_append_getElem h, List.any_append, hF]
  simp
theorem want_fit {t : List UInt8} {ms : List Mr} (v : List UInt8) (h : fitL t ms = true) : (decide (t ≠ []) || ms.any (liesL v)) = (ms.any (liesL v) || decide (ms.length = 0)) := by
  obtain ⟨_, h1, h2⟩ := fit_raw h
  by_cases h0 : ms = []
  · subst h0
    simp [h1 rfl]
  · rw [h2 h0]
    have : ¬ ms.length = 0 := fun e => h0 (List.length_eq_zero_iff.1 e)
    simp [this]

set_option maxRecDepth 100000 in
set_option maxHeartbeats 4000000 in
theorem RWantsM_any (t : List UInt8) (a : Option Addr) (n c : Nat) (ms : List Mr) (u : ByteArray) (w : World) (hv : Mrs w (.slice a n c) ms) (hs : Small ms) (ht : t.length ≤ 10000000) :
    Calls Tryz.prog 18 #[.agg #[.string (ofL t), .slice a n c], .string u] w fun e w' => e = .returned (.bool (wantL t ms u.data.toList)) ∧ Below w.heap.size w w' := by
  have HN := hide (mrs_n hv)
  have hn : n ≤ 2000000 := by rw [← mrs_n hv]; exact hs.1
  have FI := hide (fun W (q : Fb w t a n c ms W) => RFitM_any t a n c ms W q.mrs hs ht)
  have VV := hide (fun W => RVersion_any u W)
  have hX : wantL t ms u.data.toList = (fitL t ms && isVer u.data.toList && (decide (t ≠ []) || ms.any (liesL u.data.toList))) := rfl
  have hW := want_fit (t := t) (ms := ms) u.data.toList
  generalize wantL t ms u.data.toList = X at *
  generalize fitL t ms = F at *
  generalize isVer u.data.toList = V at *
  generalize decide (t ≠ []) = T at *
  have HX := hide hX
  have HW := hide hW
  have Q0 := hide (Fb.start (t := t) hv)
  obtain ⟨s0, s1⟩ := Q0.out.seen
  clear hX hW hv hs
  go_enter Tryz.func18, Tryz.ntmps18
  go_wp2_with fail
  generalize w.alloc (.cells #[.string (ofL t), .slice a n c] 24) = W0 at *
  refine (FI.out _ Q0.out).mono ?_
  rintro r W1 ⟨rfl, b1⟩
  have Q1 := hide (Q0.out.next b1)
  clear b1 Q0 s0 s1 FI
  obtain ⟨s0, s1⟩ := Q1.out.seen
  cases F with
  | false =>
    go_wp2_with fail
    go_ret
    exact ⟨by rw [HX.out]; rfl, Q1.out.bel⟩
  | true =>
    go_wp2_with fail
    refine (VV.out _).mono ?_
    rintro r W2 ⟨rfl, b2⟩
    have Q2 := hide (Q1.out.next b2)
    clear b2 Q1 s0 s1 VV
    obtain ⟨s0, s1⟩ := Q2.out.seen
    cases V with
    | false =>
      go_wp2_with fail
      go_ret
      exact ⟨by rw [HX.out]; rfl, Q2.out.bel⟩
    | true =>
      have hX2 : X = (ms.any (liesL u.data.toList) || decide (n = 0)) := by
        rw [HX.out, HW.out (by first | rfl | trivial), HN.out]
        rfl
      have HX2 := hide hX2
      clear hX2 HX HW
      go_wp2_with fail
      go_loopw [5] (fun y wr => ∃ i : Nat, i ≤ n ∧ y = .int .i64 i ∧ Hid (Fb w t a n c ms wr) ∧ Hid ((ms.take i).any (liesL u.data.toList) = false)) (fun y _ => n - (intOf y).toNat)
      case atStart => exact ⟨0, by omega, rfl, Q2, rfl⟩
      case round =>
        clear Q2 s0 s1
        obtain ⟨i, hin, rfl, Q, hF⟩ := hrel
        obtain ⟨s0, s1⟩ := Q.out.seen
        by_cases hlt : i < n
        · have hlt' : (i : Int) < (n : Int) := by omega
          have i1 : i < ms.length := by rw [HN.out]; exact hlt
          obtain ⟨b1, o1, rfl, q1, d1⟩ := mrs_at Q.out.mrs (by omega)
          obtain ⟨e0, e1, e2, e3, e4, e5⟩ := d1.six i _ (List.getElem?_eq_getElem i1)
          have IN := fun W => Rinside_any ms[i] u W
          unfold mV at IN
          have HT := hide (any_take ms i i1 hF.out)
          have HA : Hid (liesL u.data.toList ms[i] = true → ms.any (liesL u.data.toList) = true) := fun h => List.any_eq_true.2 ⟨ms[i], List.getElem_mem i1, h⟩
          replace IN := hide IN
          generalize liesL u.data.toList ms[i] = L at *
          generalize ms[i] = x at *
          clear d1 i1
          go_wp2_with fail
          refine (IN.out _).mono ?_
          rintro r W3 ⟨rfl, b3⟩
          have Q3 := hide (Q.out.next b3)
          clear b3 Q s0 s1 e0 e1 e2 e3 e4 e5 IN
          cases L with
          | true =>
            go_wp2_with fail
            go_ret
            exact ⟨by rw [HX2.out, HA.out (by first | rfl | trivial)]; rfl, Q3.out.bel⟩
          | false =>
            go_wp2_with fail
            go_roundw
            case rel => exact ⟨i + 1, by omega, by go_num, Q3, HT⟩
            case measure => simp [intOf]; omega
        · have hlt' : ¬ (i : Int) < (n : Int) := by omega
          have hA : ms.any (liesL u.data.toList) = false := by
            have := hF.out
            rwa [List.take_of_length_le (by rw [HN.out]; omega)] at this
          have HA := hide hA
          clear hA
          by_cases hn0 : n = 0
          · have hnb : ((n : Int) == 0) = true := by simp; omega
            have HX3 : Hid (X = true) := by show _ = _; rw [HX2.out, decide_eq_true hn0]; simp
            clear hn0
            go_wp2_with fail
            go_ret
            exact ⟨by rw [HX3.out]; first | rfl | simp, Q.out.bel⟩
          · have hnb : ((n : Int) == 0) = false := by simp; omega
            have HX3 : Hid (X = false) := by show _ = _; rw [HX2.out, HA.out, decide_eq_false hn0]; rfl
            clear hn0
            go_wp2_with fail
            go_ret
            exact ⟨by rw [HX3.out]; first | rfl | simp, Q.out.bel⟩

theorem pa_soft_len (l : List UInt8) : (paL l).soft.length ≤ 64 := by
  by_cases h : (paL l).err = 0
  · have hf := read_fit h
    rw [fit_sound] at hf
    simp only [Bool.and_eq_true] at hf
    have h1 := hf.1
    unfold soundL at h1
    by_cases h0 : (paL l).ms = []
    · rw [if_pos h0] at h1
      exact (ver_parts h1).2.1
    · rw [if_neg h0] at h1
      simp only [Bool.and_eq_true, decide_eq_true_eq] at h1
      rw [h1.1.1]
      simp
  · rw [(read_no h).1]
    simp

set_option maxRecDepth 100000 in
set_option maxHeartbeats 2000000 in
theorem RMatchM_any (s u : ByteArray) (w : World) :
    Calls Tryz.prog 10 #[.string s, .string u] w fun e w' => e = .returned (.bool (matchL s.data.toList u.data.toList)) ∧ Below w.heap.size w w' := by
  have PA := hide (RParseM_any s w)
  have HS := hide (pa_small s.data.toList)
  have HL := hide (pa_soft_len s.data.toList)
  have hX : matchL s.data.toList u.data.toList = wantL (paL s.data.toList).soft (paL s.data.toList).ms u.data.toList := rfl
  have hno : (paL s.data.toList).err ≠ 0 → wantL (paL s.data.toList).soft (paL s.data.toList).ms u.data.toList = false := by
    intro h
    rw [(read_no h).1, (read_no h).2]
    rfl
  rw [hX]
  generalize paL s.data.toList = P at *
  have WA := hide (fun a n c W (hv : Mrs W (.slice a n c) P.ms) => RWantsM_any P.soft a n c P.ms u W hv HS.out (by have := HL.out; omega))
  generalize wantL P.soft P.ms u.data.toList = X at *
  have HNO := hide hno
  clear hno hX
  go_enter Tryz.func10, Tryz.ntmps10
  go_wp2_with fail
  refine PA.out.mono ?_
  rintro e w1 ⟨v, rfl, hm, b1⟩
  obtain ⟨a, c, rfl, _⟩ := id hm
  have hB := hide ((b1.alloc b1.size (.cells #[.string (ofL P.soft), .slice a P.ms.length c] 24)).alloc (by rw [World.size_alloc]; have := b1.size; omega) (.cells #[.int .i64 P.err, .int .i64 (P.at' : Int)] 27))
  have hM := hide (hm.mrs.below (((Below.refl _ w1).alloc (Nat.le_refl _) (.cells #[.string (ofL P.soft), .slice a P.ms.length c] 24)).alloc (by simp) (.cells #[.int .i64 P.err, .int .i64 (P.at' : Int)] 27)))
  clear hm b1 PA
  by_cases hE : P.err = 0
  · have hEb : (P.err == 0) = true := by simpa using hE
    clear hE
    go_wp2_with fail
    refine (WA.out _ _ _ _ hM.out).mono ?_
    rintro e w2 ⟨rfl, b2⟩
    go_wp2_with fail
    go_ret
    exact ⟨rfl, hB.out.trans (b2.mono hB.out.size)⟩
  · have hEb : (P.err == 0) = false := by simpa using hE
    have HX := hide (HNO.out hE)
    clear hE
    go_wp2_with fail
    go_ret
    exact ⟨by rw [HX.out]; first | rfl | simp [hEb], hB.out⟩

set_option maxRecDepth 100000 in
set_option maxHeartbeats 4000000 in
theorem RSameM_true (t : List UInt8) (a1 a2 : Option Addr) (n c1 c2 : Nat) (ms : List Mr) (w : World) (h1 : Mrs w (.slice a1 n c1) ms) (h2 : Mrs w (.slice a2 n c2) ms) (hn : n ≤ 2000000) :
    Calls Tryz.prog 8 #[.agg #[.string (ofL t), .slice a1 n c1], .agg #[.string (ofL t), .slice a2 n c2]] w fun e w' => e = .returned (.bool true) ∧ Below w.heap.size w w' := by
  have HN := hide (mrs_n h1)
  have H1 := hide h1
  have H2 := hide h2
  have hb : ((n : Int) == (n : Int)) = true := by simp
  have heq : ((ofL t).toList == (ofL t).toList) = true := by simp
  have k1 := World.alloc_heap_new (w.alloc (.cells #[.string (ofL t), .slice a1 n c1] 24)) (.cells #[.string (ofL t), .slice a2 n c2] 24)
  rw [World.size_alloc] at k1
  have k0 := (Below.heap_alloc (w.alloc (.cells #[.string (ofL t), .slice a1 n c1] 24)) (.cells #[.string (ofL t), .slice a2 n c2] 24) w.heap.size (by simp)).trans (World.alloc_heap_new w (.cells #[.string (ofL t), .slice a1 n c1] 24))
  have hB0 := ((Below.refl _ w).alloc (Nat.le_refl _) (.cells #[.string (ofL t), .slice a1 n c1] 24)).alloc (by simp) (.cells #[.string (ofL t), .slice a2 n c2] 24)
  have HB0 := hide hB0
  have K0 := hide k0
  have K1 := hide k1
  clear h1 h2 hB0 k0 k1
  go_enter Tryz.func8, Tryz.ntmps8
  go_wp2_with fail
  go_loopw [5] (fun x wr => ∃ i : Nat, i ≤ n ∧ x = .int .i64 i ∧ Below w.heap.size w wr ∧ Hid (wr.heap[w.heap.size]? = some (.cells #[.string (ofL t), .slice a1 n c1] 24 (0, 0)) ∧ wr.heap[w.heap.size + 1]? = some (.cells #[.string (ofL t), .slice a2 n c2] 24 (0, 0)))) (fun x _ => n - (intOf x).toNat)
  case atStart => exact ⟨0, by omega, rfl, HB0.out, K0.out, K1.out⟩
  case round =>
    obtain ⟨i, hin, rfl, hB, hC⟩ := hrel
    have y1 : wr.cell? ⟨w.heap.size, 1, none⟩ = some (.slice a1 n c1) := cell_at 1 hC.out.1 rfl
    have z1 : wr.cell? ⟨w.heap.size + 1, 1, none⟩ = some (.slice a2 n c2) := cell_at 1 hC.out.2 rfl
    by_cases hlt : i < n
    · have hlt' : (i : Int) < (n : Int) := by omega
      have i1 : i < ms.length := by rw [HN.out]; exact hlt
      obtain ⟨b1, o1, rfl, q1, d1⟩ := mrs_at (H1.out.below hB) (by omega)
      obtain ⟨b2, o2, rfl, q2, d2⟩ := mrs_at (H2.out.below hB) (by omega)
      obtain ⟨e0, e1, e2, e3, e4, e5⟩ := d1.six i _ (List.getElem?_eq_getElem i1)
      obtain ⟨f0, f1, f2, f3, f4, f5⟩ := d2.six i _ (List.getElem?_eq_getElem i1)
      generalize ms[i] = x at *
      clear d1 d2 i1
      go_wp2_with fail
      go_quiet (fail)
      go_wp2_with fail
      go_roundw
      case rel => exact ⟨i + 1, by omega, by go_num, hB.trans (below_drewN _ _ _), by have := hC.out; exact ⟨by rw [heap_drewN]; exact this.1, by rw [heap_drewN]; exact this.2⟩⟩
      case measure => simp [intOf]; omega
    · have hlt' : ¬ (i : Int) < (n : Int) := by omega
      go_wp2_with fail
      go_ret
      exact ⟨rfl, hB⟩

set_option maxRecDepth 100000 in
set_option maxHeartbeats 8000000 in
theorem reads_walk (s u : ByteArray) (w : World) (hk : Kn w) :
    Calls Tryz.prog 3 #[.string s, .string u] w fun e w' => e = .returned (.bool true) ∧ Below w.heap.size w w' := by
  have PA := hide (Parse_any s w hk)
  have PB := hide (fun W => RParseM_any s W)
  have MA := hide (fun W hW => Match_any s u W hW)
  have MB := hide (fun W => RMatchM_any s u W)
  have AW := hide awake_any
  have hl : (paL s.data.toList).ms.length ≤ 2000000 := (pa_small s.data.toList).1
  generalize paL s.data.toList = P at *
  generalize matchL s.data.toList u.data.toList = X at *
  go_enter Tryz.func3, Tryz.ntmps3
  go_wp2_with fail
  refine PA.out.mono ?_
  rintro e w1 ⟨v1, rfl, hm1, b1⟩
  obtain ⟨a1, c1, rfl, _⟩ := id hm1
  have hB1 := (b1.alloc b1.size (.cells #[.string (ofL P.soft), .slice a1 P.ms.length c1] 24)).alloc (by rw [World.size_alloc]; have := b1.size; omega) (.cells #[.int .i64 P.err, .int .i64 (P.at' : Int)] 27)
  have bb := ((Below.refl _ w1).alloc (Nat.le_refl _) (.cells #[.string (ofL P.soft), .slice a1 P.ms.length c1] 24)).alloc (by simp) (.cells #[.int .i64 P.err, .int .i64 (P.at' : Int)] 27)
  have n0 := (Below.heap_alloc (w1.alloc (.cells #[.string (ofL P.soft), .slice a1 P.ms.length c1] 24)) (.cells #[.int .i64 P.err, .int .i64 (P.at' : Int)] 27) w1.heap.size (by simp)).trans (World.alloc_heap_new w1 (.cells #[.string (ofL P.soft), .slice a1 P.ms.length c1] 24))
  have n1 := alloc_at (w1.alloc (.cells #[.string (ofL P.soft), .slice a1 P.ms.length c1] 24)) (.cells #[.int .i64 P.err, .int .i64 (P.at' : Int)] 27) (w1.heap.size + 1) (by simp)
  have HM1 := hide (hm1.mrs.below bb)
  have HB1 := hide hB1
  have N0 := hide n0
  have N1 := hide n1
  clear hm1 b1 hB1 bb n0 n1 PA
  go_wp2_with fail
  generalize (w1.alloc (.cells #[.string (ofL P.soft), .slice a1 P.ms.length c1] 24)).alloc (.cells #[.int .i64 P.err, .int .i64 (P.at' : Int)] 27) = W1 at *
  generalize w1.heap.size = K1 at *
  refine (PB.out _).mono ?_
  rintro e w2 ⟨v2, rfl, hm2, b2⟩
  obtain ⟨a2, c2, rfl, _⟩ := id hm2
  have bb := ((Below.refl _ w2).alloc (Nat.le_refl _) (.cells #[.string (ofL P.soft), .slice a2 P.ms.length c2] 24)).alloc (by simp) (.cells #[.int .i64 P.err, .int .i64 (P.at' : Int)] 27)
  have b3 := b2.trans (bb.mono b2.size)
  have HM2 := hide (hm2.mrs.below bb)
  have HM3 := hide (HM1.out.below b3)
  have HB3 := hide (HB1.out.trans (b3.mono HB1.out.size))
  have m0 := (b3.block K1 (Array.getElem?_eq_some_iff.1 N0.out).1).trans N0.out
  have m1 := (b3.block (K1 + 1) (Array.getElem?_eq_some_iff.1 N1.out).1).trans N1.out
  have m2 := (Below.heap_alloc (w2.alloc (.cells #[.string (ofL P.soft), .slice a2 P.ms.length c2] 24)) (.cells #[.int .i64 P.err, .int .i64 (P.at' : Int)] 27) w2.heap.size (by simp)).trans (World.alloc_heap_new w2 (.cells #[.string (ofL P.soft), .slice a2 P.ms.length c2] 24))
  have m3 := alloc_at (w2.alloc (.cells #[.string (ofL P.soft), .slice a2 P.ms.length c2] 24)) (.cells #[.int .i64 P.err, .int .i64 (P.at' : Int)] 27) (w2.heap.size + 1) (by simp)
  have y0 : ((w2.alloc (.cells #[.string (ofL P.soft), .slice a2 P.ms.length c2] 24)).alloc (.cells #[.int .i64 P.err, .int .i64 (P.at' : Int)] 27)).cell? ⟨K1, 0, none⟩ = some (.string (ofL P.soft)) := cell_at 0 m0 rfl
  have y1 : ((w2.alloc (.cells #[.string (ofL P.soft), .slice a2 P.ms.length c2] 24)).alloc (.cells #[.int .i64 P.err, .int .i64 (P.at' : Int)] 27)).cell? ⟨K1, 1, none⟩ = some (.slice a1 P.ms.length c1) := cell_at 1 m0 rfl
  have M1 := hide m1
  have M3 := hide m3
  have SA := hide (RSameM_true P.soft a1 a2 P.ms.length c1 c2 P.ms _ HM3.out HM2.out hl)
  clear hm2 b2 bb b3 m0 m1 m2 m3 N0 N1 HM1 HB1 PB
  go_wp2_with fail
  generalize (w2.alloc (.cells #[.string (ofL P.soft), .slice a2 P.ms.length c2] 24)).alloc (.cells #[.int .i64 P.err, .int .i64 (P.at' : Int)] 27) = W2 at *
  generalize w2.heap.size = K2 at *
  refine SA.out.mono ?_
  rintro e w4 ⟨rfl, b4⟩
  have HB4 := hide (HB3.out.trans (b4.mono HB3.out.size))
  have p1 := (b4.block (K1 + 1) (Array.getElem?_eq_some_iff.1 M1.out).1).trans M1.out
  have p3 := (b4.block (K2 + 1) (Array.getElem?_eq_some_iff.1 M3.out).1).trans M3.out
  have z0 : w4.cell? ⟨K1 + 1, 0, none⟩ = some (.int .i64 P.err) := cell_at 0 p1 rfl
  have z1 : w4.cell? ⟨K1 + 1, 1, none⟩ = some (.int .i64 (P.at' : Int)) := cell_at 1 p1 rfl
  have z2 : w4.cell? ⟨K2 + 1, 0, none⟩ = some (.int .i64 P.err) := cell_at 0 p3 rfl
  have z3 : w4.cell? ⟨K2 + 1, 1, none⟩ = some (.int .i64 (P.at' : Int)) := cell_at 1 p3 rfl
  have HK := hide (hk.below hk.pos HB4.out)
  clear b4 p1 p3 y0 y1 M1 M3 SA HM2 HM3 HB3
  go_wp2_with fail
  refine (MA.out _ HK.out).mono ?_
  rintro e w5 ⟨rfl, b5⟩
  have HB5 := hide (HB4.out.trans (b5.mono HB4.out.size))
  clear b5 HB4 HK z0 z1 z2 z3
  go_wp2_with fail
  refine (MB.out _).mono ?_
  rintro e w6 ⟨rfl, b6⟩
  have HB6 := hide (HB5.out.trans (b6.mono HB5.out.size))
  have HK := hide (hk.below hk.pos HB6.out)
  clear b6 HB5
  go_wp2_with fail
  refine (AW.out _ HK.out).mono ?_
  rintro e w7 ⟨rfl, b7⟩
  have HB7 := hide (HB6.out.trans (b7.mono HB6.out.size))
  clear b7
  go_wp2_with fail
  go_ret
  exact ⟨by rfl, HB7.out⟩

end Go.Proofs.YtpedljmpobhimaaGreatDoor
