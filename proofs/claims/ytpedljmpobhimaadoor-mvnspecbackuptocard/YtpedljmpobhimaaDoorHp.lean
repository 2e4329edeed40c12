/-
  Walks: Wants, Match.
-/
import Derived.Test.YtpedljmpobhimaaDoorHo
namespace Go.Proofs.YtpedljmpobhimaaDoor
open Go.RowKit Go.Shelf
set_option linter.unusedVariables false

set_option maxRecDepth 100000 in
set_option maxHeartbeats 4000000 in
theorem Wants_any (t : List UInt8) (v : Value) (ms : List Mr) (u : ByteArray) (w : World) (hv : Mrs w v ms) (hs : Small ms) (hk : Kn w) :
    Calls Tryd.prog 25 #[.agg #[.string (ofL t), v], .string u] w fun e w' => e = .returned (.bool (wantL t ms u.data.toList)) ∧ Below w.heap.size w w' := by
  have FI := hide (fun W hv hk => Fit_any t v ms W hv hs hk)
  have IV := hide (fun W hk => isVersion_any u W hk)
  have hX : wantL t ms u.data.toList = (fitL t ms && isVer u.data.toList && (decide (t ≠ []) || ms.any (liesL u.data.toList))) := rfl
  have hne := empty_at t
  have CO := hide (fun a c B W (hm : Mrs W (.slice a ms.length c) ms) hb hk => Contains_any a ms.length c ms B u W hm hs.1 hb hk)
  generalize wantL t ms u.data.toList = X at *
  generalize fitL t ms = F at *
  generalize isVer u.data.toList = V at *
  generalize ms.any (liesL u.data.toList) = A at *
  generalize decide (t ≠ []) = T at *
  have HX := hide hX
  obtain ⟨a0, c0, rfl, _⟩ := id hv
  have HV := hide hv
  have k1 := World.alloc_heap_new (w.alloc (.cells #[.string (ofL t), .slice a0 ms.length c0] 24)) (.cells #[.string u] 9)
  rw [World.size_alloc] at k1
  have k0 := (Below.heap_alloc (w.alloc (.cells #[.string (ofL t), .slice a0 ms.length c0] 24)) (.cells #[.string u] 9) w.heap.size (by simp)).trans (World.alloc_heap_new w (.cells #[.string (ofL t), .slice a0 ms.length c0] 24))
  have hB0 := hide (((Below.refl _ w).alloc (Nat.le_refl _) (.cells #[.string (ofL t), .slice a0 ms.length c0] 24)).alloc (by simp) (.cells #[.string u] 9))
  have HK := hide ((hk.alloc (.cells #[.string (ofL t), .slice a0 ms.length c0] 24)).alloc (.cells #[.string u] 9))
  have N0 := hide k0
  have N1 := hide k1
  clear hv hk hs hX k0 k1
  go_enter Tryd.func25, Tryd.ntmps25
  go_wp2_with fail
  generalize (w.alloc (.cells #[.string (ofL t), .slice a0 ms.length c0] 24)).alloc (.cells #[.string u] 9) = W0 at *
  refine (FI.out _ (HV.out.below hB0.out) HK.out).mono ?_
  rintro e w1 ⟨rfl, b1⟩
  have hb1 := hB0.out.trans (b1.mono hB0.out.size)
  have n0 := (b1.block _ (Array.getElem?_eq_some_iff.1 N0.out).1).trans N0.out
  have n1 := (b1.block _ (Array.getElem?_eq_some_iff.1 N1.out).1).trans N1.out
  have hk1 := hide (HK.out.below HK.out.pos b1)
  have HN0 := hide n0
  have HN1 := hide n1
  have HB1 := hide hb1
  have y0 : w1.cell? ⟨w.heap.size, 0, none⟩ = some (.string (ofL t)) := cell_at 0 n0 rfl
  have y1 : w1.cell? ⟨w.heap.size, 1, none⟩ = some (.slice a0 ms.length c0) := cell_at 1 n0 rfl
  have y2 : w1.cell? ⟨w.heap.size + 1, 0, none⟩ = some (.string u) := cell_at 0 n1 rfl
  clear b1 hb1 n0 n1 HK N0 N1 hB0 FI
  cases F with
  | false =>
    have HX2 : Hid (X = false) := by show _ = _; rw [HX.out]; rfl
    go_wp2_with fail
    go_ret
    exact ⟨by rw [HX2.out]; rfl, HB1.out⟩
  | true =>
    go_wp2_with fail
    refine (IV.out _ hk1.out).mono ?_
    rintro e w2 ⟨rfl, b2⟩
    have hb2 := HB1.out.trans (b2.mono HB1.out.size)
    have n0 := (b2.block _ (Array.getElem?_eq_some_iff.1 HN0.out).1).trans HN0.out
    have n1 := (b2.block _ (Array.getElem?_eq_some_iff.1 HN1.out).1).trans HN1.out
    have hk2 := hide (hk1.out.below hk1.out.pos b2)
    have HM1 := hide n1
    have HB2 := hide hb2
    have z0 : w2.cell? ⟨w.heap.size, 0, none⟩ = some (.string (ofL t)) := cell_at 0 n0 rfl
    have z1 : w2.cell? ⟨w.heap.size, 1, none⟩ = some (.slice a0 ms.length c0) := cell_at 1 n0 rfl
    clear b2 hb2 n0 n1 HN0 HN1 HB1 y0 y1 y2
    cases V with
    | false =>
      have HX2 : Hid (X = false) := by show _ = _; rw [HX.out]; rfl
      go_wp2_with fail
      go_ret
      exact ⟨by rw [HX2.out]; rfl, HB2.out⟩
    | true =>
      cases T with
      | true =>
        have HX2 : Hid (X = true) := by show _ = _; rw [HX.out]; rfl
        go_wp2_with fail
        go_ret
        exact ⟨by rw [HX2.out]; rfl, HB2.out⟩
      | false =>
        have HX2 : Hid (X = A) := by show _ = _; rw [HX.out]; rfl
        have CQ := hide (CO.out a0 c0 (w.heap.size + 1) w2 (HV.out.below HB2.out) HM1.out hk2.out)
        go_wp2_with fail
        refine CQ.out.mono ?_
        rintro e w3 ⟨rfl, b3⟩
        go_wp2_with fail
        go_ret
        exact ⟨by rw [HX2.out]; rfl, HB2.out.trans (b3.mono HB2.out.size)⟩

set_option maxRecDepth 100000 in
set_option maxHeartbeats 2000000 in
theorem Match_any (s u : ByteArray) (w : World) (hk : Kn w) :
    Calls Tryd.prog 15 #[.string s, .string u] w fun e w' => e = .returned (.bool (matchL s.data.toList u.data.toList)) ∧ Below w.heap.size w w' := by
  have PA := hide (Parse_any s w hk)
  have HS := hide (pa_small s.data.toList)
  have hX : matchL s.data.toList u.data.toList = wantL (paL s.data.toList).soft (paL s.data.toList).ms u.data.toList := rfl
  rw [hX]
  generalize paL s.data.toList = P at *
  have WA := hide (fun v W (hv : Mrs W v P.ms) hk => Wants_any P.soft v P.ms u W hv HS.out hk)
  go_enter Tryd.func15, Tryd.ntmps15
  go_wp2_with fail
  refine PA.out.mono ?_
  rintro e w1 ⟨v, rfl, hm, b1⟩
  obtain ⟨a, c, rfl, _⟩ := id hm
  have hB := hide ((b1.alloc b1.size (.cells #[.string (ofL P.soft), .slice a P.ms.length c] 24)).alloc (by rw [World.size_alloc]; have := b1.size; omega) (.cells #[.int .i64 P.err, .int .i64 (P.at' : Int)] 28))
  have hM := hide (hm.mrs.below (((Below.refl _ w1).alloc (Nat.le_refl _) (.cells #[.string (ofL P.soft), .slice a P.ms.length c] 24)).alloc (by simp) (.cells #[.int .i64 P.err, .int .i64 (P.at' : Int)] 28)))
  have hK := hide (hk.below hk.pos hB.out)
  clear hm b1 hk PA
  go_wp2_with fail
  refine (WA.out _ _ hM.out hK.out).mono ?_
  rintro e w2 ⟨rfl, b2⟩
  go_wp2_with fail
  go_ret
  exact ⟨rfl, hB.out.trans (b2.mono hB.out.size)⟩

end Go.Proofs.YtpedljmpobhimaaDoor
